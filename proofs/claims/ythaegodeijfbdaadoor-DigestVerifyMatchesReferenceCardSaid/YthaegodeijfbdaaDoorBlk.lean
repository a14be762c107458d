/- Words for memory: a block that is known whole; how it is kept. No conditions. -/
import Derived.Test.YthaegodeijfbdaaDoorWord
import Derived.Test.YthaegodeijfbdaaDoorRange
import Derived.Laws.OwnMore
import Derived.Laws.Rows
namespace Go.Proofs.YthaegodeijfbdaaDoor
open Go.RowKit Go.Lib

/-- A byte, a word, a string as a value. -/
def bv (b : UInt8) : Value := .int .u8 b.toNat
def wv (x : Nat) : Value := .int .u32 x
def sv (s : ByteArray) : Value := .string s

/-- Block g holds just these cells. -/
def Blk (w : World) (g : Nat) (t : TypeId) (cs : Array Value) : Prop := w.heap[g]? = some (.cells cs t (0, 0))
section
variable {w w' : World} {g : Nat} {t : TypeId} {cs : Array Value}
theorem Blk.lt (h : Blk w g t cs) : g < w.heap.size := (Array.getElem?_eq_some_iff.1 h).1
theorem Blk.cell (h : Blk w g t cs) {i : Nat} {v : Value} (hv : cs[i]? = some v) : w.cell? ⟨g, i, none⟩ = some v := by
  unfold Blk at h; simp [World.cell?, h, hv]
theorem Blk.frozen (h : Blk w g t cs) (i : Nat) : w.frozen? ⟨g, i, none⟩ = false := by
  unfold Blk at h; simp [World.frozen?, h]
theorem Blk.new (w : World) (t : TypeId) (cs : Array Value) : Blk (w.alloc (.cells cs t)) w.heap.size t cs := World.alloc_heap_new w _
theorem Blk.drew (h : Blk w g t cs) : Blk w.drew g t cs := h
theorem Blk.drewN (h : Blk w g t cs) (n : Nat) : Blk (w.drewN n) g t cs := h
theorem Blk.alloc (h : Blk w g t cs) (o : Obj) : Blk (w.alloc o) g t cs := (Below.heap_alloc w o g h.lt).trans h
theorem Blk.set (h : Blk w g t cs) (i : Nat) (u : Value) : Blk (w.setCell ⟨g, i, none⟩ u) g t (cs.setIfInBounds i u) := by
  unfold Blk at h ⊢; simp [World.setCell, Array.getElem?_modify, h]
theorem Blk.far (h : Blk w g t cs) {p : Addr} (hp : g ≠ p.block) (u : Value) : Blk (w.setCell p u) g t cs := (Below.heap_setCell w p u g hp).trans h
theorem Blk.below {B : Nat} (h : Blk w g t cs) (hb : Below B w w') (hg : g < B) : Blk w' g t cs := (hb.block g hg).trans h
end
theorem below_drewN {B : Nat} {a w : World} (h : Below B a w) (n : Nat) : Below B a (w.drewN n) := ⟨h.os, h.tape, h.output, h.size, h.block⟩

theorem Blk.setRow {w : World} {g : Nat} {t : TypeId} {cs : Array Value} (h : Blk w g t cs) (cs' : Array Value) : Blk (w.setRow g cs') g t cs' := setRow_heap w g cs cs' t (0, 0) h
theorem Blk.farRow {w : World} {g g' : Nat} {t : TypeId} {cs : Array Value} (h : Blk w g t cs) (hg : g ≠ g') (cs' : Array Value) : Blk (w.setRow g' cs') g t cs := (setRow_other w g' g cs' hg).trans h
theorem below_setRow {B : Nat} {a w : World} (h : Below B a w) {g : Nat} (hg : B ≤ g) (cs : Array Value) : Below B a (w.setRow g cs) :=
  h.trans ⟨rfl, rfl, rfl, by simp, fun k hk => setRow_other w g k cs (by omega)⟩
/-- Only block g has changed, and what is new. -/
theorem only_drewN {a w : World} {row : Option Nat} (h : a.grownBy w row) (n : Nat) : a.grownBy (w.drewN n) row := ⟨h.os, h.tape, h.output, h.size, h.block⟩
theorem only_drew {a w : World} {row : Option Nat} (h : a.grownBy w row) : a.grownBy w.drew row := ⟨h.os, h.tape, h.output, h.size, h.block⟩
theorem only_setCell {a w : World} {g : Nat} (h : a.grownBy w (some g)) (i : Nat) (u : Value) : a.grownBy (w.setCell ⟨g, i, none⟩ u) (some g) :=
  ⟨h.os, h.tape, h.output, by simpa [World.setCell] using h.size, fun k hk hne => (Below.heap_setCell w ⟨g, i, none⟩ u k (fun e => hne (by rw [e]))).trans (h.block k hk hne)⟩
theorem only_setRow {a w : World} {g : Nat} (h : a.grownBy w (some g)) (cs : Array Value) : a.grownBy (w.setRow g cs) (some g) :=
  ⟨h.os, h.tape, h.output, by simpa using h.size, fun k hk hne => (setRow_other w g k cs (fun e => hne (by rw [e]))).trans (h.block k hk hne)⟩

/-- Three new blocks. -/
theorem blk3 (w : World) (tA tB tC : TypeId) (A B C : Array Value) :
    Blk (((w.alloc (.cells A tA)).alloc (.cells B tB)).alloc (.cells C tC)) w.heap.size tA A ∧ Blk (((w.alloc (.cells A tA)).alloc (.cells B tB)).alloc (.cells C tC)) (w.heap.size + 1) tB B ∧
    Blk (((w.alloc (.cells A tA)).alloc (.cells B tB)).alloc (.cells C tC)) (w.heap.size + 1 + 1) tC C ∧ Below w.heap.size w (((w.alloc (.cells A tA)).alloc (.cells B tB)).alloc (.cells C tC)) := by
  have h2 := (Blk.new (w.alloc (.cells A tA)) tB B).alloc (.cells C tC)
  have h3 := Blk.new ((w.alloc (.cells A tA)).alloc (.cells B tB)) tC C
  rw [World.size_alloc] at h2
  rw [World.size_alloc, World.size_alloc] at h3
  exact ⟨((Blk.new w tA A).alloc _).alloc _, h2, h3, (((Below.refl _ w).alloc (Nat.le_refl _) _).alloc (by simp) _).alloc (by simp; omega) _⟩
theorem wv_one (l : List Nat) : ((l.map wv).toArray).all (·.oneCell') = true := by
  rw [Array.all_eq_true_iff_forall_mem]
  intro v hv
  simp at hv
  obtain ⟨x, _, rfl⟩ := hv
  rfl
theorem bv_one (l : List UInt8) : ((l.map bv).toArray).all (·.oneCell') = true := by
  rw [Array.all_eq_true_iff_forall_mem]
  intro v hv
  simp at hv
  obtain ⟨x, _, rfl⟩ := hv
  rfl

/-- The cells of a list in which the first k have been laid. -/
def rowN (n : Nat) (z : Value) (l : List Value) : Array Value := (l ++ List.replicate (n - l.length) z).toArray
theorem rowN_size {n : Nat} {z : Value} {l : List Value} (h : l.length ≤ n) : (rowN n z l).size = n := by simp [rowN]; omega
theorem rowN_full {n : Nat} {z : Value} {l : List Value} (h : l.length = n) : rowN n z l = l.toArray := by simp [rowN, h]
theorem rowN_set {n : Nat} {z : Value} {l : List Value} (h : l.length < n) (v : Value) : (rowN n z l).setIfInBounds l.length v = rowN n z (l ++ [v]) := by
  unfold rowN
  rw [List.setIfInBounds_toArray]
  congr 1
  rw [List.set_append_right _ _ (Nat.le_refl _), Nat.sub_self, show n - l.length = (n - (l ++ [v]).length) + 1 from by rw [List.length_append]; simp; omega, List.replicate_succ, List.set_cons_zero, List.append_assoc]
  rfl
theorem rowN_at {n : Nat} {z : Value} {l : List Value} {i : Nat} (h : i < l.length) : (rowN n z l)[i]? = some l[i] := by
  unfold rowN
  rw [List.getElem?_toArray, List.getElem?_append_left h, List.getElem?_eq_getElem h]
theorem rowN_ex {n : Nat} {z : Value} {l : List Value} {i : Nat} (h : l.length ≤ n) (hi : i < n) : ∃ v, (rowN n z l)[i]? = some v :=
  ⟨_, Array.getElem?_eq_getElem (by rw [rowN_size h]; exact hi)⟩
end Go.Proofs.YthaegodeijfbdaaDoor
