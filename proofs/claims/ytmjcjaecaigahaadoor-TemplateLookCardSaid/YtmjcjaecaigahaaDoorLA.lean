/- Numbers in groups of four digits, as plain mathematics. No conditions. | Words for memory: a block that is known whole, how it is kept; slices whose cells are the groups of a number; laws on make, copy and append. No conditions. | New blocks, one after the other. No conditions. -/
import Derived.Test.YtmjcjaecaigahaaDoorRows
import Derived.WalkKit
import Derived.Lib.Hide
import Derived.Outline
import Derived.Deep.DeepFit
import Derived.Deep.QuietTactic
import Derived.BigQuiet
import Derived.Laws.OwnMore
import Derived.Laws.MakeOwn
import Derived.Laws.CopyRow
import Derived.Laws.Rows
namespace Go.Proofs.YtmjcjaecaigahaaDoor

/-- The group of a number at a place. -/
def dg4 (V i : Nat) : Nat := V / 10000 ^ i % 10000
/-- The list of the groups of a number. -/
def grps (V n : Nat) : List Int := (List.range n).map fun i => (dg4 V i : Int)
theorem grps_length (V n : Nat) : (grps V n).length = n := by simp [grps]
theorem grps_at (V n i : Nat) (h : i < (grps V n).length) : (grps V n)[i] = dg4 V i := by simp [grps]
end Go.Proofs.YtmjcjaecaigahaaDoor
namespace Go.Proofs.YtmjcjaecaigahaaDoor
open Go.RowKit Go.Lib

theorem ret_int {k : IntKind} {a b : Int} (h : a = b) : Ending.returned (.int k a) = .returned (.int k b) := by rw [h]
/-- An int as a value. -/
def iv (x : Int) : Value := .int .i64 x

/-- Block g holds just these cells. -/
def Blk (w : World) (g : Nat) (t : TypeId) (cs : Array Value) : Prop := w.heap[g]? = some (.cells cs t (0, 0))
section
variable {w w' : World} {g : Nat} {t : TypeId} {cs : Array Value}
theorem Blk.lt (h : Blk w g t cs) : g < w.heap.size := (Array.getElem?_eq_some_iff.1 h).1
theorem Blk.cell (h : Blk w g t cs) {i : Nat} {v : Value} (hv : cs[i]? = some v) : w.cell? ⟨g, i, none⟩ = some v := by
  unfold Blk at h; simp [World.cell?, h, hv]
theorem Blk.frozen (h : Blk w g t cs) (i : Nat) : w.frozen? ⟨g, i, none⟩ = false := by
  unfold Blk at h; simp [World.frozen?, h]
theorem Blk.new (w : World) (t : TypeId) (cs : Array Value) : Blk (w.alloc (.cells cs t)) w.heap.size t cs := heap_alloc_new w _
theorem Blk.drew (h : Blk w g t cs) : Blk w.drew g t cs := h
theorem Blk.alloc (h : Blk w g t cs) (o : Obj) : Blk (w.alloc o) g t cs := (Below.heap_alloc w o g h.lt).trans h
theorem Blk.set (h : Blk w g t cs) (i : Nat) (u : Value) : Blk (w.setCell ⟨g, i, none⟩ u) g t (cs.setIfInBounds i u) := by
  unfold Blk at h ⊢; simp [World.setCell, Array.getElem?_modify, h]
theorem Blk.far (h : Blk w g t cs) {p : Addr} (hp : g ≠ p.block) (u : Value) : Blk (w.setCell p u) g t cs := (Below.heap_setCell w p u g hp).trans h
theorem Blk.below {B : Nat} (h : Blk w g t cs) (hb : Below B w w') (hg : g < B) : Blk w' g t cs := (hb.block g hg).trans h
theorem Blk.only {row : Option Nat} (h : Blk w g t cs) (hg : w.grownBy w' row) (hne : some g ≠ row) : Blk w' g t cs := (hg.block g h.lt hne).trans h
end
theorem iv_at {l : List Int} {i : Nat} (h : i < l.length) : ((l.map iv).toArray)[i]? = some (iv l[i]) := by
  rw [List.getElem?_toArray, List.getElem?_map, List.getElem?_eq_getElem h]; rfl
theorem iv_set {l : List Int} {i : Nat} {x : Int} : ((l.map iv).toArray).setIfInBounds i (iv x) = ((l.set i x).map iv).toArray := by
  rw [List.setIfInBounds_toArray, List.map_set]

/-- The slice's cells are the groups of V. -/
def Am (w : World) (A : Option Addr) (n c V : Nat) : Prop :=
  n ≤ c ∧ (0 < n → ∃ b o, A = some ⟨b, o, none⟩ ∧ b < w.heap.size ∧ ∀ i, i < n → w.cell? ⟨b, o + i, none⟩ = some (.int .i64 (dg4 V i : Nat)))
section
variable {w w' : World} {A : Option Addr} {n c V : Nat}
theorem Am.below (h : Am w A n c V) (hb : Below w.heap.size w w') : Am w' A n c V :=
  ⟨h.1, fun hn => by
    obtain ⟨b, o, e, hl, hc⟩ := h.2 hn
    exact ⟨b, o, e, Nat.lt_of_lt_of_le hl hb.size, fun i hi => (hb.cell (p := ⟨b, o + i, none⟩) hl).trans (hc i hi)⟩⟩
theorem Am.drew (h : Am w A n c V) : Am w.drew A n c V := h
theorem Am.far (h : Am w A n c V) {p : Addr} (hp : ∀ b o, A = some ⟨b, o, none⟩ → b ≠ p.block) (u : Value) : Am (w.setCell p u) A n c V :=
  ⟨h.1, fun hn => by
    obtain ⟨b, o, e, hl, hc⟩ := h.2 hn
    exact ⟨b, o, e, by simpa [World.setCell] using hl, fun i hi => (World.cell?_of_block (w := w) (a := ⟨b, o + i, none⟩) (Below.heap_setCell w p u b (hp b o e))).trans (hc i hi)⟩⟩
theorem Am.zero : Am w A 0 c V := ⟨Nat.zero_le _, fun h => absurd h (by omega)⟩
theorem Am.of_blk {g : Nat} {t : TypeId} {L : List Int} (h : Blk w g t (L.map iv).toArray) (hL : L = grps V L.length) : Am w (some ⟨g, 0, none⟩) L.length L.length V :=
  ⟨Nat.le_refl _, fun _ => ⟨g, 0, rfl, h.lt, fun i hi => by
    rw [Nat.zero_add]
    have h1 := h.cell (iv_at hi)
    rw [h1]
    have h2 : L[i] = (grps V L.length)[i]'(by rw [grps_length]; exact hi) := by congr 1
    rw [h2, grps_at]; rfl⟩⟩
theorem Am.only {row : Option Nat} (h : Am w A n c V) (hg : w.grownBy w' row) (hne : ∀ b o, A = some ⟨b, o, none⟩ → some b ≠ row) : Am w' A n c V :=
  ⟨h.1, fun hn => by
    obtain ⟨b, o, e, hl, hc⟩ := h.2 hn
    exact ⟨b, o, e, Nat.lt_of_lt_of_le hl hg.size, fun i hi => hg.cell (hc i hi) (hne b o e)⟩⟩
end
theorem info_i64 : (Tryd.prog.info? 3).map (fun i => (i.zero, i.size, i.bytes)) = some (some (.int .i64 0), 1, 8) := by kernel_rfl
theorem info_of {P : Program} {e : TypeId} {z : Value} {s b : Nat} (h : (P.info? e).map (fun i => (i.zero, i.size, i.bytes)) = some (some z, s, b)) : ∃ i, P.info? e = some i ∧ i.zero = some z ∧ i.size = s ∧ i.bytes = b := by
  cases hq : P.info? e with
  | none => simp [hq] at h
  | some i =>
    have : i.zero = some z ∧ i.size = s ∧ i.bytes = b := by simpa [hq] using h
    exact ⟨i, rfl, this.1, this.2.1, this.2.2⟩
/-- New cells. -/
def zc (k : Nat) : Array Value := ((List.replicate k (0 : Int)).map iv).toArray
/-- make of ints. -/
theorem run_make_ints (t : TypeId) (ht : Tryd.prog.underlying t = some (.slice 3)) (l k : Nat) (hl : l ≤ k) (hk : k ≤ 100000) (w : World) :
    (Instr.makeSlice t (.int .i64 (l : Nat)) (.int .i64 (k : Nat))).run Tryd.prog w = .ok (.slice (some ⟨w.heap.size, 0, none⟩) l k) (w.alloc (.cells (zc k) 3)) := by
  unfold zc
  obtain ⟨i, hi, hz, hs, hb⟩ := info_of info_i64
  have h := run_make (P := Tryd.prog) w t 3 i (.int .i64 0) ht hi hz .i64 .i64 l k (by omega) (by omega) (by rw [hb]; omega) (by omega)
  rw [hs] at h
  have e : madeCells (Value.int .i64 0).cells k = ((List.replicate k (0 : Int)).map iv).toArray := by
    apply Array.ext
    · simp [madeCells]
    · intro j h1 h2
      simp [madeCells, Nat.mod_one, iv, Value.cells]
  simp only [Int.toNat_natCast, Nat.mul_one] at h
  rw [e] at h
  exact h
end Go.Proofs.YtmjcjaecaigahaaDoor
namespace Go.Proofs.YtmjcjaecaigahaaDoor
open Go.RowKit Go.Lib

/-- New blocks, one after the other. -/
def allocs (w : World) : List (Array Value × TypeId) → World
  | [] => w
  | x :: r => allocs (w.alloc (.cells x.1 x.2)) r
theorem allocs_size : ∀ (l : List (Array Value × TypeId)) (w : World), (allocs w l).heap.size = w.heap.size + l.length
  | [], _ => rfl
  | x :: r, w => by
    show (allocs _ r).heap.size = _
    rw [allocs_size r]; simp; omega
theorem allocs_below : ∀ (l : List (Array Value × TypeId)) (w : World) {B : Nat} {w0 : World}, Below B w0 w → B ≤ w.heap.size → Below B w0 (allocs w l)
  | [], _, _, _, h, _ => h
  | x :: r, w, _, _, h, hB => allocs_below r _ (h.alloc hB _) (by simp; omega)
theorem allocs_keep : ∀ (l : List (Array Value × TypeId)) (w : World) {g : Nat} {t : TypeId} {cs : Array Value}, Blk w g t cs → Blk (allocs w l) g t cs
  | [], _, _, _, _, h => h
  | _ :: r, _, _, _, _, h => allocs_keep r _ (h.alloc _)
theorem allocs_blk : ∀ (l : List (Array Value × TypeId)) (w : World) (i : Nat) (x : Array Value × TypeId), l[i]? = some x → Blk (allocs w l) (w.heap.size + i) x.2 x.1
  | y :: r, w, 0, x, h => by
    simp at h
    subst h
    exact allocs_keep r _ (Blk.new w _ _)
  | y :: r, w, i + 1, x, h => by
    have h2 := allocs_blk r (w.alloc (.cells y.1 y.2)) i x (by simpa using h)
    rw [show (w.alloc (.cells y.1 y.2)).heap.size + i = w.heap.size + (i + 1) from by simp; omega] at h2
    exact h2
end Go.Proofs.YtmjcjaecaigahaaDoor
