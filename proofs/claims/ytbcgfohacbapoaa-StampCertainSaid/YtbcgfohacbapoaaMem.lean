
/- Words for memory: a block that is known whole, how it is kept; slices whose cells are the groups of a number; laws on make, copy and append. No conditions. -/
import Derived.Test.YtbcgfohacbapoaaNum
import Derived.WalkKit
import Derived.Lib.Hide
import Derived.Outline
import Derived.Deep.DeepFit
import Derived.Deep.QuietTactic
import Derived.BigQuiet
import Derived.Laws.OwnMore
import Derived.Laws.MakeOwn
import Derived.Laws.CopyRow
import Derived.Laws.Rows
namespace Go.Proofs.Ytbcgfohacbapoaa
open Go.RowKit Go.Lib

theorem ret_int {k : IntKind} {a b : Int} (h : a = b) : Ending.returned (.int k a) = .returned (.int k b) := by rw [h]
/-- An int as a value. -/
def iv (x : Int) : Value := .int .i64 x

/-- Block g holds just these cells. -/
def Blk (w : World) (g : Nat) (t : TypeId) (cs : Array Value) : Prop := w.heap[g]? = some (.cells cs t (0, 0))
section
variable {w w' : World} {g : Nat} {t : TypeId} {cs : Array Value}
theorem Blk.lt (h : Blk w g t cs) : g < w.heap.size := (Array.getElem?_eq_some_iff.1 h).1
theorem Blk.cell (h : Blk w g t cs) {i : Nat} {v : Value} (hv : cs[i]? = some v) : w.cell? ⟨g, i, none⟩ = some v := by
  unfold Blk at h; simp [World.cell?, h, hv]
theorem Blk.frozen (h : Blk w g t cs) (i : Nat) : w.frozen? ⟨g, i, none⟩ = false := by
  unfold Blk at h; simp [World.frozen?, h]
theorem Blk.new (w : World) (t : TypeId) (cs : Array Value) : Blk (w.alloc (.cells cs t)) w.heap.size t cs := heap_alloc_new w _
theorem Blk.drew (h : Blk w g t cs) : Blk w.drew g t cs := h
theorem Blk.drewN (h : Blk w g t cs) (n : Nat) : Blk (w.drewN n) g t cs := h
theorem Blk.alloc (h : Blk w g t cs) (o : Obj) : Blk (w.alloc o) g t cs := (Below.heap_alloc w o g h.lt).trans h
theorem Blk.set (h : Blk w g t cs) (i : Nat) (u : Value) : Blk (w.setCell ⟨g, i, none⟩ u) g t (cs.setIfInBounds i u) := by
  unfold Blk at h ⊢; simp [World.setCell, Array.getElem?_modify, h]
theorem Blk.far (h : Blk w g t cs) {p : Addr} (hp : g ≠ p.block) (u : Value) : Blk (w.setCell p u) g t cs := (Below.heap_setCell w p u g hp).trans h
theorem Blk.below {B : Nat} (h : Blk w g t cs) (hb : Below B w w') (hg : g < B) : Blk w' g t cs := (hb.block g hg).trans h
theorem Blk.setRow (h : Blk w g t cs) (cs' : Array Value) : Blk (w.setRow g cs') g t cs' := setRow_heap w g cs cs' t (0, 0) h
theorem Blk.farRow {g' : Nat} (h : Blk w g t cs) (hg : g ≠ g') (cs' : Array Value) : Blk (w.setRow g' cs') g t cs := (setRow_other w g' g cs' hg).trans h
theorem Blk.only {row : Option Nat} (h : Blk w g t cs) (hg : w.grownBy w' row) (hne : some g ≠ row) : Blk w' g t cs := (hg.block g h.lt hne).trans h
end
theorem below_drewN {B : Nat} {a w : World} (h : Below B a w) (n : Nat) : Below B a (w.drewN n) := ⟨h.os, h.tape, h.output, h.size, h.block⟩
theorem below_setRow {B : Nat} {a w : World} (h : Below B a w) {g : Nat} (hg : B ≤ g) (cs : Array Value) : Below B a (w.setRow g cs) :=
  h.trans ⟨rfl, rfl, rfl, by simp, fun k hk => setRow_other w g k cs (by omega)⟩
theorem only_drewN {a w : World} {row : Option Nat} (h : a.grownBy w row) (n : Nat) : a.grownBy (w.drewN n) row := ⟨h.os, h.tape, h.output, h.size, h.block⟩
theorem only_drew {a w : World} {row : Option Nat} (h : a.grownBy w row) : a.grownBy w.drew row := ⟨h.os, h.tape, h.output, h.size, h.block⟩
theorem only_setCell {a w : World} {g : Nat} (h : a.grownBy w (some g)) (i : Nat) (u : Value) : a.grownBy (w.setCell ⟨g, i, none⟩ u) (some g) :=
  ⟨h.os, h.tape, h.output, by simpa [World.setCell] using h.size, fun k hk hne => (Below.heap_setCell w ⟨g, i, none⟩ u k (fun e => hne (by rw [e]))).trans (h.block k hk hne)⟩
theorem only_setRow {a w : World} {g : Nat} (h : a.grownBy w (some g)) (cs : Array Value) : a.grownBy (w.setRow g cs) (some g) :=
  ⟨h.os, h.tape, h.output, by simpa using h.size, fun k hk hne => (setRow_other w g k cs (fun e => hne (by rw [e]))).trans (h.block k hk hne)⟩
theorem iv_one (l : List Int) : ((l.map iv).toArray).all (·.oneCell') = true := by
  rw [Array.all_eq_true_iff_forall_mem]
  intro v hv
  simp at hv
  obtain ⟨x, _, rfl⟩ := hv
  rfl
theorem iv_at {l : List Int} {i : Nat} (h : i < l.length) : ((l.map iv).toArray)[i]? = some (iv l[i]) := by
  rw [List.getElem?_toArray, List.getElem?_map, List.getElem?_eq_getElem h]; rfl
theorem iv_set {l : List Int} {i : Nat} {x : Int} : ((l.map iv).toArray).setIfInBounds i (iv x) = ((l.set i x).map iv).toArray := by
  rw [List.setIfInBounds_toArray, List.map_set]

/-- The slice's cells are the groups of V. -/
def Am (w : World) (A : Option Addr) (n c V : Nat) : Prop :=
  n ≤ c ∧ (0 < n → ∃ b o, A = some ⟨b, o, none⟩ ∧ b < w.heap.size ∧ ∀ i, i < n → w.cell? ⟨b, o + i, none⟩ = some (.int .i64 (dg4 V i : Nat)))
section
variable {w w' : World} {A : Option Addr} {n c V : Nat}
theorem Am.below (h : Am w A n c V) (hb : Below w.heap.size w w') : Am w' A n c V :=
  ⟨h.1, fun hn => by
    obtain ⟨b, o, e, hl, hc⟩ := h.2 hn
    exact ⟨b, o, e, Nat.lt_of_lt_of_le hl hb.size, fun i hi => (hb.cell (p := ⟨b, o + i, none⟩) hl).trans (hc i hi)⟩⟩
theorem Am.drewN (h : Am w A n c V) (k : Nat) : Am (w.drewN k) A n c V := h
theorem Am.drew (h : Am w A n c V) : Am w.drew A n c V := h
theorem Am.less {m : Nat} (h : Am w A n c V) (hm : m ≤ n) : Am w A m c V :=
  ⟨Nat.le_trans hm h.1, fun h0 => by
    obtain ⟨b, o, e, hl, hc⟩ := h.2 (by omega)
    exact ⟨b, o, e, hl, fun i hi => hc i (by omega)⟩⟩
theorem Am.far (h : Am w A n c V) {p : Addr} (hp : ∀ b o, A = some ⟨b, o, none⟩ → b ≠ p.block) (u : Value) : Am (w.setCell p u) A n c V :=
  ⟨h.1, fun hn => by
    obtain ⟨b, o, e, hl, hc⟩ := h.2 hn
    exact ⟨b, o, e, by simpa [World.setCell] using hl, fun i hi => (World.cell?_of_block (w := w) (a := ⟨b, o + i, none⟩) (Below.heap_setCell w p u b (hp b o e))).trans (hc i hi)⟩⟩
theorem Am.zero : Am w A 0 c V := ⟨Nat.zero_le _, fun h => absurd h (by omega)⟩
theorem Am.of_blk {g : Nat} {t : TypeId} {L : List Int} (h : Blk w g t (L.map iv).toArray) (hL : L = grps V L.length) : Am w (some ⟨g, 0, none⟩) L.length L.length V :=
  ⟨Nat.le_refl _, fun _ => ⟨g, 0, rfl, h.lt, fun i hi => by
    rw [Nat.zero_add]
    have h1 := h.cell (iv_at hi)
    rw [h1]
    have h2 : L[i] = (grps V L.length)[i]'(by rw [grps_length]; exact hi) := by congr 1
    rw [h2, grps_at]; rfl⟩⟩
theorem Am.only {row : Option Nat} (h : Am w A n c V) (hg : w.grownBy w' row) (hne : ∀ b o, A = some ⟨b, o, none⟩ → some b ≠ row) : Am w' A n c V :=
  ⟨h.1, fun hn => by
    obtain ⟨b, o, e, hl, hc⟩ := h.2 hn
    exact ⟨b, o, e, Nat.lt_of_lt_of_le hl hg.size, fun i hi => hg.cell (hc i hi) (hne b o e)⟩⟩
end
/-- A number has been returned; what lay in memory has not changed. -/
def OutN (V : Nat) (w : World) (e : Ending) (w' : World) : Prop := ∃ A c, e = .returned (.slice A (glen V) c) ∧ Am w' A (glen V) c V ∧ Below w.heap.size w w'

theorem info_i64 : (Try.prog.info? 3).map (fun i => (i.zero, i.size, i.bytes)) = some (some (.int .i64 0), 1, 8) := by kernel_rfl
theorem info_of {P : Program} {e : TypeId} {z : Value} {s b : Nat} (h : (P.info? e).map (fun i => (i.zero, i.size, i.bytes)) = some (some z, s, b)) : ∃ i, P.info? e = some i ∧ i.zero = some z ∧ i.size = s ∧ i.bytes = b := by
  cases hq : P.info? e with
  | none => simp [hq] at h
  | some i =>
    have : i.zero = some z ∧ i.size = s ∧ i.bytes = b := by simpa [hq] using h
    exact ⟨i, rfl, this.1, this.2.1, this.2.2⟩
/-- New cells. -/
def zc (k : Nat) : Array Value := ((List.replicate k (0 : Int)).map iv).toArray
/-- make of ints. -/
theorem run_make_ints (t : TypeId) (ht : Try.prog.underlying t = some (.slice 3)) (l k : Nat) (hl : l ≤ k) (hk : k ≤ 100000) (w : World) :
    (Instr.makeSlice t (.int .i64 (l : Nat)) (.int .i64 (k : Nat))).run Try.prog w = .ok (.slice (some ⟨w.heap.size, 0, none⟩) l k) (w.alloc (.cells (zc k) 3)) := by
  unfold zc
  obtain ⟨i, hi, hz, hs, hb⟩ := info_of info_i64
  have h := run_make (P := Try.prog) w t 3 i (.int .i64 0) ht hi hz .i64 .i64 l k (by omega) (by omega) (by rw [hb]; omega) (by omega)
  rw [hs] at h
  have e : madeCells (Value.int .i64 0).cells k = ((List.replicate k (0 : Int)).map iv).toArray := by
    apply Array.ext
    · simp [madeCells]
    · intro j h1 h2
      simp [madeCells, Nat.mod_one, iv, Value.cells]
  simp only [Int.toNat_natCast, Nat.mul_one] at h
  rw [e] at h
  exact h
/-- append of one int where there is room. -/
theorem wpList_append_room {w : World} {ops : Array Oper} {rest : List Oper} {o : Oper} {a : Act} {Q : Exit → Act → World → Prop} (hgd : o.guard = none) (s x : Operand) (t : TypeId)
    (ho : o.op = .call { callee := .builtin .append, args := #[s, x], argTypes := #[t, t] }) (ht : Try.prog.underlying t = some (.slice 3))
    (g n cap : Nat) (cur : Array Value) (hs : a.eval s = .slice (some ⟨g, 0, none⟩) n cap) (hg : Blk w g 3 cur)
    (ad : Addr) (u : Value) (hx : a.eval x = .slice (some ad) 1 1) (hu : w.cell? ad = some u) (hu1 : u.oneCell' = true) (hroom : n + 1 ≤ cap) (hfit : n + 1 ≤ cur.size)
    (h : ∀ w1, w1 = w.setRow g (cur.setIfInBounds n u) → wpList Try.prog ops Q rest (a.put o.dst (.slice (some ⟨g, 0, none⟩) (n + 1) cap)) w1) : wpList Try.prog ops Q (o :: rest) a w := by
  obtain ⟨i, hi, hz, hsz, hb⟩ := info_of info_i64
  refine wpList_plain hgd fun K hK => ?_
  have hr := run_append_room (P := Try.prog) w t o.type 3 i ht hi g n cap cur hg ad 1 1 [u] (by rw [hsz]; rfl) (by
    intro j v hj
    cases j with
    | zero => have : u = v := by simpa using hj
              subst this
              have e : ad.add 0 = ad := by unfold Addr.add; split <;> simp_all
              rw [e]; exact hu
    | succ j => simp at hj) (by intro v hv; rw [List.mem_singleton] at hv; rw [hv]; exact hu1) hroom (by rw [hsz]; simp; omega)
  rw [hsz] at hr
  have e : (cur.toList.take (n * 1) ++ [u] ++ cur.toList.drop (n * 1 + [u].length)).toArray = cur.setIfInBounds n u := by
    apply Array.toList_inj.1
    simp only [Nat.mul_one, List.length_singleton, Array.toList_setIfInBounds]
    rw [List.set_eq_take_append_cons_drop, if_pos (by simp; omega)]
    simp
  rw [e] at hr
  unfold Oper.wp execOp
  simp only [ho, resolve, invoke, builtin, Sem.run_bind, Sem.run_pure, Result.andThen_ok, List.map_toArray, List.map_cons, List.map_nil, hs, hx, hr]
  exact hK _ _ (h _ rfl)
end Go.Proofs.Ytbcgfohacbapoaa
