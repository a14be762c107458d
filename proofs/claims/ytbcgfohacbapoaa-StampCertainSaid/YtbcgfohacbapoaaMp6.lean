
/- A map from persons to skews that the call has made. No conditions. -/
import Derived.Test.YtbcgfohacbapoaaMq6
import Derived.Maps.OwnSet
import Derived.RangeFuncOwn
namespace Go.Proofs.Ytbcgfohacbapoaa
open Go.RowKit Go.Lib Go.Maps

/-- How a skew in the map reads. -/
def skD (s : Sk) : DataW Unit := .agg [.lit (.int .i64 s.p), .lit (.int .i64 s.lo), .lit (.int .i64 s.hi)]
open Classical in
noncomputable def skR (v : Value) : Option (DataW Unit × List MemPlace) := if h : ∃ s, v = skv s then some (skD (Classical.choose h), []) else none
theorem skv_inj {s t : Sk} (h : skv s = skv t) : s = t := by
  cases s; cases t
  simp at h
  obtain ⟨rfl, rfl, rfl⟩ := h; rfl
theorem skR_mk (s : Sk) : skR (skv s) = some (skD s, []) := by
  have h : ∃ t, skv s = skv t := ⟨s, rfl⟩
  unfold skR; rw [dif_pos h, ← skv_inj (Classical.choose_spec h)]
theorem skD_inj {s t : Sk} (h : skD s = skD t) : s = t := by
  cases s; cases t; simp only [skD, DataW.agg.injEq, List.cons.injEq, DataW.lit.injEq, Lit.int.injEq, true_and, and_true] at h
  obtain ⟨rfl, rfl, rfl⟩ := h; rfl
theorem skR_inv {v : Value} {s : Sk} {ps : List MemPlace} (h : skR v = some (skD s, ps)) : v = skv s := by
  unfold skR at h
  split at h
  · next hx =>
    simp only [Option.some.injEq, Prod.mk.injEq] at h
    rw [← skD_inj h.1]; exact Classical.choose_spec hx
  · cases h
/-- An int. -/
def i64 (q : Int) : Prop := -9223372036854775808 ≤ q ∧ q ≤ 9223372036854775807
theorem keyed3 : Keyed Try.prog 3 := int_keyed Try.underlying3
theorem key3 {q : Int} (h : i64 q) : keyOf Try.prog 3 (.int .i64 q) = some (.int .i64 q) := keyOf_int_mk Try.underlying3 (WalkArith.wf_i64 h)
/-- Block b is a map with n persons (K: who), and what it says of each. -/
def MapB (W : World) (b n : Nat) (K : Int → Bool) (F : Int → Sk) : Prop :=
  ∃ D, W.ownsMap Try.prog 3 skR b n D ∧ Maps.size D = n ∧ ∀ q, i64 q → Maps.has D (.int .i64 q) = K q ∧ D.atKey (.int .i64 q) (skD z0) = skD (F q)
section
variable {W W' : World} {b n : Nat} {K : Int → Bool} {F : Int → Sk}
theorem MapB.made (W : World) : MapB (W.alloc (.map #[] 0)) W.heap.size 0 (fun _ => false) (fun _ => z0) :=
  ⟨_, World.ownsMap_made W Try.prog 3 skR, rfl, fun _ _ => ⟨rfl, rfl⟩⟩
theorem MapB.lt (h : MapB W b n K F) : b < W.heap.size := by obtain ⟨D, h1, _⟩ := h; exact h1.lt
theorem MapB.kept {row : Option Nat} (h : MapB W b n K F) (hg : W.grownBy W' row) (hne : some b ≠ row) : MapB W' b n K F := by
  obtain ⟨D, h1, h2⟩ := h; exact ⟨D, h1.kept hg hne, h2⟩
theorem MapB.same (h : MapB W b n K F) (hb : W'.heap[b]? = W.heap[b]?) : MapB W' b n K F := by
  obtain ⟨D, ⟨es, ck, h1, h2⟩, h3⟩ := h; exact ⟨D, ⟨es, ck, hb.trans h1, h2⟩, h3⟩
theorem MapB.below {B : Nat} (h : MapB W b n K F) (hb : Below B W W') (hB : b < B) : MapB W' b n K F := h.same (hb.block b hB)
theorem MapB.alloc (h : MapB W b n K F) (o : Obj) : MapB (W.alloc o) b n K F := h.same (Below.heap_alloc W o b h.lt)
theorem MapB.drew (h : MapB W b n K F) : MapB W.drew b n K F := h
theorem MapB.obj (h : MapB W b n K F) : ∃ o : Obj, W.heap[b]? = some o ∧ o.isCells = false := by obtain ⟨D, ⟨es, ck, h1, _⟩, _⟩ := h; exact ⟨_, h1, rfl⟩
theorem MapB.setCell (h : MapB W b n K F) {a : Addr} (ha : b ≠ a.block) (u : Value) : MapB (W.setCell a u) b n K F := h.same (Below.heap_setCell W a u b ha)
/-- 'm[q]'. -/
theorem MapB.look (h : MapB W b n K F) {q : Int} (hq : i64 q) : (Instr.lookup 124 (.map (some b)) (.int .i64 q) false).run Try.prog W = .ok (skv (F q)) W := by
  obtain ⟨D, h1, _, h3⟩ := h
  obtain ⟨v, ps, hrun, hv⟩ := h1.lookup keyed3 Try.underlying124 (Try.zeroValue77 W) (skR_mk z0) (key3 hq)
  rw [(h3 q hq).2] at hv
  rw [hrun, skR_inv hv]
/-- 'len(m)'. -/
theorem MapB.len (h : MapB W b n K F) (ty : TypeId) : (Builtin.len_ #[124] ty #[.map (some b)]).run Try.prog W = .ok (.int .i64 n) W := by
  obtain ⟨D, h1, h2, _⟩ := h
  have := h1.len Try.underlying124 ty
  rwa [h2] at this
theorem own_tight {D : DataW Unit} (h : W.ownsMap Try.prog 3 skR b n D) : W.ownsMap Try.prog 3 skR b (Maps.size D) D := by
  obtain ⟨es, ck, h1, h2, h3, rfl⟩ := h
  exact ⟨es, ck, h1, h2, Nat.le_of_eq (by rw [Maps.size_eq]; exact (length_read es).symm), rfl⟩
theorem key_lit (q : Int) : WideAt.IsKeyLit (.int .i64 q) := by simp [WideAt.IsKeyLit]
/-- 'm[q] = s'. -/
theorem MapB.store (h : MapB W b n K F) {q : Int} (hq : i64 q) (hn : n ≤ 1000) (s : Sk) : ∃ W', (Instr.mapUpdate 124 (.map (some b)) (.int .i64 q) (skv s)).run Try.prog W = .ok () W' ∧
    MapB W' b (if K q then n else n + 1) (fun x => if x = q then true else K x) (fun x => if x = q then s else F x) ∧ W.grownBy W' (some b) := by
  obtain ⟨D, h1, h2, h3⟩ := h
  obtain ⟨W', hrun, h4, h5⟩ := h1.update keyed3 Try.underlying124 (by unfold maxLen; omega) (key3 hq) (skR_mk s)
  have hT := h1.tidy keyed3
  have hsz : Maps.size (D.put (.int .i64 q) (skD s)) = if K q then n else n + 1 := by rw [size_put hT, (h3 q hq).1, h2]
  refine ⟨W', hrun, ⟨_, ?_, hsz, fun x hx => ?_⟩, h5⟩
  · have := own_tight h4; rwa [hsz] at this
  · by_cases e : x = q
    · subst e
      dsimp only
      rw [if_pos rfl, if_pos rfl]
      exact ⟨has_put_same hT.isMap (key_lit x) _, atKey_put_same hT.isMap (key_lit x) _ _⟩
    · dsimp only
      rw [if_neg e, if_neg e]
      have hne : (Lit.int .i64 x) ≠ Lit.int .i64 q := fun hc => e (by simpa using hc)
      rw [has_put_other hne, atKey_put_other hne]
      exact h3 x hx
end
end Go.Proofs.Ytbcgfohacbapoaa
