
/- The order of stamps; sorted lists are one. No conditions. -/
import Derived.Test.YtbcgfohacbapoaaCk6
namespace Go.Proofs.Ytbcgfohacbapoaa

/-- a is before b. -/
def bef (a b : Sm) : Bool := if a.t ≠ b.t then decide (a.t < b.t) else if a.p ≠ b.p then decide (a.p < b.p) else decide (a.n < b.n)
theorem bef_iff (a b : Sm) : bef a b = true ↔ a.t < b.t ∨ (a.t = b.t ∧ (a.p < b.p ∨ (a.p = b.p ∧ a.n < b.n))) := by
  unfold bef; split
  · simp; omega
  · split
    · simp; omega
    · simp; omega
theorem bef_irr (a : Sm) : bef a a = false := by
  cases h : bef a a
  · rfl
  · rw [bef_iff] at h; omega
theorem bef_trans {a b c : Sm} (h1 : bef a b = true) (h2 : bef b c = true) : bef a c = true := by
  rw [bef_iff] at *; omega
theorem bef_asymm {a b : Sm} (h1 : bef a b = true) : bef b a = false := by
  cases h : bef b a
  · rfl
  · rw [bef_iff] at *; omega
theorem bef_total {a b : Sm} (h1 : bef a b = false) (h2 : bef b a = false) : a = b := by
  have h3 : ¬ bef a b = true := by simp [h1]
  have h4 : ¬ bef b a = true := by simp [h2]
  rw [bef_iff] at h3 h4
  cases a; cases b; simp only [Sm.mk.injEq] at *; omega
/-- a is not after b. -/
def nat6 (a b : Sm) : Prop := bef b a = false
theorem nat6_trans {a b c : Sm} (h1 : nat6 a b) (h2 : nat6 b c) : nat6 a c := by
  unfold nat6 at *
  have h3 : ¬ bef b a = true := by simp [h1]
  have h4 : ¬ bef c b = true := by simp [h2]
  cases h : bef c a
  · rfl
  · rw [bef_iff] at *; omega
/-- out is l in order. -/
def IsSrt (l out : List Sm) : Prop := out.Perm l ∧ out.Pairwise nat6
theorem sorted_eq : ∀ {o1 o2 : List Sm}, o1.Perm o2 → o1.Pairwise nat6 → o2.Pairwise nat6 → o1 = o2
  | [], o2, h, _, _ => by have := h.length_eq; simp at this; exact (List.eq_nil_of_length_eq_zero this.symm).symm
  | x :: r, [], h, _, _ => by have := h.length_eq; simp at this
  | x :: r, y :: q, h, h1, h2 => by
    have hx : x ∈ y :: q := h.mem_iff.1 (by simp)
    have hy : y ∈ x :: r := h.mem_iff.2 (by simp)
    rw [List.pairwise_cons] at h1 h2
    have e : x = y := by
      simp only [List.mem_cons] at hx hy
      rcases hx with e | hx
      · exact e
      · rcases hy with e | hy
        · exact e.symm
        · exact bef_total (h2.1 x hx) (h1.1 y hy)
    subst e
    rw [sorted_eq (List.Perm.cons_inv h) h1.2 h2.2]
theorem IsSrt.unique {l o1 o2 : List Sm} (h1 : IsSrt l o1) (h2 : IsSrt l o2) : o1 = o2 := sorted_eq (h1.1.trans h2.1.symm) h1.2 h2.2
/-- Two lists in order, as one. -/
def mrg : List Sm → List Sm → List Sm
  | [], b => b
  | x :: a, [] => x :: a
  | x :: a, y :: b => if bef y x then y :: mrg (x :: a) b else x :: mrg a (y :: b)
theorem mrg_nil (a : List Sm) : mrg a [] = a := by cases a <;> simp [mrg]
theorem mrg_perm : ∀ a b : List Sm, (mrg a b).Perm (a ++ b)
  | [], b => by simp [mrg]
  | x :: a, [] => by simp [mrg]
  | x :: a, y :: b => by
    unfold mrg; split
    · exact ((mrg_perm (x :: a) b).cons y).trans List.perm_middle.symm
    · exact (mrg_perm a (y :: b)).cons x
theorem mrg_sorted : ∀ a b : List Sm, a.Pairwise nat6 → b.Pairwise nat6 → (mrg a b).Pairwise nat6
  | [], b, _, h => by simpa [mrg] using h
  | x :: a, [], h, _ => by simpa [mrg] using h
  | x :: a, y :: b, h1, h2 => by
    have g1 := List.pairwise_cons.1 h1; have g2 := List.pairwise_cons.1 h2
    unfold mrg; split
    · next hc =>
      refine List.pairwise_cons.2 ⟨fun z hz => ?_, mrg_sorted (x :: a) b h1 g2.2⟩
      have hm := (mrg_perm (x :: a) b).mem_iff.1 hz
      have hyx : nat6 y x := bef_asymm hc
      simp only [List.cons_append, List.mem_cons, List.mem_append] at hm
      rcases hm with rfl | hm | hm
      · exact hyx
      · exact nat6_trans hyx (g1.1 z hm)
      · exact g2.1 z hm
    · next hc =>
      refine List.pairwise_cons.2 ⟨fun z hz => ?_, mrg_sorted a (y :: b) g1.2 h2⟩
      have hm := (mrg_perm a (y :: b)).mem_iff.1 hz
      have hxy : nat6 x y := by unfold nat6; simpa using hc
      simp only [List.mem_append, List.mem_cons] at hm
      rcases hm with hm | rfl | hm
      · exact g1.1 z hm
      · exact hxy
      · exact nat6_trans hxy (g2.1 z hm)
theorem IsSrt.merge {a b o1 o2 : List Sm} (h1 : IsSrt a o1) (h2 : IsSrt b o2) : IsSrt (a ++ b) (mrg o1 o2) :=
  ⟨(mrg_perm o1 o2).trans (h1.1.append h2.1), mrg_sorted o1 o2 h1.2 h2.2⟩
theorem IsSrt.few {l : List Sm} (h : l.length < 2) : IsSrt l l := by
  refine ⟨List.Perm.refl _, ?_⟩
  match l, h with
  | [], _ => exact List.Pairwise.nil
  | [x], _ => exact List.pairwise_singleton _ _
  | _ :: _ :: _, h => simp at h; omega
/-- A further one, put where it belongs. -/
theorem IsSrt.insert {l out : List Sm} (h : IsSrt l out) {x : Sm} {k : Nat} (hk : k ≤ out.length) (h1 : ∀ i (hi : i < out.length), k ≤ i → bef x out[i] = true) (h2 : 0 < k → ∀ hk1 : k - 1 < out.length, bef x out[k - 1] = false) :
    IsSrt (l ++ [x]) (out.take k ++ x :: out.drop k) := by
  constructor
  · refine List.perm_middle.trans ?_
    rw [List.take_append_drop]
    exact (h.1.cons x).trans (by simpa using (List.perm_middle (a := x) (l₁ := l) (l₂ := [])).symm)
  · have hs := h.2
    rw [← List.take_append_drop k out] at hs
    rw [List.pairwise_append] at hs ⊢
    obtain ⟨g1, g2, g3⟩ := hs
    have hx : ∀ z ∈ out.drop k, nat6 x z := fun z hz => by
      obtain ⟨i, hi, rfl⟩ := List.getElem_of_mem hz
      rw [List.getElem_drop]
      simp only [List.length_drop] at hi
      exact bef_asymm (h1 (k + i) (by omega) (by omega))
    have hy : ∀ z ∈ out.take k, nat6 z x := fun z hz => by
      obtain ⟨i, hi, rfl⟩ := List.getElem_of_mem hz
      rw [List.getElem_take]
      simp only [List.length_take] at hi
      have hl := h2 (by omega) (by omega)
      by_cases he : i = k - 1
      · subst he; exact hl
      · exact nat6_trans (List.pairwise_iff_getElem.1 h.2 i (k - 1) (by omega) (by omega) (by omega)) hl
    refine ⟨g1, List.pairwise_cons.2 ⟨hx, g2⟩, fun a ha b hb => ?_⟩
    simp only [List.mem_cons] at hb
    rcases hb with rfl | hb
    · exact hy a ha
    · exact nat6_trans (hy a ha) (hx b hb)
end Go.Proofs.Ytbcgfohacbapoaa
