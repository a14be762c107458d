
/- The walk of StrokeThin. Conditions: the slice reads. -/
import Derived.Test.YtamogfcedkjmcaaLm5
import Derived.Test.YtamogfcedkjmcaaGs5
import Derived.Test.YtamogfcedkjmcaaOi5
import Derived.Test.YtamogfcedkjmcaaOL5
namespace Go.Proofs.Ytamogfcedkjmcaa
open Go.RowKit Go.Lib Go.Shelf

/-- The other list, as far as i: ascending, the first there, at the end the last. -/
def PkP (n i : Nat) (M : List Nat) : Prop := (∀ k a b, M[k]? = some a → M[k + 1]? = some b → a < b) ∧ (∀ a ∈ M, a < i) ∧ (0 < i → M[0]? = some 0) ∧ (i = n → M[M.length - 1]? = some (n - 1)) ∧ M.length ≤ i
theorem PkP.zero {n : Nat} (hn : 0 < n) : PkP n 0 [] := ⟨fun k a b h => by simp at h, fun a h => by simp at h, fun h => absurd h (by omega), fun h => absurd h (by omega), Nat.le_refl _⟩
theorem PkP.add {n i : Nat} {M : List Nat} (h : PkP n i M) : PkP n (i + 1) (M ++ [i]) := by
  obtain ⟨h1, h2, h3, -, h5⟩ := h
  refine ⟨fun k a b ha hb => ?_, fun a ha => ?_, fun _ => ?_, fun hn => ?_, by simp; omega⟩
  · by_cases hk : k + 1 < M.length
    · rw [List.getElem?_append_left (by omega)] at ha
      rw [List.getElem?_append_left hk] at hb
      exact h1 k a b ha hb
    · have hl := (List.getElem?_eq_some_iff.1 hb).1
      simp only [List.length_append, List.length_singleton] at hl
      rw [List.getElem?_append_left (by omega)] at ha
      have hbi : b = i := by
        rw [List.getElem?_append_right (by omega), show k + 1 - M.length = 0 by omega] at hb
        simpa using hb.symm
      have := h2 a (List.mem_of_getElem? ha)
      omega
  · rcases List.mem_append.1 ha with ha | ha
    · have := h2 a ha; omega
    · simp at ha; omega
  · by_cases hi : 0 < i
    · have := h3 hi
      rw [List.getElem?_append_left (List.getElem?_eq_some_iff.1 this).1]
      exact this
    · obtain rfl : i = 0 := by omega
      have : M = [] := List.length_eq_zero_iff.1 (by omega)
      rw [this]; rfl
  · rw [List.length_append, List.length_singleton, List.getElem?_append_right (by omega), show M.length + 1 - 1 - M.length = 0 by omega]
    show some i = some (n - 1)
    rw [← hn]; rfl
theorem PkP.skip {n i : Nat} {M : List Nat} (h : PkP n i M) (h0 : 0 < i) (hn : i + 1 < n) : PkP n (i + 1) M := by
  obtain ⟨h1, h2, h3, -, h5⟩ := h
  exact ⟨h1, fun a ha => by have := h2 a ha; omega, fun _ => h3 h0, fun h => absurd h (by omega), by omega⟩
/-- A list of numbers from the first to the last, ascending. -/
def LsP (n : Nat) (M : List Nat) : Prop := (∀ k a b, M[k]? = some a → M[k + 1]? = some b → a < b) ∧ (∀ a ∈ M, a < n) ∧ M[0]? = some 0 ∧ M[M.length - 1]? = some (n - 1)
theorem PkP.all {n : Nat} {M : List Nat} (h : PkP n n M) (hn : 0 < n) : LsP n M := ⟨h.1, h.2.1, h.2.2.1 hn, h.2.2.2.1 rfl⟩
theorem Wy.ls {B : Nat → Nat → Prop} {n : Nat} {M : List Nat} (h : Wy B (n - 1) M) (hn : 0 < n) : LsP n M := ⟨fun k a b ha hb => (h.next k a b ha hb).1, fun a ha => by have := h.le a ha; omega, h.first, h.last⟩
theorem LsP.wy {B : Nat → Nat → Prop} {n : Nat} {M : List Nat} (h : LsP n M) (hb : ∀ j x y, M[j]? = some x → M[j + 1]? = some y → B x y) : Wy B (n - 1) M := by
  have hl := (List.getElem?_eq_some_iff.1 h.2.2.1).1
  exact wy_of (M.length - 1) M (n - 1) (by omega) h.2.2.1 h.2.2.2 fun i a b ha hb2 => ⟨h.1 i a b ha hb2, hb i a b ha hb2⟩
theorem Le.len {l m : List Nat} (h : Le l m) : l.length ≤ m.length := by rcases h with h | h <;> omega
end Go.Proofs.Ytamogfcedkjmcaa
