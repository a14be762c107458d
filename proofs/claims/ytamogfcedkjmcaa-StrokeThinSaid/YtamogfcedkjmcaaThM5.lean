
/- The fewest indices that say enough: lists from 0 to an index, their order, the least one, and how it is found from those before. No conditions. -/
import Derived.Test.YtamogfcedkjmcaaIn5
namespace Go.Proofs.Ytamogfcedkjmcaa
open Go.RowKit Go.Lib

/-- A list of indices from 0 to k, each two neighbours ascending and right. -/
inductive Wy (B : Nat → Nat → Prop) : Nat → List Nat → Prop
  | base : Wy B 0 [0]
  | step {i k : Nat} {l : List Nat} : Wy B i l → i < k → B i k → Wy B k (l ++ [k])
def lexN : List Nat → List Nat → Bool
  | a :: r, b :: s => if a = b then lexN r s else decide (a < b)
  | _, _ => false
/-- Fewer indices, or as many, and first. -/
def Le (l m : List Nat) : Prop := l.length < m.length ∨ (l.length = m.length ∧ (l = m ∨ lexN l m = true))
theorem lexN_total : ∀ (l m : List Nat), l.length = m.length → l = m ∨ lexN l m = true ∨ lexN m l = true
  | [], [], _ => .inl rfl
  | a :: r, b :: s, h => by
    by_cases hab : a = b
    · subst hab
      rcases lexN_total r s (by simpa using h) with h1 | h1 | h1
      · exact .inl (by rw [h1])
      · exact .inr (.inl (by simp [lexN, h1]))
      · exact .inr (.inr (by simp [lexN, h1]))
    · simp only [lexN, if_neg hab, if_neg (Ne.symm hab), decide_eq_true_eq]
      right; omega
theorem lexN_asymm : ∀ (l m : List Nat), lexN l m = true → lexN m l = true → False
  | [], [], h, _ => by cases h
  | [], _ :: _, h, _ => by cases h
  | _ :: _, [], h, _ => by cases h
  | a :: r, b :: s, h, h2 => by
    by_cases hab : a = b
    · subst hab
      simp only [lexN, if_pos] at h h2
      exact lexN_asymm r s h h2
    · simp only [lexN, if_neg hab, if_neg (Ne.symm hab), decide_eq_true_eq] at h h2
      omega
theorem lexN_irrefl (l : List Nat) : lexN l l = false := by
  cases h : lexN l l with
  | false => rfl
  | true => exact (lexN_asymm l l h h).elim
theorem lexN_trans : ∀ (l m n : List Nat), lexN l m = true → lexN m n = true → lexN l n = true
  | a :: r, b :: s, c :: t, h, h2 => by
    by_cases hab : a = b
    · subst hab
      simp only [lexN, if_pos] at h
      by_cases hac : a = c
      · subst hac
        simp only [lexN, if_pos] at h2 ⊢
        exact lexN_trans r s t h h2
      · simp only [lexN, if_neg hac] at h2 ⊢; exact h2
    · simp only [lexN, if_neg hab, decide_eq_true_eq] at h
      by_cases hbc : b = c
      · subst hbc
        simp only [lexN, if_neg hab, decide_eq_true_eq]; exact h
      · simp only [lexN, if_neg hbc, decide_eq_true_eq] at h2
        simp only [lexN, if_neg (show a ≠ c by omega), decide_eq_true_eq]; omega
  | [], _, _, h, _ => by cases ‹List Nat› <;> cases h
  | _ :: _, [], _, h, _ => by cases h
  | _ :: _, _ :: _, [], _, h => by cases h
theorem lexN_snoc : ∀ (l m : List Nat) (k : Nat), l.length = m.length → lexN (l ++ [k]) (m ++ [k]) = lexN l m
  | [], [], k, _ => by simp [lexN]
  | a :: r, b :: s, k, h => by
    simp only [List.cons_append, lexN]
    rw [lexN_snoc r s k (by simpa using h)]
theorem Le.refl (l : List Nat) : Le l l := .inr ⟨rfl, .inl rfl⟩
theorem Le.total (l m : List Nat) : Le l m ∨ Le m l := by
  rcases Nat.lt_trichotomy l.length m.length with h | h | h
  · exact .inl (.inl h)
  · rcases lexN_total l m h with h1 | h1 | h1
    · exact .inl (.inr ⟨h, .inl h1⟩)
    · exact .inl (.inr ⟨h, .inr h1⟩)
    · exact .inr (.inr ⟨h.symm, .inr h1⟩)
  · exact .inr (.inl h)
theorem Le.trans {l m n : List Nat} (h : Le l m) (h2 : Le m n) : Le l n := by
  rcases h with h | ⟨h, h1⟩
  · rcases h2 with h2 | ⟨h2, -⟩
    · exact .inl (by omega)
    · exact .inl (by omega)
  · rcases h2 with h2 | ⟨h2, h3⟩
    · exact .inl (by omega)
    · refine .inr ⟨by omega, ?_⟩
      rcases h1 with rfl | h1
      · exact h3
      · rcases h3 with rfl | h3
        · exact .inr h1
        · exact .inr (lexN_trans _ _ _ h1 h3)
theorem Le.anti {l m : List Nat} (h : Le l m) (h2 : Le m l) : l = m := by
  rcases h with h | ⟨h, h1⟩
  · rcases h2 with h2 | ⟨h2, -⟩ <;> omega
  · rcases h1 with h1 | h1
    · exact h1
    · rcases h2 with h2 | ⟨-, h3⟩
      · omega
      · rcases h3 with h3 | h3
        · exact h3.symm
        · exact (lexN_asymm _ _ h1 h3).elim
theorem Le.snoc {l m : List Nat} (h : Le l m) (k : Nat) : Le (l ++ [k]) (m ++ [k]) := by
  rcases h with h | ⟨h, h1⟩
  · exact .inl (by simp only [List.length_append, List.length_singleton]; omega)
  · refine .inr ⟨by simp only [List.length_append, List.length_singleton]; omega, ?_⟩
    rcases h1 with rfl | h1
    · exact .inl rfl
    · exact .inr (by rw [lexN_snoc _ _ _ h]; exact h1)
/-- The least list to k. -/
def IsThin (B : Nat → Nat → Prop) (k : Nat) (l : List Nat) : Prop := Wy B k l ∧ ∀ m, Wy B k m → Le l m
theorem IsThin.unique {B : Nat → Nat → Prop} {k : Nat} {l m : List Nat} (h : IsThin B k l) (h2 : IsThin B k m) : l = m := (h.2 m h2.1).anti (h2.2 l h.1)
theorem isThin_zero (B : Nat → Nat → Prop) : IsThin B 0 [0] := ⟨.base, fun m hm => by
  cases hm with
  | base => exact Le.refl _
  | step _ h _ => omega⟩
/-- Found from those before: l is one of the candidates, and no candidate is less. -/
theorem isThin_step {B : Nat → Nat → Prop} {k : Nat} (hk : 0 < k) {best : Nat → List Nat} (hb : ∀ i, i < k → IsThin B i (best i)) {l : List Nat} (h1 : ∃ i, i < k ∧ B i k ∧ l = best i ++ [k]) (h2 : ∀ i, i < k → B i k → Le l (best i ++ [k])) : IsThin B k l := by
  obtain ⟨i, hi, hB, rfl⟩ := h1
  refine ⟨.step (hb i hi).1 hi hB, fun m hm => ?_⟩
  cases hm with
  | base => omega
  | step hw hj hBj => exact (h2 _ hj hBj).trans (((hb _ hj).2 _ hw).snoc k)
theorem Wy.len {B : Nat → Nat → Prop} {k : Nat} {l : List Nat} (h : Wy B k l) : 1 ≤ l.length ∧ l.length ≤ k + 1 := by
  induction h with
  | base => simp
  | step _ h _ ih => simp only [List.length_append, List.length_singleton]; omega
theorem Wy.first {B : Nat → Nat → Prop} {k : Nat} {l : List Nat} (h : Wy B k l) : l[0]? = some 0 := by
  induction h with
  | base => rfl
  | step h _ _ ih => rw [List.getElem?_append_left (by have := h.len; omega)]; exact ih
theorem Wy.last {B : Nat → Nat → Prop} {k : Nat} {l : List Nat} (h : Wy B k l) : l[l.length - 1]? = some k := by
  cases h with
  | base => rfl
  | step h _ _ => simp
theorem Wy.next {B : Nat → Nat → Prop} {k : Nat} {l : List Nat} (h : Wy B k l) : ∀ i a b, l[i]? = some a → l[i + 1]? = some b → a < b ∧ B a b := by
  induction h with
  | base => intro i a b _ h2; simp at h2
  | @step i k l h hik hB ih =>
    intro j a b h1 h2
    by_cases hj : j + 1 < l.length
    · rw [List.getElem?_append_left (by omega)] at h1
      rw [List.getElem?_append_left hj] at h2
      exact ih j a b h1 h2
    · have hl := (List.getElem?_eq_some_iff.1 h2).1
      simp only [List.length_append, List.length_singleton] at hl
      have hj2 : j = l.length - 1 := by omega
      have hlen := h.len
      rw [List.getElem?_append_left (by omega), hj2, h.last, Option.some.injEq] at h1
      rw [show j + 1 = l.length by omega] at h2
      simp at h2
      subst h1; subst h2
      exact ⟨hik, hB⟩
theorem Wy.le {B : Nat → Nat → Prop} {k : Nat} {l : List Nat} (h : Wy B k l) : ∀ a ∈ l, a ≤ k := by
  induction h with
  | base => intro a ha; simp at ha; omega
  | step _ hik _ ih =>
    intro a ha
    rw [List.mem_append, List.mem_singleton] at ha
    rcases ha with ha | rfl
    · have := ih a ha; omega
    · omega
/-- Lists that say enough are such lists. -/
theorem wy_of {B : Nat → Nat → Prop} : ∀ (n : Nat) (l : List Nat) (k : Nat), l.length = n + 1 → l[0]? = some 0 → l[n]? = some k → (∀ i a b, l[i]? = some a → l[i + 1]? = some b → a < b ∧ B a b) → Wy B k l
  | 0, l, k, hl, h0, hk, _ => by
    match l, hl with
    | [a], _ =>
      simp at h0 hk
      subst h0; subst hk
      exact .base
  | n + 1, l, k, hl, h0, hk, hn => by
    have hne : l ≠ [] := by intro h; rw [h] at hl; simp at hl
    obtain ⟨m, x, rfl⟩ : ∃ m x, l = m ++ [x] := ⟨l.dropLast, l.getLast hne, (List.dropLast_concat_getLast hne).symm⟩
    simp only [List.length_append, List.length_singleton] at hl
    have hm : m.length = n + 1 := by omega
    have hx : x = k := by rw [← hm] at hk; simpa using hk
    subst hx
    have hi : ∃ i, m[n]? = some i := ⟨_, List.getElem?_eq_getElem (by omega)⟩
    obtain ⟨i, hi⟩ := hi
    have h1 := hn n i x (by rw [List.getElem?_append_left (by omega)]; exact hi) (by rw [← hm]; simp)
    refine .step (i := i) (wy_of n m i hm (by rw [List.getElem?_append_left (by omega)] at h0; exact h0) hi fun j a b ha hb => ?_) h1.1 h1.2
    have hj := (List.getElem?_eq_some_iff.1 hb).1
    exact hn j a b (by rw [List.getElem?_append_left (by omega)]; exact ha) (by rw [List.getElem?_append_left hj]; exact hb)
/-- More that is right: no longer lists. -/
theorem Wy.mono {B C : Nat → Nat → Prop} (hBC : ∀ i k, B i k → C i k) {k : Nat} {l : List Nat} (h : Wy B k l) : Wy C k l := by
  induction h with
  | base => exact .base
  | step _ h hB ih => exact .step ih h (hBC _ _ hB)
theorem IsThin.mono {B C : Nat → Nat → Prop} (hBC : ∀ i k, B i k → C i k) {k : Nat} {l m : List Nat} (h : IsThin B k l) (h2 : IsThin C k m) : m.length ≤ l.length := by
  rcases h2.2 l (h.1.mono hBC) with h | ⟨h, -⟩ <;> omega
theorem IsThin.congr {B C : Nat → Nat → Prop} (hBC : ∀ i k, B i k ↔ C i k) {k : Nat} {l : List Nat} (h : IsThin B k l) : IsThin C k l := ⟨h.1.mono fun i k => (hBC i k).1, fun m hm => h.2 m (hm.mono fun i k => (hBC i k).2)⟩
/-- Each dot after the other is always such a list. -/
theorem wy_all {B : Nat → Nat → Prop} (hB : ∀ i, B i (i + 1)) : ∀ k, ∃ l, Wy B k l
  | 0 => ⟨_, .base⟩
  | k + 1 => by
    obtain ⟨l, hl⟩ := wy_all hB k
    exact ⟨_, .step hl (by omega) (hB k)⟩
/-- Found backward: c i: how many indices follow i, at least; from each index the least next one with which as few follow. -/
theorem Le.cons {l m : List Nat} (h : Le l m) (k : Nat) : Le (k :: l) (k :: m) := by
  rcases h with h | ⟨h, h1⟩
  · exact .inl (by simp only [List.length_cons]; omega)
  · refine .inr ⟨by simp only [List.length_cons]; omega, ?_⟩
    rcases h1 with rfl | h1
    · exact .inl rfl
    · exact .inr (by simp only [lexN, if_pos]; exact h1)
/-- A list of indices from i to n. -/
inductive Yw (B : Nat → Nat → Prop) (n : Nat) : Nat → List Nat → Prop
  | base : Yw B n n [n]
  | step {i k : Nat} {l : List Nat} : Yw B n k l → i < k → B i k → Yw B n i (i :: l)
theorem Yw.len {B : Nat → Nat → Prop} {n i : Nat} {l : List Nat} (h : Yw B n i l) : 1 ≤ l.length := by
  cases h <;> simp
/-- The least list from i to n is i, and the least one from the best next index. -/
theorem yw_step {B : Nat → Nat → Prop} {n i : Nat} (hi : i < n) {best : Nat → List Nat} (hb : ∀ k, i < k → k ≤ n → Yw B n k (best k) ∧ ∀ m, Yw B n k m → Le (best k) m) {k : Nat} (hk : i < k ∧ k ≤ n ∧ B i k)
    (h2 : ∀ j, i < j → j ≤ n → B i j → (best k).length ≤ (best j).length ∧ ((best j).length = (best k).length → k ≤ j)) : Yw B n i (i :: best k) ∧ ∀ m, Yw B n i m → Le (i :: best k) m := by
  have hd : ∀ j m, Yw B n j m → ∃ r, m = j :: r := fun j m h => by cases h; exact ⟨_, rfl⟩; exact ⟨_, rfl⟩
  have hle : ∀ j m, Yw B n j m → j ≤ n := fun j m h => by
    induction h with
    | base => omega
    | step _ h _ ih => omega
  refine ⟨.step (hb k hk.1 hk.2.1).1 hk.1 hk.2.2, fun m hm => ?_⟩
  cases hm with
  | base => omega
  | @step _ j l hw hj hB =>
    have hjn := hle _ _ hw
    refine Le.cons ?_ i
    have h3 := h2 j hj hjn hB
    have h4 := (hb j hj hjn).2 l hw
    rcases Nat.lt_or_ge (best k).length (best j).length with hlt | hge
    · refine .inl ?_
      rcases h4 with h4 | ⟨h4, -⟩ <;> omega
    · have he : (best j).length = (best k).length := by omega
      have hkj := h3.2 he
      by_cases hkj2 : k = j
      · subst hkj2; exact h4
      · obtain ⟨r, hr⟩ := hd k _ (hb k hk.1 hk.2.1).1
        obtain ⟨s, hs⟩ := hd j _ hw
        rcases h4 with h4 | ⟨h4, -⟩
        · exact .inl (by omega)
        · refine .inr ⟨by omega, .inr ?_⟩
          rw [hr, hs]
          simp only [lexN, if_neg hkj2, decide_eq_true_eq]; omega
theorem yw_of_wy {B : Nat → Nat → Prop} {k : Nat} {l : List Nat} (h : Wy B k l) : ∀ {n : Nat} {m : List Nat}, Yw B n k m → Yw B n 0 (l.dropLast ++ m) := by
  induction h with
  | base => intro n m h; exact h
  | @step i k l h hik hB ih =>
    intro n m hm
    have h2 := ih (.step hm hik hB)
    have hne : l ≠ [] := by intro e; have := h.len; rw [e] at this; simp at this
    have hl : l = l.dropLast ++ [i] := by
      have h3 := h.last
      have h4 := List.dropLast_concat_getLast hne
      have h5 : l.getLast hne = i := by
        rw [List.getLast_eq_getElem]
        rw [List.getElem?_eq_getElem (by have := h.len; omega), Option.some.injEq] at h3
        exact h3
      rw [h5] at h4; exact h4.symm
    rw [List.dropLast_concat]
    rw [hl, List.append_assoc]; exact h2
theorem wy_yw {B : Nat → Nat → Prop} {n k : Nat} {m : List Nat} (h : Yw B n k m) : ∀ {l : List Nat}, Wy B k l → Wy B n (l.dropLast ++ m) := by
  induction h with
  | base =>
    intro l h
    have hne : l ≠ [] := by intro e; have := h.len; rw [e] at this; simp at this
    have h3 := h.last
    have h4 := List.dropLast_concat_getLast hne
    have h5 : l.getLast hne = n := by
      rw [List.getLast_eq_getElem]
      rw [List.getElem?_eq_getElem (by have := h.len; omega), Option.some.injEq] at h3
      exact h3
    rw [h5] at h4; rw [h4]; exact h
  | @step i k m hm hik hB ih =>
    intro l h
    have h2 := ih (.step h hik hB)
    rw [List.dropLast_concat] at h2
    have hne : l ≠ [] := by intro e; have := h.len; rw [e] at this; simp at this
    have h3 := h.last
    have h4 := List.dropLast_concat_getLast hne
    have h5 : l.getLast hne = i := by
      rw [List.getLast_eq_getElem]
      rw [List.getElem?_eq_getElem (by have := h.len; omega), Option.some.injEq] at h3
      exact h3
    rw [h5] at h4
    rw [show l.dropLast ++ i :: m = (l.dropLast ++ [i]) ++ m by simp, h4]; exact h2
/-- The least list found backward is the least one. -/
theorem isThin_of_yw {B : Nat → Nat → Prop} {n : Nat} {l : List Nat} (h : Yw B n 0 l ∧ ∀ m, Yw B n 0 m → Le l m) : IsThin B n l := by
  refine ⟨by simpa using wy_yw h.1 .base, fun m hm => ?_⟩
  have h2 := yw_of_wy hm .base
  have hne : m ≠ [] := by intro e; have := hm.len; rw [e] at this; simp at this
  have h3 := hm.last
  have h4 := List.dropLast_concat_getLast hne
  have h5 : m.getLast hne = n := by
    rw [List.getLast_eq_getElem]
    rw [List.getElem?_eq_getElem (by have := hm.len; omega), Option.some.injEq] at h3
    exact h3
  rw [h5] at h4; rw [h4] at h2
  exact h.2 m h2
end Go.Proofs.Ytamogfcedkjmcaa
