/- What two extensions, or two chains of records, of one digest have in common, as plain mathematics. No conditions. -/
import Derived.Test.YtpnhaoegnglooaaDoorExt
namespace Go.Proofs.YtpnhaoegnglooaaDoor

/-- The strings of which digests are computed for an extension, from the root on; the proof's last element comes first. -/
def sidesR (old : ByteArray) : Nat → Nat → Bool → List ByteArray → List ByteArray × ByteArray
  | _, _, _, [] => ([], old)
  | m, n, whole, x :: q =>
    if n ≤ m then ([], if whole then old else (x :: q).getLast (by simp))
    else if m ≤ spl n then (mk (1 :: ((sidesR old m (spl n) whole q).2.data.toList ++ x.data.toList)) :: (sidesR old m (spl n) whole q).1, nodeB (sidesR old m (spl n) whole q).2 x)
    else (mk (1 :: (x.data.toList ++ (sidesR old (m - spl n) (n - spl n) false q).2.data.toList)) :: (sidesR old (m - spl n) (n - spl n) false q).1, nodeB x (sidesR old (m - spl n) (n - spl n) false q).2)
def sidesB (old : ByteArray) (m n : Nat) (p : List ByteArray) (whole : Bool) : List ByteArray × ByteArray := sidesR old m n whole p.reverse
theorem sidesB_nil (old : ByteArray) (m n : Nat) (whole : Bool) : sidesB old m n [] whole = ([], old) := rfl
theorem sidesB_end {old : ByteArray} {m n : Nat} {p : List ByteArray} {whole : Bool} (h : n ≤ m) : sidesB old m n p whole = ([], if whole then old else p.headD old) := by
  unfold sidesB
  rcases hp : p.reverse with _ | ⟨x, q⟩
  · have : p = [] := by simpa using hp
    subst this; cases whole <;> rfl
  · have hp2 : p = (x :: q).reverse := by rw [← hp, List.reverse_reverse]
    rw [sidesR, if_pos h]
    cases whole
    · have e : p.headD old = (x :: q).getLast (by simp) := by
        rw [List.headD_eq_head?_getD, hp2, List.head?_reverse, List.getLast?_eq_some_getLast (by simp)]; rfl
      rw [e]
    · rfl
theorem sidesB_lo {old x : ByteArray} {m n : Nat} {p : List ByteArray} {whole : Bool} (h : m < n) (hm : m ≤ spl n) : sidesB old m n (p ++ [x]) whole = (mk (1 :: ((sidesB old m (spl n) p whole).2.data.toList ++ x.data.toList)) :: (sidesB old m (spl n) p whole).1, nodeB (sidesB old m (spl n) p whole).2 x) := by
  unfold sidesB; rw [List.reverse_append, List.reverse_singleton, List.singleton_append, sidesR, if_neg (by omega), if_pos hm]
theorem sidesB_hi {old x : ByteArray} {m n : Nat} {p : List ByteArray} {whole : Bool} (h : m < n) (hm : ¬ m ≤ spl n) : sidesB old m n (p ++ [x]) whole = (mk (1 :: (x.data.toList ++ (sidesB old (m - spl n) (n - spl n) p false).2.data.toList)) :: (sidesB old (m - spl n) (n - spl n) p false).1, nodeB x (sidesB old (m - spl n) (n - spl n) p false).2) := by
  unfold sidesB; rw [List.reverse_append, List.reverse_singleton, List.singleton_append, sidesR, if_neg (by omega), if_neg hm]
theorem sidesR_length (old : ByteArray) : ∀ (q : List ByteArray) (m n : Nat) (whole : Bool), (sidesR old m n whole q).1.length ≤ q.length
  | [], m, n, whole => Nat.le_refl _
  | x :: q, m, n, whole => by
    unfold sidesR
    split
    · simp
    · split
      · have := sidesR_length old q m (spl n) whole; simp; omega
      · have := sidesR_length old q (m - spl n) (n - spl n) false; simp; omega
theorem sidesB_length (old : ByteArray) (m n : Nat) (p : List ByteArray) (whole : Bool) : (sidesB old m n p whole).1.length ≤ p.length := by
  have := sidesR_length old p.reverse m n whole
  rw [List.length_reverse] at this; exact this
/-- An accepted extension has as many elements as it needs, and its value is the second one. -/
theorem sidesR_value (old : ByteArray) : ∀ (q : List ByteArray) (m n : Nat) (whole : Bool), m ≤ n → (twoR old m n whole q).2.2 = true → (sidesR old m n whole q).2 = (twoR old m n whole q).2.1
  | [], m, n, whole, hm, h => by
    unfold twoR at h ⊢
    by_cases e : m = n ∧ whole = true
    · rw [if_pos e]; rfl
    · rw [if_neg e] at h; cases h
  | x :: q, m, n, whole, hm, h => by
    by_cases e : m = n
    · rw [twoR, if_pos e] at h ⊢
      cases whole
      · rw [if_neg (by simp)] at h ⊢
        by_cases hq : q.length = 0
        · have : q = [] := List.eq_nil_of_length_eq_zero hq
          subst this
          rw [if_pos hq, sidesR, if_pos (by omega)]; rfl
        · rw [if_neg hq] at h; cases h
      · rw [if_pos rfl] at h; cases h
    · have hk := spl_lt (n := n)
      have hp := spl_pos n
      by_cases h3 : m ≤ spl n
      · rw [twoR, if_neg e, if_pos h3] at h ⊢
        rw [sidesR, if_neg (by omega), if_pos h3, sidesR_value old q _ _ _ h3 h]
      · rw [twoR, if_neg e, if_neg h3] at h ⊢
        rw [sidesR, if_neg (by omega), if_neg h3, sidesR_value old q _ _ _ (by omega) h]
theorem twoR_size32 (old : ByteArray) (ho : old.size = 32) : ∀ (q : List ByteArray) (m n : Nat) (whole : Bool), (∀ x ∈ q, x.size = 32) → (twoR old m n whole q).2.2 = true → (twoR old m n whole q).2.1.size = 32
  | [], m, n, whole, hq, h => by
    unfold twoR at h ⊢
    by_cases e : m = n ∧ whole = true
    · rw [if_pos e]; exact ho
    · rw [if_neg e] at h; cases h
  | x :: q, m, n, whole, hq, h => by
    by_cases e : m = n
    · rw [twoR, if_pos e] at h ⊢
      cases whole
      · rw [if_neg (by simp)] at h ⊢
        by_cases hl : q.length = 0
        · rw [if_pos hl]; exact hq x (by simp)
        · rw [if_neg hl] at h; cases h
      · rw [if_pos rfl] at h; cases h
    · rw [twoR, if_neg e]
      split <;> exact dg_size _
/-- Two beginnings of one length: two strings with one digest. -/
theorem sides_bind (a b : ByteArray) (ha : a.size = 32) (hb : b.size = 32) : ∀ (p q : List ByteArray) (m n : Nat) (whole : Bool), m ≤ n → (∀ x ∈ p, x.size = 32) → (∀ x ∈ q, x.size = 32) → (twoR a m n whole p).2.2 = true → (twoR b m n whole q).2.2 = true →
    (twoR a m n whole p).2.1 = (twoR b m n whole q).2.1 → (twoR a m n whole p).1 ≠ (twoR b m n whole q).1 → collideB (sidesR a m n whole p).1 (sidesR b m n whole q).1 = true
  | [], q, m, n, whole, hm, hp, hq, h1, h2, h, hne => by
    exfalso
    have e : m = n ∧ whole = true := by
      by_cases e : m = n ∧ whole = true
      · exact e
      · rw [twoR, if_neg e] at h1; cases h1
    obtain ⟨rfl, rfl⟩ := e
    cases q with
    | nil => simp [twoR] at h hne; exact hne h
    | cons y q => simp [twoR] at h2
  | x :: p, [], m, n, whole, hm, hp, hq, h1, h2, h, hne => by
    exfalso
    have e : m = n ∧ whole = true := by
      by_cases e : m = n ∧ whole = true
      · exact e
      · rw [twoR, if_neg e] at h2; cases h2
    obtain ⟨rfl, rfl⟩ := e
    simp [twoR] at h1
  | x :: p, y :: q, m, n, whole, hm, hp, hq, h1, h2, h, hne => by
    by_cases e : m = n
    · exfalso
      subst e
      rw [twoR, if_pos rfl] at h1 h hne
      rw [twoR, if_pos rfl] at h2
      rw [show twoR b m m whole (y :: q) = (if whole = true then (b, b, false) else if q.length = 0 then (y, y, true) else (⟨#[]⟩, ⟨#[]⟩, false)) from by rw [twoR, if_pos rfl]] at h hne
      cases whole
      · rw [if_neg (by simp)] at h1 h2 h hne
        by_cases l1 : p.length = 0
        · by_cases l2 : q.length = 0
          · rw [if_pos l1] at h hne
            rw [if_neg (by simp), if_pos l2] at h hne
            exact hne h
          · rw [if_neg l2] at h2; cases h2
        · rw [if_neg l1] at h1; cases h1
      · rw [if_pos rfl] at h1; cases h1
    · have hpos := spl_pos n
      have hx := hp x (by simp)
      have hy := hq y (by simp)
      have hp2 : ∀ z ∈ p, z.size = 32 := fun z hz => hp z (by simp [hz])
      have hq2 : ∀ z ∈ q, z.size = 32 := fun z hz => hq z (by simp [hz])
      by_cases hi : m ≤ spl n
      · rw [twoR, if_neg e, if_pos hi] at h1 h2
        rw [twoR, if_neg e, if_pos hi, twoR, if_neg e, if_pos hi] at h hne
        have v1 := sidesR_value a p _ _ _ hi h1
        have v2 := sidesR_value b q _ _ _ hi h2
        have z1 := twoR_size32 a ha p _ _ _ hp2 h1
        have z2 := twoR_size32 b hb q _ _ _ hq2 h2
        rw [sidesR, if_neg (by omega), if_pos hi, sidesR, if_neg (by omega), if_pos hi]
        simp only [collideB, Bool.or_eq_true, Bool.and_eq_true, decide_eq_true_eq]
        rw [v1, v2]
        by_cases hs : mk (1 :: ((twoR a m (spl n) whole p).2.1.data.toList ++ x.data.toList)) = mk (1 :: ((twoR b m (spl n) whole q).2.1.data.toList ++ y.data.toList))
        · right
          have := append_split (List.cons.inj (mk_inj hs)).2 (by omega)
          exact sides_bind a b ha hb p q m (spl n) whole hi hp2 hq2 h1 h2 this.1 hne
        · left
          exact ⟨hs, h⟩
      · rw [twoR, if_neg e, if_neg hi] at h1 h2
        rw [twoR, if_neg e, if_neg hi, twoR, if_neg e, if_neg hi] at h hne
        have v1 := sidesR_value a p _ _ _ (by omega) h1
        have v2 := sidesR_value b q _ _ _ (by omega) h2
        rw [sidesR, if_neg (by omega), if_neg hi, sidesR, if_neg (by omega), if_neg hi]
        simp only [collideB, Bool.or_eq_true, Bool.and_eq_true, decide_eq_true_eq]
        rw [v1, v2]
        by_cases hs : mk (1 :: (x.data.toList ++ (twoR a (m - spl n) (n - spl n) false p).2.1.data.toList)) = mk (1 :: (y.data.toList ++ (twoR b (m - spl n) (n - spl n) false q).2.1.data.toList))
        · right
          have := append_split (List.cons.inj (mk_inj hs)).2 (by omega)
          refine sides_bind a b ha hb p q (m - spl n) (n - spl n) false (by omega) hp2 hq2 h1 h2 this.2 (fun he => hne ?_)
          simp only
          rw [he, this.1]
        · left
          exact ⟨hs, h⟩

/-- 32 zero bytes. -/
def zero32 : ByteArray := mk (List.replicate 32 0)
theorem zero32_size : zero32.size = 32 := rfl
/-- The head of a list of records, and the strings of which digests are computed for it; the last record comes first. -/
def headR : List ByteArray → ByteArray
  | [] => zero32
  | r :: q => chainB (headR q) r
def strsR : List ByteArray → List ByteArray
  | [] => []
  | r :: q => mk (2 :: ((headR q).data.toList ++ r.data.toList)) :: strsR q
theorem headR_size : ∀ q : List ByteArray, (headR q).size = 32
  | [] => zero32_size
  | _ :: _ => dg_size _
theorem strsR_length : ∀ q : List ByteArray, (strsR q).length = q.length
  | [] => rfl
  | r :: q => by rw [strsR, List.length_cons, List.length_cons, strsR_length q]
/-- The first string behind those that both have has the digest of 32 zero bytes. -/
def zeroAt (a b : List ByteArray) : Bool :=
  decide (a.length ≠ b.length) && decide (dg ((if a.length < b.length then b else a).getD (min a.length b.length) ⟨#[]⟩).data.toList = zero32)
theorem chain_binds : ∀ A B : List ByteArray, headR A = headR B → A ≠ B → (collideB (strsR A) (strsR B) || zeroAt (strsR A) (strsR B)) = true
  | [], [], _, hne => absurd rfl hne
  | [], r :: q, h, _ => by
    have : zeroAt (strsR []) (strsR (r :: q)) = true := by
      unfold zeroAt
      rw [strsR, strsR]
      simp only [List.length_nil, List.length_cons, Nat.zero_min]
      rw [if_pos (by omega)]
      simp only [List.getD_cons_zero, Bool.and_eq_true, decide_eq_true_eq]
      exact ⟨by omega, h.symm⟩
    rw [this, Bool.or_true]
  | r :: q, [], h, _ => by
    have : zeroAt (strsR (r :: q)) (strsR []) = true := by
      unfold zeroAt
      rw [strsR, strsR]
      simp only [List.length_nil, List.length_cons, Nat.min_zero]
      rw [if_neg (by omega)]
      simp only [List.getD_cons_zero, Bool.and_eq_true, decide_eq_true_eq]
      exact ⟨by omega, h⟩
    rw [this, Bool.or_true]
  | r :: p, s :: q, h, hne => by
    by_cases hs : mk (2 :: ((headR p).data.toList ++ r.data.toList)) = mk (2 :: ((headR q).data.toList ++ s.data.toList))
    · have h2 := append_split (List.cons.inj (mk_inj hs)).2 (by rw [headR_size, headR_size])
      have ih := chain_binds p q h2.1 (fun e => hne (by rw [e, h2.2]))
      rw [Bool.or_eq_true] at ih ⊢
      rcases ih with ih | ih
      · left; rw [strsR, strsR, collideB, ih, Bool.or_true]
      · right
        unfold zeroAt at ih ⊢
        rw [Bool.and_eq_true, decide_eq_true_eq, decide_eq_true_eq] at ih ⊢
        rw [strsR, strsR]
        obtain ⟨i1, i2⟩ := ih
        refine ⟨by simp only [List.length_cons]; omega, ?_⟩
        simp only [List.length_cons]
        rw [show min ((strsR p).length + 1) ((strsR q).length + 1) = min (strsR p).length (strsR q).length + 1 from by omega]
        by_cases hl : (strsR p).length < (strsR q).length
        · rw [if_pos (by omega), List.getD_cons_succ]
          rw [if_pos hl] at i2; exact i2
        · rw [if_neg (by omega), List.getD_cons_succ]
          rw [if_neg hl] at i2; exact i2
    · rw [Bool.or_eq_true]; left
      rw [strsR, strsR, collideB, Bool.or_eq_true]; left
      simp only [Bool.and_eq_true, decide_eq_true_eq]
      exact ⟨hs, h⟩
end Go.Proofs.YtpnhaoegnglooaaDoor
