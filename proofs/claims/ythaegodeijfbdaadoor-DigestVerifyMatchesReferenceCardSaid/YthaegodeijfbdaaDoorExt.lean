/- Extensions of lists as plain mathematics: what they are worth, and that they are accepted; what two proofs of the same have in common. No conditions. -/
import Derived.Test.YthaegodeijfbdaaDoorTree
namespace Go.Proofs.YthaegodeijfbdaaDoor

def extB (L : List ByteArray) (m : Nat) (whole : Bool) : List ByteArray :=
  if _h : L.length ≤ m ∨ L.length ≤ 1 then (if whole then [] else [rootB L])
  else if m ≤ spl L.length then extB (L.take (spl L.length)) m whole ++ [rootB (L.drop (spl L.length))]
  else extB (L.drop (spl L.length)) (m - spl L.length) false ++ [rootB (L.take (spl L.length))]
termination_by L.length
decreasing_by
  · have := spl_lt (n := L.length) (by omega); rw [List.length_take]; omega
  · have := spl_pos L.length; rw [List.length_drop]; omega
theorem extB_all {L : List ByteArray} {m : Nat} {whole : Bool} (h : L.length ≤ m) : extB L m whole = if whole then [] else [rootB L] := by rw [extB, dif_pos (Or.inl h)]
theorem extB_lo {L : List ByteArray} {m : Nat} {whole : Bool} (h : m < L.length) (h2 : 2 ≤ L.length) (hm : m ≤ spl L.length) : extB L m whole = extB (L.take (spl L.length)) m whole ++ [rootB (L.drop (spl L.length))] := by
  rw [extB, dif_neg (by omega), if_pos hm]
theorem extB_hi {L : List ByteArray} {m : Nat} {whole : Bool} (h : m < L.length) (h2 : 2 ≤ L.length) (hm : ¬ m ≤ spl L.length) : extB L m whole = extB (L.drop (spl L.length)) (m - spl L.length) false ++ [rootB (L.take (spl L.length))] := by
  rw [extB, dif_neg (by omega), if_neg hm]

/-- The two values of an extension; its last element comes first. -/
def twoR (old : ByteArray) : Nat → Nat → Bool → List ByteArray → ByteArray × ByteArray × Bool
  | m, n, whole, [] => if m = n ∧ whole = true then (old, old, true) else (⟨#[]⟩, ⟨#[]⟩, false)
  | m, n, whole, x :: q =>
    if m = n then (if whole = true then (old, old, false) else if q.length = 0 then (x, x, true) else (⟨#[]⟩, ⟨#[]⟩, false))
    else if m ≤ spl n then ((twoR old m (spl n) whole q).1, nodeB (twoR old m (spl n) whole q).2.1 x, (twoR old m (spl n) whole q).2.2)
    else (nodeB x (twoR old (m - spl n) (n - spl n) false q).1, nodeB x (twoR old (m - spl n) (n - spl n) false q).2.1, (twoR old (m - spl n) (n - spl n) false q).2.2)
def twoB (old : ByteArray) (m n : Nat) (p : List ByteArray) (whole : Bool) : ByteArray × ByteArray × Bool := twoR old m n whole p.reverse
theorem twoB_whole (old : ByteArray) (m : Nat) (p : List ByteArray) : twoB old m m p true = (old, old, decide (p.length = 0)) := by
  unfold twoB
  rcases h : p.reverse with _ | ⟨x, q⟩
  · have : p = [] := by simpa using h
    subst this; simp [twoR]
  · have : p.length ≠ 0 := by rw [← List.length_reverse, h]; simp
    simp [twoR, this]
theorem twoB_part (old : ByteArray) (m : Nat) (p : List ByteArray) : twoB old m m p false = if p.length = 1 then (p.headD ⟨#[]⟩, p.headD ⟨#[]⟩, true) else (⟨#[]⟩, ⟨#[]⟩, false) := by
  match p with
  | [] => simp [twoB, twoR]
  | [x] => simp [twoB, twoR]
  | x :: y :: r =>
    unfold twoB
    rcases h : (x :: y :: r).reverse with _ | ⟨z, q⟩
    · simp at h
    · have hl : q.length ≠ 0 := by
        have := congrArg List.length h
        simp at this; omega
      simp [twoR, hl]
theorem twoB_nil {old : ByteArray} {m n : Nat} {whole : Bool} (h : m ≠ n) : twoB old m n [] whole = (⟨#[]⟩, ⟨#[]⟩, false) := by simp [twoB, twoR, h]
theorem twoB_lo {old x : ByteArray} {m n : Nat} {p : List ByteArray} {whole : Bool} (h : m ≠ n) (hm : m ≤ spl n) :
    twoB old m n (p ++ [x]) whole = ((twoB old m (spl n) p whole).1, nodeB (twoB old m (spl n) p whole).2.1 x, (twoB old m (spl n) p whole).2.2) := by
  unfold twoB; rw [List.reverse_append, List.reverse_singleton, List.singleton_append, twoR, if_neg h, if_pos hm]
theorem twoB_hi {old x : ByteArray} {m n : Nat} {p : List ByteArray} {whole : Bool} (h : m ≠ n) (hm : ¬ m ≤ spl n) :
    twoB old m n (p ++ [x]) whole = (nodeB x (twoB old (m - spl n) (n - spl n) p false).1, nodeB x (twoB old (m - spl n) (n - spl n) p false).2.1, (twoB old (m - spl n) (n - spl n) p false).2.2) := by
  unfold twoB; rw [List.reverse_append, List.reverse_singleton, List.singleton_append, twoR, if_neg h, if_neg hm]
theorem twoR_size {old : ByteArray} (ho : old.size ≤ 32) : ∀ (q : List ByteArray), (∀ x ∈ q, x.size ≤ 32) → ∀ (m n : Nat) (whole : Bool), (twoR old m n whole q).1.size ≤ 32 ∧ (twoR old m n whole q).2.1.size ≤ 32
  | [], _, m, n, whole => by unfold twoR; split <;> first | exact ⟨ho, ho⟩ | exact ⟨Nat.zero_le _, Nat.zero_le _⟩
  | x :: q, hq, m, n, whole => by
    have hx := hq x (by simp)
    have ih := twoR_size ho q (fun y hy => hq y (by simp [hy]))
    unfold twoR
    split
    · split
      · exact ⟨ho, ho⟩
      · split
        · exact ⟨hx, hx⟩
        · exact ⟨Nat.zero_le _, Nat.zero_le _⟩
    · split
      · exact ⟨(ih _ _ _).1, by show (nodeB _ _).size ≤ 32; rw [nodeB, dg_size]; omega⟩
      · exact ⟨by show (nodeB _ _).size ≤ 32; rw [nodeB, dg_size]; omega, by show (nodeB _ _).size ≤ 32; rw [nodeB, dg_size]; omega⟩
theorem twoB_size {old : ByteArray} (ho : old.size ≤ 32) {p : List ByteArray} (hp : ∀ x ∈ p, x.size ≤ 32) (m n : Nat) (whole : Bool) : (twoB old m n p whole).1.size ≤ 32 ∧ (twoB old m n p whole).2.1.size ≤ 32 :=
  twoR_size ho _ (fun x hx => hp x (by simpa using hx)) m n whole

theorem spl_between {m n : Nat} (h : spl n < m) (h2 : m ≤ n) (h3 : 2 ≤ n) : spl m = spl n := by
  have hh := spl_half h3
  have e : spl n = 2 ^ Nat.log2 (n - 1) := rfl
  rw [e] at h hh ⊢
  exact spl_unique h (by omega)
/-- The extension of a beginning is accepted. -/
theorem extB_accepted (N : Nat) : ∀ (L : List ByteArray) (m : Nat) (whole : Bool) (old : ByteArray), 1 ≤ m → m ≤ L.length → L.length ≤ N → (whole = true → old = rootB (L.take m)) →
    twoB old m L.length (extB L m whole) whole = (rootB (L.take m), rootB L, true) := by
  induction N with
  | zero => intro L m whole old h1 h2 hN; omega
  | succ N ih =>
    intro L m whole old h1 h2 hN ho
    by_cases hm : m = L.length
    · subst hm
      rw [List.take_length] at ho ⊢
      rw [extB_all (Nat.le_refl _)]
      cases whole
      · rw [if_neg (by simp), twoB_part]; rfl
      · rw [if_pos rfl, twoB_whole, ho rfl]; rfl
    · have hk := spl_lt (n := L.length) (by omega)
      have hp := spl_pos L.length
      have hlt : (L.take (spl L.length)).length = spl L.length := by rw [List.length_take]; omega
      have hld : (L.drop (spl L.length)).length = L.length - spl L.length := List.length_drop
      by_cases h3 : m ≤ spl L.length
      · have htt : (L.take (spl L.length)).take m = L.take m := by rw [List.take_take, Nat.min_eq_left h3]
        have hi := ih (L.take (spl L.length)) m whole old h1 (by omega) (by omega) (by rw [htt]; exact ho)
        rw [hlt, htt] at hi
        rw [extB_lo (by omega) (by omega) h3, twoB_lo hm h3, hi, ← rootB_two (by omega)]
      · have hi := ih (L.drop (spl L.length)) (m - spl L.length) false old (by omega) (by omega) (by omega) (by simp)
        rw [hld] at hi
        have hml : (L.take m).length = m := by rw [List.length_take]; omega
        have hroot : rootB (L.take m) = nodeB (rootB (L.take (spl L.length))) (rootB ((L.drop (spl L.length)).take (m - spl L.length))) := by
          rw [rootB_two (by omega), hml, spl_between (by omega) h2 (by omega), List.take_take, Nat.min_eq_left (by omega), List.drop_take]
        rw [extB_hi (by omega) (by omega) h3, twoB_hi hm h3, hi, hroot, ← rootB_two (by omega)]
theorem extB_sizes (N : Nat) : ∀ (L : List ByteArray) (m : Nat) (whole : Bool), L.length ≤ N → ∀ x ∈ extB L m whole, x.size = 32 := by
  induction N with
  | zero =>
    intro L m whole hN x hx
    rw [extB, dif_pos (by omega)] at hx
    cases whole
    · simp at hx; subst hx; exact rootB_size _
    · simp at hx
  | succ N ih =>
    intro L m whole hN x hx
    by_cases h0 : L.length ≤ m ∨ L.length ≤ 1
    · rw [extB, dif_pos h0] at hx
      cases whole
      · simp at hx; subst hx; exact rootB_size _
      · simp at hx
    · have hk := spl_lt (n := L.length) (by omega)
      have hp := spl_pos L.length
      rw [extB, dif_neg h0] at hx
      split at hx
      · rw [List.mem_append, List.mem_singleton] at hx
        rcases hx with hx | rfl
        · exact ih _ _ _ (by rw [List.length_take]; omega) x hx
        · exact rootB_size _
      · rw [List.mem_append, List.mem_singleton] at hx
        rcases hx with hx | rfl
        · exact ih _ _ _ (by rw [List.length_drop]; omega) x hx
        · exact rootB_size _
theorem extB_length (N : Nat) : ∀ (L : List ByteArray) (m j : Nat) (whole : Bool), L.length ≤ N → L.length ≤ 2 ^ j → (extB L m whole).length ≤ j + 1 := by
  induction N with
  | zero =>
    intro L m j whole hN _
    rw [extB, dif_pos (by omega)]; cases whole <;> simp
  | succ N ih =>
    intro L m j whole hN hj
    by_cases h0 : L.length ≤ m ∨ L.length ≤ 1
    · rw [extB, dif_pos h0]; cases whole <;> simp
    · have hk := spl_lt (n := L.length) (by omega)
      have hp := spl_pos L.length
      have hh := spl_half (n := L.length) (by omega)
      match j with
      | 0 => simp at hj; omega
      | j + 1 =>
        have hs : spl L.length ≤ 2 ^ j := by
          rcases Nat.lt_or_ge (2 ^ j) (spl L.length) with hlt | hge
          · exfalso
            unfold spl at hlt hk
            have := (Nat.pow_lt_pow_iff_right (a := 2) (by omega)).1 hlt
            have := Nat.pow_le_pow_right (n := 2) (by omega) this
            rw [Nat.pow_succ] at this hj
            omega
          · exact hge
        rw [extB, dif_neg h0]
        split
        · have := ih (L.take (spl L.length)) m j whole (by rw [List.length_take]; omega) (by rw [List.length_take]; omega)
          rw [List.length_append]; simp only [List.length_singleton]; omega
        · have := ih (L.drop (spl L.length)) (m - spl L.length) j false (by rw [List.length_drop]; omega) (by rw [List.length_drop]; omega)
          rw [List.length_append]; simp only [List.length_singleton]; omega
/-- Extensions are short. -/
theorem extB_bin (L : List ByteArray) (m : Nat) (h : 1 ≤ L.length) : (extB L m true).length ≤ 2 * binB L.length := by
  have h1 := extB_length L.length L m (binB L.length) true (Nat.le_refl _) (by
    rcases Nat.lt_or_ge (2 ^ binB L.length) L.length with hlt | hge
    · have := binB_ge (Nat.le_of_lt hlt); omega
    · exact hge)
  have h2 := binB_pos (n := L.length) (by omega)
  omega

/-- Two different strings at one place of two lists have the same digest. -/
def collideB : List ByteArray → List ByteArray → Bool
  | x :: a, y :: b => (decide (x ≠ y) && decide (dg x.data.toList = dg y.data.toList)) || collideB a b
  | _, _ => false
/-- A string of bytes, as the statements write it. -/
def mk (l : List UInt8) : ByteArray := ⟨l.toArray⟩
theorem mk_list (l : List UInt8) : (mk l).data.toList = l := rfl
theorem mk_inj {a b : List UInt8} (h : mk a = mk b) : a = b := by have := congrArg (fun s : ByteArray => s.data.toList) h; exact this
theorem list_inj {a b : ByteArray} (h : a.data.toList = b.data.toList) : a = b := ByteArray.ext (Array.toList_inj.1 h)
theorem append_split {a b x y : ByteArray} (h : a.data.toList ++ x.data.toList = b.data.toList ++ y.data.toList) (hs : a.size = b.size) : a = b ∧ x = y := by
  have := List.append_inj h hs
  exact ⟨list_inj this.1, list_inj this.2⟩

/-- The strings of which digests are computed for a proof, from the root on; the proof's last element comes first. -/
def wayR : Nat → Nat → ByteArray → List ByteArray → List ByteArray × ByteArray
  | _, _, s, [] => ([mk (0 :: s.data.toList)], leafB s)
  | n, i, s, x :: q =>
    if n ≤ 1 then ([mk (0 :: s.data.toList)], leafB s)
    else if i < spl n then (mk (1 :: ((wayR (spl n) i s q).2.data.toList ++ x.data.toList)) :: (wayR (spl n) i s q).1, nodeB (wayR (spl n) i s q).2 x)
    else (mk (1 :: (x.data.toList ++ (wayR (n - spl n) (i - spl n) s q).2.data.toList)) :: (wayR (n - spl n) (i - spl n) s q).1, nodeB x (wayR (n - spl n) (i - spl n) s q).2)
def wayB (n i : Nat) (s : ByteArray) (p : List ByteArray) : List ByteArray × ByteArray := wayR n i s p.reverse
theorem wayB_end {n i : Nat} {s : ByteArray} {p : List ByteArray} (h : n ≤ 1 ∨ p = []) : wayB n i s p = ([mk (0 :: s.data.toList)], leafB s) := by
  unfold wayB
  rcases hp : p.reverse with _ | ⟨x, q⟩
  · rfl
  · have : p ≠ [] := by intro e; subst e; simp at hp
    rw [wayR, if_pos (h.resolve_right this)]
theorem wayB_lo {n i : Nat} {s x : ByteArray} {p : List ByteArray} (h : 2 ≤ n) (hi : i < spl n) : wayB n i s (p ++ [x]) = (mk (1 :: ((wayB (spl n) i s p).2.data.toList ++ x.data.toList)) :: (wayB (spl n) i s p).1, nodeB (wayB (spl n) i s p).2 x) := by
  unfold wayB; rw [List.reverse_append, List.reverse_singleton, List.singleton_append, wayR, if_neg (by omega), if_pos hi]
theorem wayB_hi {n i : Nat} {s x : ByteArray} {p : List ByteArray} (h : 2 ≤ n) (hi : ¬ i < spl n) : wayB n i s (p ++ [x]) = (mk (1 :: (x.data.toList ++ (wayB (n - spl n) (i - spl n) s p).2.data.toList)) :: (wayB (n - spl n) (i - spl n) s p).1, nodeB x (wayB (n - spl n) (i - spl n) s p).2) := by
  unfold wayB; rw [List.reverse_append, List.reverse_singleton, List.singleton_append, wayR, if_neg (by omega), if_neg hi]
theorem wayR_size : ∀ (q : List ByteArray) (n i : Nat) (s : ByteArray), (wayR n i s q).2.size = 32
  | [], n, i, s => dg_size _
  | x :: q, n, i, s => by unfold wayR; split <;> (try split) <;> exact dg_size _
theorem wayR_value : ∀ (q : List ByteArray) (n i : Nat) (s : ByteArray), 1 ≤ n → (valR n i s q).2 = true → (wayR n i s q).2 = (valR n i s q).1
  | [], n, i, s, hn, h => by
    unfold valR at h ⊢
    split at h
    · rename_i h1; rw [if_pos h1]; rfl
    · simp at h
  | x :: q, n, i, s, hn, h => by
    by_cases h1 : n = 1
    · subst h1; simp [valR] at h
    · by_cases hi : i < spl n
      · rw [valR, if_neg h1, if_pos hi] at h ⊢
        rw [wayR, if_neg (by omega), if_pos hi, wayR_value q _ _ _ (spl_pos n) h]
      · rw [valR, if_neg h1, if_neg hi] at h ⊢
        rw [wayR, if_neg (by omega), if_neg hi, wayR_value q _ _ _ (by have := spl_lt (n := n) (by omega); omega) h]
/-- Two entries at one place: two strings with one digest. -/
theorem way_binds : ∀ (p q : List ByteArray) (n i : Nat) (s t : ByteArray), 1 ≤ n → (∀ x ∈ p, x.size = 32) → (∀ x ∈ q, x.size = 32) → (valR n i s p).2 = true → (valR n i t q).2 = true → (valR n i s p).1 = (valR n i t q).1 → s ≠ t →
    collideB (wayR n i s p).1 (wayR n i t q).1 = true
  | [], [], n, i, s, t, hn, hp, hq, h1, h2, h, hne => by
    unfold valR at h h1
    have hn1 : n = 1 := by
      by_cases e : n = 1
      · exact e
      · simp [e] at h1
    simp only [hn1, if_true] at h
    simp only [wayR, collideB]
    have : mk (0 :: s.data.toList) ≠ mk (0 :: t.data.toList) := fun e => hne (list_inj (List.cons.inj (mk_inj e)).2)
    rw [mk_list, mk_list]
    simp [this]
    exact h
  | [], y :: q, n, i, s, t, hn, hp, hq, h1, h2, h, hne => by
    exfalso
    by_cases e : n = 1
    · simp [valR, e] at h2
    · simp [valR, e] at h1
  | x :: p, [], n, i, s, t, hn, hp, hq, h1, h2, h, hne => by
    exfalso
    by_cases e : n = 1
    · simp [valR, e] at h1
    · simp [valR, e] at h2
  | x :: p, y :: q, n, i, s, t, hn, hp, hq, h1, h2, h, hne => by
    by_cases e : n = 1
    · simp [valR, e] at h1
    · have hk := spl_lt (n := n) (by omega)
      have hpos := spl_pos n
      have hx := hp x (by simp)
      have hy := hq y (by simp)
      by_cases hi : i < spl n
      · rw [valR, if_neg e, if_pos hi] at h1 h2
        rw [valR, if_neg e, if_pos hi, valR, if_neg e, if_pos hi] at h
        have v1 := wayR_value p _ _ _ hpos h1
        have v2 := wayR_value q _ _ _ hpos h2
        have z1 := wayR_size p (spl n) i s
        have z2 := wayR_size q (spl n) i t
        rw [wayR, if_neg (by omega), if_pos hi, wayR, if_neg (by omega), if_pos hi]
        simp only [collideB, Bool.or_eq_true, Bool.and_eq_true, decide_eq_true_eq]
        by_cases hs : mk (1 :: ((wayR (spl n) i s p).2.data.toList ++ x.data.toList)) = mk (1 :: ((wayR (spl n) i t q).2.data.toList ++ y.data.toList))
        · right
          have := append_split (List.cons.inj (mk_inj hs)).2 (by omega)
          exact way_binds p q (spl n) i s t hpos (fun z hz => hp z (by simp [hz])) (fun z hz => hq z (by simp [hz])) h1 h2 (by rw [← v1, ← v2]; exact this.1) hne
        · left
          refine ⟨hs, ?_⟩
          rw [v1, v2]
          exact h
      · rw [valR, if_neg e, if_neg hi] at h1 h2
        rw [valR, if_neg e, if_neg hi, valR, if_neg e, if_neg hi] at h
        have v1 := wayR_value p (n - spl n) (i - spl n) s (by omega) h1
        have v2 := wayR_value q (n - spl n) (i - spl n) t (by omega) h2
        rw [wayR, if_neg (by omega), if_neg hi, wayR, if_neg (by omega), if_neg hi]
        simp only [collideB, Bool.or_eq_true, Bool.and_eq_true, decide_eq_true_eq]
        by_cases hs : mk (1 :: (x.data.toList ++ (wayR (n - spl n) (i - spl n) s p).2.data.toList)) = mk (1 :: (y.data.toList ++ (wayR (n - spl n) (i - spl n) t q).2.data.toList))
        · right
          have := append_split (List.cons.inj (mk_inj hs)).2 (by omega)
          exact way_binds p q (n - spl n) (i - spl n) s t (by omega) (fun z hz => hp z (by simp [hz])) (fun z hz => hq z (by simp [hz])) h1 h2 (by rw [← v1, ← v2]; exact this.2) hne
        · left
          refine ⟨hs, ?_⟩
          rw [v1, v2]
          exact h
end Go.Proofs.YthaegodeijfbdaaDoor
