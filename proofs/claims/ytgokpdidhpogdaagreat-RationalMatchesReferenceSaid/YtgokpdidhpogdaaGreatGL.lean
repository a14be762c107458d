/- The contract of RationalLimits. Conditions: ints. -/
import Derived.Test.YtgokpdidhpogdaaGreatGJ
namespace Go.Proofs.YtgokpdidhpogdaaGreat
open Go.RowKit Go.Lib

theorem tz_succ (k : Nat) : tz k ++ ⟨#[48]⟩ = tz (k + 1) := by
  have h : ∀ L M : List UInt8, bs L ++ bs M = bs (L ++ M) := fun L M => by
    have : (bs L ++ bs M).data.toList = L ++ M := by simp [bs, ByteArray.data_append]
    rw [← bs_self (bs L ++ bs M), this]
  unfold tz
  rw [List.replicate_succ']
  exact h (49 :: List.replicate k 48) [48]
theorem rd_tz' {k : Nat} (h : k ≤ 199) : rd (tz k).data.toList = some ((10 ^ k : Nat) : Int) := rd_tz h
theorem pow_pos10 (k : Nat) : (0 : Int) < ((10 ^ k : Nat) : Int) := by have := Nat.pow_pos (n := k) (show 0 < 10 by omega); omega
theorem rdQ_tz {k : Nat} (h : k ≤ 199) : rdQ (tz k).data.toList [49] = some (((10 ^ k : Nat) : Int), 1) := by
  rw [rdQ_yes (rd_tz' h) rd_49, if_pos]
  exact ⟨by omega, Nat.gcd_one_right _⟩
theorem rdQ_inv {k : Nat} (h : k ≤ 199) : rdQ [49] (tz k).data.toList = some (1, ((10 ^ k : Nat) : Int)) := by
  rw [rdQ_yes rd_49 (rd_tz' h), if_pos]
  exact ⟨pow_pos10 k, Nat.gcd_one_left _⟩
theorem rdQ_one : rdQ [49] [49] = some (1, 1) := by decide +kernel
theorem pow_mul10 (n m : Nat) : ((10 ^ n : Nat) : Int) * ((10 ^ m : Nat) : Int) = ((10 ^ (n + m) : Nat) : Int) := by rw [Nat.pow_add]; push_cast; rfl
theorem lim_pow (k : Nat) : lim ((10 ^ k : Nat) : Int) = if k ≤ 199 then some ((10 ^ k : Nat) : Int) else none := by
  unfold lim
  rw [Int.natAbs_natCast]
  by_cases h : k ≤ 199
  · rw [if_pos h, if_pos (Nat.pow_lt_pow_right (by omega) (by omega))]
  · rw [if_neg h, if_neg (Nat.not_lt.2 (Nat.pow_le_pow_right (by omega) (by omega)))]
theorem lim_one : lim 1 = some 1 := by decide +kernel
theorem lim_pow1 (k : Nat) (h : k ≤ 199) : ∃ z, lim (((10 ^ k : Nat) : Int) + 1) = some z := by
  refine ⟨_, lim_some (z := ((10 ^ k : Nat) : Int) + 1) ?_⟩
  have h1 := Nat.pow_le_pow_right (show 0 < 10 by omega) h
  have h2 : (10 : Nat) ^ 199 + 1 < 10 ^ 200 := by decide +kernel
  have e : ∀ x : Nat, ((x : Int) + 1).natAbs = x + 1 := fun x => by omega
  rw [e]
  generalize (10 : Nat) ^ k = x at *
  generalize (10 : Nat) ^ 199 = y at *
  generalize (10 : Nat) ^ 200 = z at *
  omega
/-- The values. -/
theorem lims_mul {n m : Nat} (hn : n ≤ 199) (hm : m ≤ 199) : mulQ (rdQ (tz n).data.toList [49]) (rdQ (tz m).data.toList [49]) = if n + m ≤ 199 then some (red ((10 ^ (n + m) : Nat) : Int) 1) else none := by
  rw [rdQ_tz hn, rdQ_tz hm]
  show mk2 (lim (((10 ^ n : Nat) : Int) * ((10 ^ m : Nat) : Int))) (lim (1 * 1)) = _
  rw [pow_mul10, lim_pow, Int.one_mul, lim_one]
  split <;> rfl
theorem lims_div {m : Nat} (hm : m ≤ 199) : divQ (rdQ [49] [49]) (rdQ (tz m).data.toList [49]) = some (1, ((10 ^ m : Nat) : Int)) := by
  rw [rdQ_one, rdQ_tz hm]
  show mk2 (lim (1 * 1)) (lim (1 * ((10 ^ m : Nat) : Int))) = _
  rw [Int.one_mul, Int.one_mul, lim_one, lim_pow, if_pos hm]
  have := pow_pos10 m
  show (if _ then _ else _) = _
  rw [if_neg (by omega), red_of_low (n := 1) (d := ((10 ^ m : Nat) : Int)) ⟨this, Nat.gcd_one_left _⟩]
theorem lims_add {n m : Nat} (hn : n ≤ 199) (hm : m ≤ 199) : ∃ r, sumQ (· + ·) (rdQ (tz n).data.toList [49]) (rdQ [49] (tz m).data.toList) = r ∧ qE r = if n + m ≤ 199 then 0 else 40 := by
  refine ⟨_, rfl, ?_⟩
  rw [rdQ_tz hn, rdQ_inv hm]
  show qE (mk2 ((lim (((10 ^ n : Nat) : Int) * ((10 ^ m : Nat) : Int))).bind fun x => (lim (1 * 1)).bind fun y => lim (x + y)) (lim (1 * ((10 ^ m : Nat) : Int)))) = _
  rw [pow_mul10, Int.one_mul, Int.one_mul, lim_one, lim_pow, lim_pow, if_pos hm]
  by_cases h : n + m ≤ 199
  · rw [if_pos h, if_pos h]
    obtain ⟨z, hz⟩ := lim_pow1 _ h
    show qE (mk2 (lim (((10 ^ (n + m) : Nat) : Int) + 1)) _) = 0
    rw [hz]
    have := pow_pos10 m
    show qE (if _ then _ else _) = 0
    rw [if_neg (by omega)]; rfl
  · rw [if_neg h, if_neg h]; rfl
theorem ord_pow (n m : Nat) : ordI ((10 ^ n : Nat) : Int) ((10 ^ m : Nat) : Int) = if n < m then -1 else if m < n then 1 else 0 := by
  rcases Nat.lt_trichotomy n m with h | h | h
  · have := Nat.pow_lt_pow_right (show 1 < 10 by omega) h
    rw [if_pos h, ordI_lt (by omega)]
  · subst h; rw [if_neg (by omega), if_neg (by omega), ordI_eq rfl]
  · have := Nat.pow_lt_pow_right (show 1 < 10 by omega) h
    rw [if_neg (by omega), if_pos h, ordI_gt (by omega)]
theorem lims_cmp {n m : Nat} (hn : n ≤ 199) (hm : m ≤ 199) : cmpQ (rdQ (tz n).data.toList [49]) (rdQ (tz m).data.toList [49]) = if n < m then -1 else if m < n then 1 else 0 := by
  rw [rdQ_tz hn, rdQ_tz hm]
  show ordI (((10 ^ n : Nat) : Int) * 1) (((10 ^ m : Nat) : Int) * 1) = _
  rw [Int.mul_one, Int.mul_one, ord_pow]
theorem lims_up {n m : Nat} (hn : n ≤ 199) (hm : m ≤ 199) : cmpQ (rdQ (tz n).data.toList [49]) (rdQ [49] (tz m).data.toList) = if n = 0 ∧ m = 0 then 0 else 1 := by
  rw [rdQ_tz hn, rdQ_inv hm]
  show ordI (((10 ^ n : Nat) : Int) * ((10 ^ m : Nat) : Int)) (1 * 1) = _
  rw [pow_mul10, show (1 * 1 : Int) = ((10 ^ 0 : Nat) : Int) from rfl, ord_pow]
  by_cases h : n = 0 ∧ m = 0
  · rw [if_pos h, if_neg (by omega), if_neg (by omega)]
  · rw [if_neg h, if_neg (by omega), if_pos (by omega)]
end Go.Proofs.YtgokpdidhpogdaaGreat
