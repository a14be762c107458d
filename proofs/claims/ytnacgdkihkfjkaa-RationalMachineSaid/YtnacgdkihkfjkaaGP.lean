/- What rounding a fraction to the grid says. No conditions. -/
import Derived.Test.YtnacgdkihkfjkaaGO
namespace Go.Proofs.Ytnacgdkihkfjkaa
open Go.RowKit Go.Lib

theorem sum_ok {f : Int → Int → Int} {p q : Int × Int} (h1 : (p.1 * q.2).natAbs < 10 ^ 200) (h2 : (q.1 * p.2).natAbs < 10 ^ 200) (h3 : (f (p.1 * q.2) (q.1 * p.2)).natAbs < 10 ^ 200) (h4 : (p.2 * q.2).natAbs < 10 ^ 200) (h0 : p.2 * q.2 ≠ 0) :
    sumQ f (some p) (some q) = some (red (f (p.1 * q.2) (q.1 * p.2)) (p.2 * q.2)) := by
  show mk2 ((lim (p.1 * q.2)).bind fun x => (lim (q.1 * p.2)).bind fun y => lim (f x y)) (lim (p.2 * q.2)) = _
  rw [lim_some h1, lim_some h2, lim_some h4]
  show mk2 (lim (f (p.1 * q.2) (q.1 * p.2))) _ = _
  rw [lim_some h3]
  show (if p.2 * q.2 = 0 then none else some (red _ _)) = _
  rw [if_neg h0]
theorem mul_ok {p q : Int × Int} (h1 : (p.1 * q.1).natAbs < 10 ^ 200) (h2 : (p.2 * q.2).natAbs < 10 ^ 200) (h0 : p.2 * q.2 ≠ 0) : mulQ (some p) (some q) = some (red (p.1 * q.1) (p.2 * q.2)) := by
  show mk2 (lim (p.1 * q.1)) (lim (p.2 * q.2)) = _
  rw [lim_some h1, lim_some h2]
  show (if p.2 * q.2 = 0 then none else some (red _ _)) = _
  rw [if_neg h0]
theorem grid_ok {up : Bool} {p : Int × Int} {k : Nat} (hk : k ≤ 30) (h1 : (p.1 * ((10 ^ k : Nat) : Int)).natAbs < 10 ^ 200) {U : Int} (hU : U = if up = true ∧ p.1 * ((10 ^ k : Nat) : Int) % p.2 ≠ 0 then p.1 * ((10 ^ k : Nat) : Int) / p.2 + 1 else p.1 * ((10 ^ k : Nat) : Int) / p.2)
    (h2 : U.natAbs < 10 ^ 200) : gridQ up (some p) (k : Int) = some (red U ((10 ^ k : Nat) : Int)) := by
  unfold gridQ
  rw [if_neg (by omega), show ((k : Int)).toNat = k from by omega]
  show (lim (p.1 * ((10 ^ k : Nat) : Int))).bind _ = _
  rw [lim_some h1]
  have h0 : ((10 ^ k : Nat) : Int) ≠ 0 := by have : 0 < 10 ^ k := Nat.pow_pos (by omega); omega
  show mk2 (if up = true ∧ p.1 * ((10 ^ k : Nat) : Int) % p.2 ≠ 0 then lim (p.1 * ((10 ^ k : Nat) : Int) / p.2 + 1) else some (p.1 * ((10 ^ k : Nat) : Int) / p.2)) (some ((10 ^ k : Nat) : Int)) = _
  split at hU
  · rename_i h
    rw [if_pos h, ← hU, lim_some h2]
    show (if ((10 ^ k : Nat) : Int) = 0 then none else some (red _ _)) = _
    rw [if_neg h0]
  · rename_i h
    rw [if_neg h, ← hU]
    show (if ((10 ^ k : Nat) : Int) = 0 then none else some (red _ _)) = _
    rw [if_neg h0]
theorem low_neg {n d : Int} (h : Low n d) : Low (-n) d := ⟨h.1, by rw [Int.natAbs_neg]; exact h.2⟩
/-- The negative. -/
theorem neg_ok {p : Int × Int} (hp : Good p) : sumQ (· - ·) (some (0, 1)) (some p) = some (-p.1, p.2) ∧ Good (-p.1, p.2) := by
  have hl := low_neg hp.1
  have hd := hp.1.1
  refine ⟨?_, hl, by show (-p.1).natAbs < _; rw [Int.natAbs_neg]; exact hp.2.1, hp.2.2⟩
  rw [sum_ok (p := (0, 1)) (by simp) (by simpa using hp.2.1) (by simpa using hp.2.1) (by simpa using hp.2.2) (by simp; omega)]
  simp only [Int.zero_mul, Int.mul_one, Int.one_mul, Int.zero_sub]
  rw [red_of_low hl]
theorem red_good {x y : Int} (hx : x.natAbs < 10 ^ 200) (hy : y.natAbs < 10 ^ 200) (h0 : y ≠ 0) : Good (red x y) := by
  have := @red_abs x y h0
  exact ⟨red_low h0, Nat.lt_of_le_of_lt this.1 hx, Nat.lt_of_le_of_lt this.2 hy⟩
/-- What the statement asks of a fraction and a grid. -/
def GridSays (r : Int × Int) (k : Nat) : Prop := ∃ a b c f : Int × Int, Good a ∧ Good b ∧ Good c ∧ Good f ∧ gridQ false (some r) k = some a ∧ gridQ true (some r) k = some b ∧ gridQ false (some (-r.1, r.2)) k = some c ∧ (-c.1, c.2) = b ∧
  gridQ false (some b) k = some b ∧ gridQ true (some a) k = some a ∧ mulQ (some a) (some (((10 ^ k : Nat) : Int), 1)) = some f ∧ f.2 = 1 ∧
  ((cv a r = 0 ∧ cv b r = 0 ∧ sumQ (· - ·) (some b) (some a) = some (0, 1)) ∨ (cv a r = -1 ∧ cv b r = 1 ∧ sumQ (· - ·) (some b) (some a) = some (1, ((10 ^ k : Nat) : Int))))
theorem grid_says {n d : Int} {k : Nat} (hl : Low n d) (hn : n.natAbs < 10 ^ 100) (hk : k ≤ 30) : GridSays (n, d) k := by
  obtain ⟨T, hT⟩ : ∃ T : Int, T = ((10 ^ k : Nat) : Int) := ⟨_, rfl⟩
  have hd := hl.1
  have hT0 : 0 < T := by have : 0 < 10 ^ k := Nat.pow_pos (by omega); omega
  have hT1 : T.natAbs < 10 ^ 31 := by rw [hT, Int.natAbs_natCast]; exact Nat.pow_lt_pow_right (by omega) (by omega)
  have hT9 : T.natAbs < 10 ^ 200 := lt200 hT1 (by omega)
  have hm : (n * T).natAbs < 10 ^ 131 := abs_mul hn hT1
  obtain ⟨F, hF⟩ : ∃ F, F = n * T / d := ⟨_, rfl⟩
  obtain ⟨G, hG⟩ : ∃ G, G = n * T % d := ⟨_, rfl⟩
  obtain ⟨U, hU⟩ : ∃ U, U = if G ≠ 0 then F + 1 else F := ⟨_, rfl⟩
  have hG0 : 0 ≤ G := by rw [hG]; exact Int.emod_nonneg _ (by omega)
  have hG1 : G < d := by rw [hG]; exact Int.emod_lt_of_pos _ hd
  have hFG : n * T = d * F + G := by rw [hF, hG]; have := Int.mul_ediv_add_emod (n * T) d; omega
  have hF1 : F.natAbs < 10 ^ 131 := by rw [hF]; exact Nat.lt_of_le_of_lt (Int.natAbs_ediv_le_natAbs _ _) hm
  have hU1 : U.natAbs < 10 ^ 132 := by
    have : U.natAbs ≤ F.natAbs + 1 := by rw [hU]; split <;> omega
    have e : (10 : Nat) ^ 132 = 10 * 10 ^ 131 := by rw [Nat.pow_succ]
    rw [e]; omega
  have hF9 := lt200 hF1 (by omega)
  have hU9 := lt200 hU1 (by omega)
  have c1 := @red_cross F T; have c2 := @red_cross U T; have c3 := @red_cross (-U) T
  have p1 := @red_pos F T (by omega); have p2 := @red_pos U T (by omega); have p3 := @red_pos (-U) T (by omega)
  have b1 := @red_abs F T (by omega); have b2 := @red_abs U T (by omega)
  have l1 := @red_low F T (by omega); have l2 := @red_low U T (by omega); have l3 := @red_low (-U) T (by omega)
  have ga : Good (red F T) := red_good hF9 hT9 (by omega)
  have gb : Good (red U T) := red_good hU9 hT9 (by omega)
  have gc : Good (red (-U) T) := red_good (by rw [Int.natAbs_neg]; exact hU9) hT9 (by omega)
  have q1 : gridQ false (some (n, d)) k = some (red F T) := by
    have := grid_ok (up := false) (p := (n, d)) (U := F) hk (by rw [← hT]; exact lt200 hm (by omega)) (by rw [← hT, if_neg (by simp)]; exact hF) hF9
    rw [hT]; exact this
  have q2 : gridQ true (some (n, d)) k = some (red U T) := by
    have := grid_ok (up := true) (p := (n, d)) (U := U) hk (by rw [← hT]; exact lt200 hm (by omega)) (by rw [← hT, hU]; show _ = if true = true ∧ n * T % d ≠ 0 then n * T / d + 1 else n * T / d; rw [← hG, ← hF]; simp) hU9
    rw [hT]; exact this
  have hnU : -n * T / d = -U := by
    rw [hU]
    by_cases h : G = 0
    · rw [if_neg (by omega)]
      have : -n * T = d * -F := by rw [Int.mul_neg, Int.neg_mul]; omega
      rw [this, Int.mul_ediv_cancel_left _ (by omega)]
    · rw [if_pos h]
      have h1 : -n * T = (d - G) + d * (-(F + 1)) := by rw [Int.mul_neg, Int.neg_mul, Int.mul_add]; omega
      rw [h1, Int.add_mul_ediv_left _ _ (by omega), Int.ediv_eq_zero_of_lt (by omega) (by omega)]
      omega
  have q3 : gridQ false (some (-n, d)) k = some (red (-U) T) := by
    have := grid_ok (up := false) (p := (-n, d)) (U := -U) hk (by rw [← hT]; show (-n * T).natAbs < _; rw [Int.neg_mul, Int.natAbs_neg]; exact lt200 hm (by omega)) (by rw [← hT, if_neg (by simp)]; exact hnU.symm) (by rw [Int.natAbs_neg]; exact hU9)
    rw [hT]; exact this
  have bT : ∀ {x : Int}, x.natAbs < 10 ^ 132 → (x * T).natAbs < 10 ^ 200 := fun h => lt200 (abs_mul h hT1) (by omega)
  have aF : (red F T).1.natAbs < 10 ^ 131 := Nat.lt_of_le_of_lt b1.1 hF1
  have aU : (red U T).1.natAbs < 10 ^ 132 := Nat.lt_of_le_of_lt b2.1 hU1
  have tF : (red F T).2.natAbs < 10 ^ 31 := Nat.lt_of_le_of_lt b1.2 hT1
  have tU : (red U T).2.natAbs < 10 ^ 31 := Nat.lt_of_le_of_lt b2.2 hT1
  have q4 : gridQ false (some (red U T)) k = some (red U T) := by
    have := grid_ok (up := false) (p := red U T) (U := U) hk (by rw [← hT]; exact bT aU) (by rw [← hT, if_neg (by simp), c2, Int.mul_ediv_cancel _ (by omega)]) hU9
    rw [hT] at this ⊢; exact this
  have q5 : gridQ true (some (red F T)) k = some (red F T) := by
    have := grid_ok (up := true) (p := red F T) (U := F) hk (by rw [← hT]; exact bT (Nat.lt_trans aF (Nat.pow_lt_pow_right (by omega) (by omega)))) (by rw [← hT, c1, Int.mul_emod_left, if_neg (by simp), Int.mul_ediv_cancel _ (by omega)]) hF9
    rw [hT] at this ⊢; exact this
  have q6 : mulQ (some (red F T)) (some (T, 1)) = some (F, 1) := by
    rw [mul_ok (q := (T, 1)) (bT (Nat.lt_trans aF (Nat.pow_lt_pow_right (by omega) (by omega)))) (by show ((red F T).2 * 1).natAbs < _; rw [Int.mul_one]; exact lt200 tF (by omega)) (by show (red F T).2 * 1 ≠ 0; omega)]
    show some (red ((red F T).1 * T) ((red F T).2 * 1)) = _
    have hl : Low F 1 := ⟨by omega, Nat.gcd_one_right _⟩
    rw [c1, Int.mul_one]
    exact congrArg some (((red_eq (by omega) (by omega)).2 (by rw [Int.mul_one])).trans (red_of_low hl))
  have hs9 : ∀ {x y : Int}, x.natAbs < 10 ^ 164 → y.natAbs < 10 ^ 164 → (x - y).natAbs < 10 ^ 200 := fun {x y} hx hy => by
    have h1 : (x - y).natAbs < 2 * 10 ^ 164 := by omega
    exact Nat.lt_of_lt_of_le h1 (Nat.le_trans (Nat.mul_le_mul_right _ (show 2 ≤ 10 ^ 1 by omega)) (by rw [← Nat.pow_add]; exact Nat.pow_le_pow_right (by omega) (by omega)))
  have m1 : ((red U T).1 * (red F T).2).natAbs < 10 ^ 164 := Nat.lt_trans (abs_mul aU tF) (Nat.pow_lt_pow_right (by omega) (by omega))
  have m2 : ((red F T).1 * (red U T).2).natAbs < 10 ^ 164 := Nat.lt_trans (abs_mul aF tU) (Nat.pow_lt_pow_right (by omega) (by omega))
  have m0 : 0 < (red U T).2 * (red F T).2 := Int.mul_pos p2 p1
  have q7 : sumQ (· - ·) (some (red U T)) (some (red F T)) = some (red ((red U T).1 * (red F T).2 - (red F T).1 * (red U T).2) ((red U T).2 * (red F T).2)) :=
    sum_ok (f := (· - ·)) (lt200 m1 (by omega)) (lt200 m2 (by omega)) (hs9 m1 m2) (lt200 (abs_mul tU tF) (by omega)) (by omega)
  have e7 : ∀ z w : Int, w ≠ 0 → Low z w → z * T = (U - F) * w → sumQ (· - ·) (some (red U T)) (some (red F T)) = some (z, w) := fun z w hw hz h => by
    rw [q7, ← red_of_low hz, (red_eq (by omega) hw).2]
    have hk : T ≠ 0 := by omega
    refine Int.eq_of_mul_eq_mul_right hk ?_
    generalize (red U T).1 = x at *; generalize (red U T).2 = y at *; generalize (red F T).1 = u at *; generalize (red F T).2 = v at *
    grind
  have v1 : cv (red F T) (n, d) = ordI (-G) 0 := by
    unfold cv
    refine ordI_scale (k := T) (l := (red F T).2) hT0 p1 ?_
    show ((red F T).1 * d - n * (red F T).2) * T = _
    generalize (red F T).1 = x at *; generalize (red F T).2 = y at *
    grind
  have v2 : cv (red U T) (n, d) = ordI (U * d - n * T) 0 := by
    unfold cv
    refine ordI_scale (k := T) (l := (red U T).2) hT0 p2 ?_
    show ((red U T).1 * d - n * (red U T).2) * T = _
    generalize (red U T).1 = x at *; generalize (red U T).2 = y at *
    grind
  have e3 : (-(red (-U) T).1, (red (-U) T).2) = red U T := by
    obtain ⟨x1, x2⟩ := low_eq (low_neg l3) l2 (by
      refine Int.eq_of_mul_eq_mul_right (show T ≠ 0 by omega) ?_
      generalize (red U T).1 = x at *; generalize (red U T).2 = y at *; generalize (red (-U) T).1 = u at *; generalize (red (-U) T).2 = v at *
      grind)
    exact Prod.ext x1 x2
  refine ⟨red F T, red U T, red (-U) T, (F, 1), ga, gb, gc, ⟨⟨by omega, Nat.gcd_one_right _⟩, hF9, by show (1 : Int).natAbs < 10 ^ 200; decide⟩, q1, q2, q3, e3, q4, q5, by rw [← hT]; exact q6, rfl, ?_⟩
  rw [← hT]
  by_cases h : G = 0
  · left
    have hUF : U = F := by rw [hU, if_neg (by omega)]
    refine ⟨by rw [v1]; exact ordI_eq (by omega), by rw [v2]; exact ordI_eq (by rw [hUF, hFG, Int.mul_comm F d]; omega), e7 0 1 (by omega) ⟨by omega, by decide⟩ (by rw [hUF]; omega)⟩
  · right
    have hUF : U = F + 1 := by rw [hU, if_pos h]
    refine ⟨by rw [v1]; exact ordI_lt (by omega), by rw [v2]; exact ordI_gt (by rw [hUF, hFG, Int.add_mul, Int.mul_comm F d]; omega), e7 1 T (by omega) ⟨by omega, Nat.gcd_one_left _⟩ (by rw [hUF]; omega)⟩
end Go.Proofs.Ytnacgdkihkfjkaa
