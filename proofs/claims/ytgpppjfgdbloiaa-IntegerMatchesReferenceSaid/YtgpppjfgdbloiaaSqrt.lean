/- The contract of root of amounts. Conditions: the amount reads, and has at most 500 groups. -/
import Derived.Test.YtgpppjfgdbloiaaGcd
namespace Go.Proofs.Ytgpppjfgdbloiaa
open Go.RowKit Go.Lib

/-- r is the root of X. -/
def IsRoot (X r : Nat) : Prop := r * r ≤ X ∧ X < (r + 1) * (r + 1)
/-- The root has been returned. -/
def OutR (X : Nat) (w : World) (e : Ending) (w' : World) : Prop := ∃ r A c, IsRoot X r ∧ e = .returned (.slice A (glen r) c) ∧ Am w' A (glen r) c r ∧ Below w.heap.size w w'

/-- No step goes below the root. -/
theorem newton_ge {X r G : Nat} (hr : r * r ≤ X) (hG : 0 < G) : r ≤ (G + X / G) / 2 := by
  have h1 : 2 * r ≤ G + X / G := by
    rcases Nat.lt_or_ge (X / G) (2 * r - G) with h | h
    · exfalso
      have h2 : X < (2 * r - G) * G := (Nat.div_lt_iff_lt_mul hG).1 h
      have h3 : (2 * r - G) * G ≤ r * r := by
        rcases Nat.le_total G r with h4 | h4
        · obtain ⟨d, rfl⟩ := Nat.exists_eq_add_of_le h4
          have : 2 * (G + d) - G = G + 2 * d := by omega
          rw [this]; grind
        · rcases Nat.le_total G (2 * r) with h5 | h5
          · obtain ⟨d, rfl⟩ := Nat.exists_eq_add_of_le h4
            obtain ⟨e, he⟩ := Nat.exists_eq_add_of_le (show d ≤ r by omega)
            have : 2 * r - (r + d) = e := by omega
            rw [this, he]; grind
          · rw [show 2 * r - G = 0 by omega]; omega
      omega
    · omega
  omega
/-- Where the steps stop going down, the root is reached. -/
theorem newton_stop {X r G : Nat} (hr : X < (r + 1) * (r + 1)) (hG : 0 < G) (hs : G ≤ (G + X / G) / 2) : G ≤ r := by
  have h1 : G ≤ X / G := by omega
  have h2 : G * G ≤ X := (Nat.le_div_iff_mul_le hG).1 h1
  rcases Nat.lt_or_ge r G with h | h
  · have : (r + 1) * (r + 1) ≤ G * G := Nat.mul_le_mul h h
    omega
  · exact h
theorem root_exists (X : Nat) : ∃ r, IsRoot X r := by
  unfold IsRoot
  induction X with
  | zero => exact ⟨0, by omega, by omega⟩
  | succ X ih =>
    obtain ⟨r, h1, h2⟩ := ih
    rcases Nat.lt_or_ge (X + 1) ((r + 1) * (r + 1)) with h | h
    · exact ⟨r, by omega, h⟩
    · refine ⟨r + 1, h, ?_⟩
      have : (r + 1 + 1) * (r + 1 + 1) = (r + 1) * (r + 1) + 2 * r + 3 := by grind
      omega
theorem dg4_pow (m i : Nat) : dg4 (10000 ^ m) i = if i = m then 1 else 0 := by
  unfold dg4
  rcases Nat.lt_trichotomy i m with h | h | h
  · rw [if_neg (by omega), Nat.pow_div (by omega) (by omega)]
    obtain ⟨d, hd⟩ := Nat.exists_eq_add_of_lt h
    rw [show m - i = d + 1 by omega, Nat.pow_succ, Nat.mul_mod_left]
  · rw [if_pos h, h, Nat.div_self (Nat.pow_pos (by omega))]
  · rw [if_neg (by omega), Nat.div_eq_of_lt (Nat.pow_lt_pow_right (by omega) h)]
theorem glen_pow (m : Nat) : glen (10000 ^ m) = m + 1 := glen_eq (Nat.pow_lt_pow_right (by omega) (by omega)) (.inr (by rw [Nat.add_sub_cancel, dg4_pow, if_pos rfl]; omega))
theorem grps_pow (m : Nat) : (List.replicate (m + 1) (0 : Int)).set m 1 = grps (10000 ^ m) (m + 1) := by
  apply List.ext_getElem
  · simp [grps_length]
  · intro i h1 h2
    rw [grps_at, dg4_pow, List.getElem_set, List.getElem_replicate]
    by_cases h : m = i
    · subst h; simp
    · rw [if_neg h, if_neg (Ne.symm h)]; rfl
theorem pow_two_of {a b n : Nat} (h1 : a < 10000 ^ n) (h2 : b < 10000 ^ n) : a + b < 10000 ^ (n + 1) := by rw [Nat.pow_succ]; omega
theorem glen_two : glen 2 = 1 := glen_eq (by omega) (.inr (by decide))
/-- A new block with one group. -/
theorem Am.one (w : World) (q : Nat) (hq : q < 10000) : Am (w.alloc (.cells #[.int .i64 (q : Nat)] 3)) (some ⟨w.heap.size, 0, none⟩) 1 1 q :=
  ⟨Nat.le_refl _, fun _ => ⟨_, _, rfl, by simp, fun i hi => by
    obtain rfl : i = 0 := by omega
    rw [World.cell?_alloc_at _ _ _ _ rfl]
    simp [dg4, Nat.mod_eq_of_lt hq]⟩⟩

set_option maxRecDepth 100000 in
set_option maxHeartbeats 1000000 in
theorem aroot_any (A : Option Addr) (c X : Nat) (w : World) (hA : Am w A (glen X) c X) (hX : glen X ≤ 500) :
    Calls Try.prog 56 #[.slice A (glen X) c] w (OutR X w) := by
  obtain ⟨r, hr⟩ := root_exists X
  rcases Nat.eq_zero_or_pos X with h0 | h0
  · have hz : ((glen X : Nat) : Int) = 0 := by rw [h0, glen_zero]; rfl
    have hz2 : (((glen X : Nat) : Int) == 0) = true := by rw [hz]; rfl
    have hr0 : r = 0 := by
      have := hr.1
      rw [h0] at this
      rcases Nat.eq_zero_or_pos r with h | h
      · exact h
      · have := Nat.mul_pos h h; omega
    have HR := Lib.hid hr; have HR0 := Lib.hid hr0
    clear hr hr0 h0 hA hz
    go_enter Try.func56, Try.ntmps56
    go_wp2
    go_ret
    exact ⟨0, none, 0, by rw [← HR0.out]; exact HR.out, by rw [glen_zero]; rfl, by rw [glen_zero]; exact Am.zero, Below.refl _ _⟩
  · have hg := glen_pos h0
    obtain ⟨m, hm⟩ : ∃ m, m = (glen X + 1) / 2 := ⟨_, rfl⟩
    have hmk := fun w => run_make_ints 51 Try.underlying51 (m + 1) (m + 1) (Nat.le_refl _) (by omega) w
    have e1 : (((glen X : Nat) : Int) + 1) / 2 + 1 = (m : Int) + 1 := by omega
    have hz2 : (((glen X : Nat) : Int) == 0) = false := by rw [beq_eq_false_iff_ne]; omega
    have hfirst : r ≤ 10000 ^ m := by
      rcases Nat.lt_or_ge (10000 ^ m) r with h | h
      · exfalso
        have h1 := Nat.mul_lt_mul'' h h
        have h2 := hr.1
        rw [← Nat.pow_add] at h1
        have h3 := Nat.pow_le_pow_right (show 0 < 10000 by omega) (show glen X ≤ m + m by omega)
        have := lt_glen X
        omega
      · exact h
    have hr1 : 0 < r := by
      rcases Nat.eq_zero_or_pos r with h | h
      · subst h; have := hr.2; omega
      · exact h
    have hG1 := Blk.new w 3 ((zc (m + 1)).setIfInBounds m (iv 1))
    have c0 := (Blk.new w 3 (zc (m + 1))).cell (i := m) (v := iv 0) (by rw [zc_eq, iv_at (by simp)]; simp)
    have f0 := (Blk.new w 3 (zc (m + 1))).frozen m
    have hzs : (zc (m + 1)).setIfInBounds m (iv 1) = ((grps (10000 ^ m) (m + 1)).map iv).toArray := by rw [zc_eq, iv_set, grps_pow]
    rw [hzs] at hG1
    have hA1 := Am.of_blk hG1 (V := 10000 ^ m) (by rw [grps_length])
    rw [grps_length, ← hzs, iv] at hA1
    rw [iv] at c0
    have hb1 : Below w.heap.size w (w.alloc (.cells ((zc (m + 1)).setIfInBounds m (.int .i64 1)) 3)) := (Below.refl _ _).alloc (Nat.le_refl _) _
    have hgp : ((m + 1 : Nat)) = glen (10000 ^ m) := (glen_pow m).symm
    have HA := Lib.hid hA; have HR := Lib.hid hr; have HA1 := Lib.hid hA1; have HB1 := Lib.hid hb1; have HF := Lib.hid hfirst; have HGP := Lib.hid hgp
    have hm9 : m ≤ 300 := by omega
    have HX0 := Lib.hid h0
    have q1 : (0 : Int) ≤ (m : Int) := by omega
    rw [show ((m + 1 : Nat) : Int) = (m : Int) + 1 from by omega] at hmk
    have q2 : (m : Int) + 1 - 1 = (m : Int) := by omega
    clear hA hr hA1 hb1 hfirst hm hG1 hgp h0 hzs
    go_enter Try.func56, Try.ntmps56
    go_wp2
    clear hmk e1 c0 f0
    go_loopw [3] (fun g wr => ∃ (Ag : Option Addr) (cg G : Nat), g = .slice Ag (glen G) cg ∧ glen G ≤ 400 ∧ 0 < G ∧ r ≤ G ∧ Am wr Ag (glen G) cg G ∧ Below w.heap.size w wr) (fun g wr => amVal wr g)
    case atStart => exact ⟨_, _, 10000 ^ m, (by rw [← HGP.out]), (by rw [← HGP.out]; omega), Nat.pow_pos (by omega), HF.out, (by rw [← HGP.out]; exact HA1.out), HB1.out⟩
    case round =>
      obtain ⟨Ag, cg, G, rfl, hG, hG0, hrG, hAg, hbl⟩ := hrel
      have hdv := adiv_any A Ag c cg X G wr (HA.out.below hbl) hAg (by omega) (by omega) hG0
      have hgq : glen (X / G) ≤ 500 := Nat.le_trans (glen_mono (Nat.div_le_self _ _)) hX
      have hge := newton_ge HR.out.1 hG0
      have HC := Lib.hid hdv; have HAg := Lib.hid hAg; have HBL := Lib.hid hbl
      have HV := Lib.hid (amVal_of hAg)
      clear hdv hAg hbl
      go_wp2_with fail
      refine HC.out.mono ?_
      rintro e w1 ⟨Aq, cq, A2, c2, rfl, hAq, hA2, hb1⟩
      have hpl := aplus_any Ag Aq cg cq G (X / G) w1 (HAg.out.below hb1) hAq (by omega) (by omega)
      have HC2 := Lib.hid hpl; have HB2 := Lib.hid hb1
      clear hpl hb1 hA2 hAq
      go_wp2_with fail
      refine HC2.out.mono ?_
      rintro e w2 ⟨A3, c3, rfl, hA3, hb2⟩
      have hb3 : Below w2.heap.size w2 (w2.alloc (.cells #[.int .i64 2] 3)) := (Below.refl _ _).alloc (Nat.le_refl _) _
      have h2 := Am.one w2 2 (by omega)
      rw [show ((2 : Nat) : Int) = 2 from rfl] at h2
      have hgs : glen (G + X / G) ≤ 501 := by
        obtain ⟨z, hz⟩ : ∃ z, z = 500 := ⟨_, rfl⟩
        have h4 := Nat.lt_of_lt_of_le (lt_glen G) (Nat.pow_le_pow_right (show 0 < 10000 by omega) (show glen G ≤ z by omega))
        have h5 := Nat.lt_of_lt_of_le (lt_glen (X / G)) (Nat.pow_le_pow_right (show 0 < 10000 by omega) (show glen (X / G) ≤ z by omega))
        have h6 := glen_le.2 (pow_two_of h4 h5)
        omega
      have hdv := adiv_any A3 (some ⟨w2.heap.size, 0, none⟩) c3 1 (G + X / G) 2 _ (hA3.below hb3) (by rw [glen_two]; exact h2) (by omega) (by rw [glen_two]; omega) (by omega)
      rw [glen_two] at hdv
      have hst := fun h => newton_stop (G := G) HR.out.2 hG0 h
      obtain ⟨N, hN⟩ : ∃ N, N = (G + X / G) / 2 := ⟨_, rfl⟩
      have hgN2 : glen N ≤ 501 := Nat.le_trans (glen_mono (by omega)) hgs
      rw [← hN] at hge hst
      unfold OutQ at hdv
      rw [← hN] at hdv
      have hbl3 := HBL.out.trans ((HB2.out.trans ((hb2.trans (hb3.mono hb2.size)).mono HB2.out.size)).mono HBL.out.size)
      have HC3 := Lib.hid hdv; have HBL3 := Lib.hid hbl3; have HST := Lib.hid hst
      have HAg2 := Lib.hid (((HAg.out.below HB2.out).below hb2).below hb3)
      clear hdv hbl3 hN hst hb3 h2 hb2 hA3
      go_wp2_with fail
      refine HC3.out.mono ?_
      rintro e w4 ⟨A5, c5, A6, c6, rfl, hA5, hA6, hb4⟩
      have hsz := HBL3.out.size
      have hbl4 := HBL3.out.trans (hb4.mono hsz)
      have hgN : N < G → glen N ≤ 400 := fun h => Nat.le_trans (glen_mono (Nat.le_of_lt h)) hG
      have hcm := acomp_any A5 Ag c5 cg N G w4 hA5 (HAg2.out.below hb4) (by omega) (by omega)
      have HBL4 := Lib.hid hbl4; have HA5 := Lib.hid hA5; have HAg4 := Lib.hid (HAg2.out.below hb4); have HGN := Lib.hid hgN
      clear hA6 hb4 hA5 hgN
      rcases Nat.lt_or_ge N G with hlt | hlt
      · rw [ordI_lt (show (N : Int) < G by omega)] at hcm
        have HCM := Lib.hid hcm
        clear hcm
        go_wp2_with fail
        refine HCM.out.mono ?_
        rintro e w5 ⟨rfl, k5, rfl⟩
        go_wp2_with fail
        go_roundw
        case rel => exact ⟨A5, c5, N, rfl, HGN.out hlt, by omega, hge, HA5.out.drewN _, below_drewN HBL4.out _⟩
        case measure =>
          have h7 : amVal (w4.drewN k5) (.slice A5 (glen N) c5) = N := amVal_of (HA5.out.drewN k5)
          simp [HV.out]
          rw [h7]; exact hlt
      · have hGr : G ≤ r := HST.out hlt
        have HEQ := Lib.hid (show G = r by omega)
        rcases Nat.lt_or_ge G N with h6 | h6
        · rw [ordI_gt (show (G : Int) < N by omega)] at hcm
          have HCM := Lib.hid hcm
          clear hcm
          go_wp2_with fail
          refine HCM.out.mono ?_
          rintro e w5 ⟨rfl, k5, rfl⟩
          go_wp2_with fail
          go_ret
          exact ⟨G, _, _, by rw [HEQ.out]; exact HR.out, rfl, HAg4.out.drewN _, below_drewN HBL4.out _⟩
        · rw [ordI_eq (show (N : Int) = G by omega)] at hcm
          have HCM := Lib.hid hcm
          clear hcm
          go_wp2_with fail
          refine HCM.out.mono ?_
          rintro e w5 ⟨rfl, k5, rfl⟩
          go_wp2_with fail
          go_ret
          exact ⟨G, _, _, by rw [HEQ.out]; exact HR.out, rfl, HAg4.out.drewN _, below_drewN HBL4.out _⟩
end Go.Proofs.Ytgpppjfgdbloiaa
