/- The contracts of gcd and root of amounts. Conditions: the amounts read, and have at most 600 groups. -/
import Derived.Test.YtgpppjfgdbloiaaDiv
namespace Go.Proofs.Ytgpppjfgdbloiaa
open Go.RowKit Go.Lib

/-- The number that the cells from an address on are. -/
def numAt (w : World) (a : Addr) : Nat → Nat
  | 0 => 0
  | n + 1 => numAt w a n + 10000 ^ n * (intOf ((w.cell? (a.add n)).getD (.int .i64 0))).toNat
def amVal (w : World) : Value → Nat
  | .slice (some a) n _ => numAt w a n
  | _ => 0
theorem amVal_of {w : World} {A : Option Addr} {c X : Nat} (h : Am w A (glen X) c X) : amVal w (.slice A (glen X) c) = X := by
  obtain ⟨n, hn⟩ : ∃ n, n = glen X := ⟨_, rfl⟩
  have hX := lt_glen X
  rw [← hn] at h hX ⊢
  by_cases h0 : 0 < n
  · obtain ⟨b, o, rfl, -, hc⟩ := h.2 h0
    have : ∀ k, k ≤ n → numAt w ⟨b, o, none⟩ k = X % 10000 ^ k := by
      intro k
      induction k with
      | zero => intro _; simp [numAt, Nat.mod_one]
      | succ k ih =>
        intro hk
        have e : (⟨b, o, none⟩ : Addr).add k = ⟨b, o + k, none⟩ := by unfold Addr.add; split <;> simp_all
        rw [numAt, ih (by omega), e, hc k (by omega), mod_succ4]
        simp [intOf]
    show numAt w ⟨b, o, none⟩ n = X
    rw [this n (Nat.le_refl _), Nat.mod_eq_of_lt hX]
  · obtain rfl : n = 0 := by omega
    have : X = 0 := by simpa using hX
    subst this
    cases A <;> rfl

set_option maxRecDepth 100000 in
set_option maxHeartbeats 1000000 in
theorem agcd_any (A A' : Option Addr) (c c' X Y : Nat) (w : World) (hA : Am w A (glen X) c X) (hB : Am w A' (glen Y) c' Y) (hX : glen X ≤ 600) (hY : glen Y ≤ 600) :
    Calls Try.prog 70 #[.slice A (glen X) c, .slice A' (glen Y) c'] w (OutN (Nat.gcd X Y) w) := by
  have HA := Lib.hid hA; have HB := Lib.hid hB
  clear hA hB
  go_enter Try.func70, Try.ntmps70
  go_wp2
  go_loopw [0, 1] (fun a b wr => ∃ (Ar As : Option Addr) (cr cs P R : Nat), a = .slice Ar (glen P) cr ∧ b = .slice As (glen R) cs ∧ glen P ≤ 600 ∧ glen R ≤ 600 ∧ Hid (Nat.gcd P R = Nat.gcd X Y) ∧ Am wr Ar (glen P) cr P ∧ Am wr As (glen R) cs R ∧ Below w.heap.size w wr) (fun _ b wr => amVal wr b)
  case atStart => exact ⟨_, _, _, _, _, _, rfl, rfl, hX, hY, rfl, HA.out, HB.out, Below.refl _ _⟩
  case round =>
    clear hX hY
    obtain ⟨Ar, As, cr, cs, P, R, rfl, rfl, hP, hR, HG, hAr, hAs, hbl⟩ := hrel
    by_cases h0 : 0 < R
    · have hg := glen_pos h0
      have hdv := adiv_any Ar As cr cs P R wr hAr hAs hP hR h0
      have HC := Lib.hid hdv
      have hm := Nat.mod_lt P h0
      have hgm : glen (P % R) ≤ 600 := Nat.le_trans (glen_mono (Nat.le_of_lt hm)) hR
      have HG2 : Hid (Nat.gcd R (P % R) = Nat.gcd X Y) := by
        show Nat.gcd R (P % R) = Nat.gcd X Y
        rw [← HG.out, Nat.gcd_comm R, ← Nat.gcd_rec, Nat.gcd_comm]
      have HV := Lib.hid (amVal_of hAs)
      have HAs := Lib.hid hAs
      have HM := Lib.hid hm
      clear hdv hAr hAs hm
      go_wp2_with fail
      refine HC.out.mono ?_
      rintro e w1 ⟨A1, c1, A2, c2, rfl, hA1, hA2, hb1⟩
      have HA2 := Lib.hid hA2
      have HV2 := Lib.hid (amVal_of hA2)
      have HB1 := Lib.hid hb1
      have hAs2 := Lib.hid (HAs.out.below hb1)
      clear hA1 hA2 hb1
      go_wp2_with fail
      go_roundw
      case rel => exact ⟨_, _, _, _, R, P % R, rfl, rfl, hR, hgm, HG2, hAs2.out, HA2.out, hbl.trans (HB1.out.mono hbl.size)⟩
      case measure => simp [HV.out, HV2.out, HM.out]
    · have hz : ¬ 0 < glen R := by rw [show R = 0 by omega, glen_zero]; omega
      have hz2 : ((glen R : Nat) : Int) ≤ 0 := by omega
      have HR := Lib.hid (show P = Nat.gcd X Y by rw [← HG.out, show R = 0 by omega, Nat.gcd_zero_right])
      clear hAs
      go_wp2
      go_ret
      exact ⟨Ar, cr, by rw [← HR.out]; rfl, by rw [← HR.out]; exact hAr, hbl⟩
end Go.Proofs.Ytgpppjfgdbloiaa
