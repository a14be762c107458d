/- The contract of the reference's Gcd. Condition: the strings' lengths are ints. -/
import Derived.Test.YtgpppjfgdbloiaaQDiv
namespace Go.Proofs.Ytgpppjfgdbloiaa
open Go.RowKit Go.Lib

set_option maxRecDepth 100000 in
set_option maxHeartbeats 1000000 in
theorem qgcd_any (a b : ByteArray) (w : World) (ha : a.size ≤ 9000000000000000000) (hb : b.size ≤ 9000000000000000000) :
    Calls Try.prog 24 #[.string a, .string b] w (OutO (opR (fun x y => ((Nat.gcd x.natAbs y.natAbs : Nat) : Int)) a.data.toList b.data.toList) w) := by
  have hva := fun w => qvalid_any a w ha
  have hvb := fun w => qvalid_any b w hb
  cases hx : rd a.data.toList with
  | none =>
    rw [opR_no1 hx]
    rw [valid_no hx] at hva
    have HVA := Lib.hid hva
    clear hx hva hvb
    go_enter Try.func24, Try.ntmps24
    go_wp2_with fail
    refine (HVA.out _).mono ?_
    rintro e w1 ⟨rfl, k1, rfl⟩
    go_wp2_with fail
    go_ret2
    exact ⟨rfl, below_drewN (Below.refl _ _) _⟩
  | some x =>
    rw [valid_yes hx] at hva
    have HVA := Lib.hid hva
    cases hy : rd b.data.toList with
    | none =>
      rw [opR_no2 hx hy]
      rw [valid_no hy] at hvb
      have HVB := Lib.hid hvb
      clear hx hy hva hvb
      go_enter Try.func24, Try.ntmps24
      go_wp2_with fail
      refine (HVA.out _).mono ?_
      rintro e w1 ⟨rfl, k1, rfl⟩
      go_wp2_with fail
      refine (HVB.out _).mono ?_
      rintro e w1 ⟨rfl, k2, rfl⟩
      go_wp2_with fail
      go_ret2
      exact ⟨rfl, below_drewN (Below.refl _ _) _⟩
    | some y =>
      rw [valid_yes hy] at hvb
      rw [opR_yes hx hy]
      have HVB := Lib.hid hvb
      obtain ⟨sx, X, -, -, hXa, hX2, -, hda⟩ := qdig2 ha hx
      obtain ⟨sy, Y, -, -, hYa, hY2, -, hdb⟩ := qdig2 hb hy
      have HDA := Lib.hid hda; have HDB := Lib.hid hdb
      have hYl := dl_le.2 hY2
      have hXl := dl_le.2 hX2
      show Calls _ _ _ w (OutO (lim ((Nat.gcd x.natAbs y.natAbs : Nat) : Int)) w)
      rw [← hXa, ← hYa]
      obtain ⟨g, hg⟩ : ∃ g, g = Nat.gcd X Y := ⟨_, rfl⟩
      rw [← hg]
      have HG := Lib.hid hg
      clear hx hy hva hvb hda hdb hX2 hY2 hXa hYa hg
      go_enter Try.func24, Try.ntmps24
      go_wp2_with fail
      refine (HVA.out _).mono ?_
      rintro e w1 ⟨rfl, k1, rfl⟩
      go_wp2_with fail
      refine (HVB.out _).mono ?_
      rintro e w1 ⟨rfl, k2, rfl⟩
      go_wp2_with fail
      refine (HDA.out _).mono ?_
      rintro e w3 ⟨A, c, rfl, hA, hb3⟩
      have hb3 := Lib.hid ((below_drewN (Below.refl w.heap.size w) (k1 + k2)).trans hb3)
      have hA := Lib.hid hA
      go_wp2_with fail
      refine (HDB.out _).mono ?_
      rintro e w4 ⟨A', c', rfl, hB, hb4⟩
      have hA2 := Lib.hid (hA.out.below hb4)
      have hb5 := Lib.hid (hb3.out.trans (hb4.mono hb3.out.size))
      have hB := Lib.hid hB
      clear hb4
      go_wp2_with fail
      go_loopw [7, 9] (fun a b wr => ∃ (Ar As : Option Addr) (cr cs P R : Nat), a = .slice Ar (dl P) cr ∧ b = .slice As (dl R) cs ∧ dl P ≤ 200 ∧ dl R ≤ 200 ∧ Hid (Nat.gcd P R = g) ∧ Dm wr Ar (dl P) cr P ∧ Dm wr As (dl R) cs R ∧ Below w.heap.size w wr) (fun _ b wr => dmVal wr b)
      case atStart => exact ⟨_, _, _, _, _, _, rfl, rfl, hXl, hYl, HG.out.symm, hA2.out, hB.out, hb5.out⟩
      case round =>
        clear hXl hYl
        obtain ⟨Ar, As, cr, cs, P, R, rfl, rfl, hP, hR, HG, hAr, hAs, hbl⟩ := hrel
        by_cases h0 : 0 < R
        · have hg := dl_pos h0
          have hdv := qdivd_any Ar As cr cs P R wr hAr hAs (by omega) (by omega) h0
          have HC := Lib.hid hdv
          have hm := Nat.mod_lt P h0
          have hgm : dl (P % R) ≤ 200 := Nat.le_trans (dl_mono (Nat.le_of_lt hm)) hR
          have HG2 : Hid (Nat.gcd R (P % R) = g) := by
            show Nat.gcd R (P % R) = g
            rw [← HG.out, Nat.gcd_comm R, ← Nat.gcd_rec, Nat.gcd_comm]
          have HV := Lib.hid (dmVal_of hAs)
          have HAs := Lib.hid hAs
          have HM := Lib.hid hm
          have hgi : (0 : Int) < ((dl R : Nat) : Int) := by omega
          clear hdv hAr hAs hm
          go_wp2_with fail
          refine HC.out.mono ?_
          rintro e w1 ⟨A1, c1, A2, c2, rfl, hA1, hA2, hb1⟩
          have HA2 := Lib.hid hA2
          have HV2 := Lib.hid (dmVal_of hA2)
          have HB1 := Lib.hid hb1
          have hAs2 := Lib.hid (HAs.out.below hb1)
          clear hA1 hA2 hb1
          go_wp2_with fail
          go_roundw
          case rel => exact ⟨_, _, _, _, R, P % R, rfl, rfl, hR, hgm, HG2, hAs2.out, HA2.out, hbl.trans (HB1.out.mono hbl.size)⟩
          case measure => simp [HV.out, HV2.out, HM.out]
        · have hz : ¬ (0 : Int) < ((dl R : Nat) : Int) := by rw [show R = 0 by omega, dl_zero]; omega
          have hPg : P = g := by rw [← HG.out, show R = 0 by omega, Nat.gcd_zero_right]
          subst hPg
          have hck := qchecked_any false Ar cr P wr hAr (by omega)
          rw [sg_false] at hck
          have HCK := Lib.hid hck; have HBL := Lib.hid hbl
          clear hck hAr hAs hbl h0
          go_wp2_with fail
          refine HCK.out.mono ?_
          rintro e w6 ⟨rfl, hb7⟩
          go_wp2_with fail
          go_ret2
          exact ⟨rfl, HBL.out.trans (hb7.mono HBL.out.size)⟩
end Go.Proofs.Ytgpppjfgdbloiaa
