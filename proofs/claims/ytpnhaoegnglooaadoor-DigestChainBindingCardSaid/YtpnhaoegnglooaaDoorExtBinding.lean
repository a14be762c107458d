/- The contract of DigestExtensionBinding. Conditions: the arguments read; the numbers are of their Go type; the table holds what its text says. -/
import Derived.Test.YtpnhaoegnglooaaDoorSides
namespace Go.Proofs.YtpnhaoegnglooaaDoor
open Go.RowKit Go.Lib

theorem extOk_true {old root : ByteArray} {m n : Int} {P : List ByteArray} (h : extOk old m root n P = true) : old.size = 32 ∧ root.size = 32 ∧ (∀ x ∈ P, x.size = 32) ∧ ∃ M K : Nat, m = M ∧ n = K ∧ M ≤ K ∧ (M = 0 → old = rootB []) ∧ (1 ≤ M → (twoB old M K P true).2.2 = true ∧ (twoB old M K P true).1 = old ∧ (twoB old M K P true).2.1 = root) := by
  by_cases hr : 0 ≤ m ∧ m ≤ n
  · by_cases h1 : all32 [old, root] = true
    · by_cases h2 : all32 P = true
      · have s1 := all32_mem h1 old (by simp)
        have s2 := all32_mem h1 root (by simp)
        refine ⟨s1, s2, all32_mem h2, m.toNat, n.toNat, by omega, by omega, by omega, fun h0 => ?_, fun hM => ?_⟩
        · obtain rfl : m = 0 := by omega
          rw [extOk_zero (by omega) h1 h2] at h
          simp only [Bool.and_eq_true, decide_eq_true_eq] at h
          exact h.2
        · obtain ⟨M, rfl⟩ := Int.eq_ofNat_of_zero_le hr.1
          obtain ⟨K, rfl⟩ := Int.eq_ofNat_of_zero_le (show 0 ≤ n by omega)
          rw [Int.toNat_natCast] at hM
          rw [extOk_in hM (by omega) h1 h2] at h
          simp only [Bool.and_eq_true, decide_eq_true_eq] at h
          exact ⟨h.1, h.2.1, h.2.2⟩
      · rw [extOk_not2 (by simpa using h2)] at h; cases h
    · rw [extOk_not1 (by simpa using h1)] at h; cases h
  · rw [extOk_out hr] at h; cases h

set_option maxRecDepth 100000 in
set_option maxHeartbeats 1000000 in
theorem extBinding_law (a : ByteArray) (A1 : Option Addr) (n1 c1 : Nat) (L1 : List ByteArray) (b : ByteArray) (A2 : Option Addr) (n2 c2 : Nat) (L2 : List ByteArray) (m : Int) (root : ByteArray) (num : Int) (w : World) (hnum : num ≤ 9223372036854775807)
    (za : a.size ≤ 9223372036854775807) (zb : b.size ≤ 9223372036854775807) (zr : root.size ≤ 9223372036854775807)
    (h1 : Arg w A1 n1 L1) (m1 : n1 ≤ 9223372036854775807) (h2 : Arg w A2 n2 L2) (m2 : n2 ≤ 9223372036854775807) (hT : Tab w) :
    Calls Tryd.prog 10 #[.string a, .slice A1 n1 c1, .string b, .slice A2 n2 c2, .int .i64 m, .string root, .int .i64 num] w fun e w' => e = .returned (.bool true) ∧ Below w.heap.size w w' := by
  have N0 := Lib.hid (Now.start hT)
  have C1 := Lib.hid fun W (h : Now w W) => few_any A1 n1 c1 70 L1 W (h1.below h.1) (by omega) m1
  have C2 := Lib.hid fun W (h : Now w W) => few_any A2 n2 c2 70 L2 W (h2.below h.1) (by omega) m2
  have f1 := fewL_le L1 70
  have f2 := fewL_le L2 70
  have g1 := fewL_60 L1 70
  have g2 := fewL_60 L2 70
  obtain ⟨P, hP⟩ : ∃ P, P = fewL L1 70 := ⟨_, rfl⟩
  obtain ⟨Q, hQ⟩ : ∃ Q, Q = fewL L2 70 := ⟨_, rfl⟩
  rw [← hP] at C1 f1 g1
  rw [← hQ] at C2 f2 g2
  obtain ⟨lp, hlp⟩ : ∃ lp, P.length = lp := ⟨_, rfl⟩
  obtain ⟨lq, hlq⟩ : ∃ lq, Q.length = lq := ⟨_, rfl⟩
  have lp70 : lp ≤ 70 := by omega
  have lq70 : lq ≤ 70 := by omega
  have HLP := Lib.hid hlp; have HLQ := Lib.hid hlq
  have G1 : Hid (∀ x ∈ P, x.size ≤ 9223372036854775807) := fun x hx => by have := g1 x hx; omega
  have G2 : Hid (∀ x ∈ Q, x.size ≤ 9223372036854775807) := fun x hx => by have := g2 x hx; omega
  clear h1 h2 m1 m2 hT hP hQ f1 f2 hlp hlq
  have KV1 := Lib.hid fun W A c (h : Rd W W.heap.size A lp c P) (hT : Tab W) => verExt_any a root m num A lp c _ P W hnum h (Nat.le_refl _) (by omega) za zr G1.out hT
  have KV2 := Lib.hid fun W A c (h : Rd W W.heap.size A lq c Q) (hT : Tab W) => verExt_any b root m num A lq c _ Q W hnum h (Nat.le_refl _) (by omega) zb zr G2.out hT
  have E1 := Lib.hid fun (h : extOk a m root num P = true) => extOk_true h
  have E2 := Lib.hid fun (h : extOk b m root num Q = true) => extOk_true h
  obtain ⟨v1, hv1⟩ : ∃ v1, v1 = extOk a m root num P := ⟨_, rfl⟩
  obtain ⟨v2, hv2⟩ : ∃ v2, v2 = extOk b m root num Q := ⟨_, rfl⟩
  rw [← hv1] at KV1 E1
  rw [← hv2] at KV2 E2
  clear hv1 hv2
  have q1 := str_beq a b
  have HQ := Lib.hid q1
  have HG1 := Lib.hid g1; have HG2 := Lib.hid g2
  clear q1 g1 g2 za zb zr
  go_enter Tryd.func10, Tryd.ntmps10
  go_wp2_with fail
  refine (sane_any _ N0.out.tab).mono ?_
  rintro e W1 ⟨rfl, hb1⟩
  have N1 := Lib.hid (N0.out.step hb1)
  clear hb1
  go_wp2_with fail
  refine (C1.out _ N1.out).mono ?_
  rintro e W2 ⟨u2, rfl, ho2, hb2⟩
  have N2 := Lib.hid (N1.out.step hb2)
  obtain ⟨A3, c3, rfl, -, hR2⟩ := own_slice2 ho2 HLP.out
  have HP2 := Lib.hid hR2
  clear hb2 ho2 hR2
  go_wp2_with fail
  refine (C2.out _ N2.out).mono ?_
  rintro e W3 ⟨u3, rfl, ho3, hb3⟩
  have N3 := Lib.hid (N2.out.step hb3); have HP3 := Lib.hid (HP2.out.step hb3)
  obtain ⟨A4, c4, rfl, -, hR3⟩ := own_slice2 ho3 HLQ.out
  have HQ3 := Lib.hid hR3
  clear hb3 ho3 hR3 N2 HP2
  go_wp2_with fail
  refine (KV1.out _ _ _ HP3.out N3.out.tab).mono ?_
  rintro e W4 ⟨rfl, hb4⟩
  have N4 := Lib.hid (N3.out.step hb4); have HP4 := Lib.hid (HP3.out.step hb4); have HQ4 := Lib.hid (HQ3.out.step hb4)
  clear hb4 N3 HP3 HQ3
  go_wp2_with fail
  refine (KV2.out _ _ _ HQ4.out N4.out.tab).mono ?_
  rintro e W5 ⟨rfl, hb5⟩
  have N5 := Lib.hid (N4.out.step hb5); have HP5 := Lib.hid (HP4.out.step hb5); have HQ5 := Lib.hid (HQ4.out.step hb5)
  clear hb5 N4 HP4 HQ4 KV1 KV2
  cases v1
  · go_wp2
    go_ret
    exact ⟨rfl, N5.out.1⟩
  cases v2
  · go_wp2
    go_ret
    exact ⟨rfl, N5.out.1⟩
  by_cases hst : a = b
  · have hq := HQ.out
    rw [decide_eq_true hst] at hq
    clear hst
    go_wp2
    go_ret
    exact ⟨rfl, N5.out.1⟩
  · have hq := HQ.out
    rw [decide_eq_false hst] at hq
    obtain ⟨sa, sr, p32, M, K, rfl, rfl, hMK, zero1, one1⟩ := E1.out rfl
    obtain ⟨sb, -, q32, M', K', hM', hK', -, zero2, one2⟩ := E2.out rfl
    obtain rfl : M' = M := by omega
    obtain rfl : K' = K := by omega
    have hM1 : 1 ≤ M' := by
      rcases Nat.eq_zero_or_pos M' with h0 | h0
      · exact absurd ((zero1 h0).trans (zero2 h0).symm) hst
      · exact h0
    obtain ⟨ok1, f1, r1⟩ := one1 hM1
    obtain ⟨ok2, f2, r2⟩ := one2 hM1
    have hcol := sides_bind a b sa sb P.reverse Q.reverse M' K' true hMK (fun x hx => p32 x (by simpa using hx)) (fun x hx => q32 x (by simpa using hx)) ok1 ok2 (r1.trans r2.symm) (fun hh => hst (f1.symm.trans (hh.trans f2)))
    have W1 := Lib.hid fun W A c (h : Rd W W.heap.size A lp c P) (hT : Tab W) => sides_any lp P A lp c _ M' K' a true W (by have := HLP.out; omega) h (Nat.le_refl _) (by omega) hM1 hMK (by omega) (by omega) (fun x hx => by rw [p32 x hx]; omega) hT
    have W2 := Lib.hid fun W A c (h : Rd W W.heap.size A lq c Q) (hT : Tab W) => sides_any lq Q A lq c _ M' K' b true W (by have := HLQ.out; omega) h (Nat.le_refl _) (by omega) hM1 hMK (by omega) (by omega) (fun x hx => by rw [q32 x hx]; omega) hT
    have a1 := sides_smalls a (by omega) P.reverse M' K' true (fun x hx => by rw [p32 x (by simpa using hx)]; omega)
    have a2 := sides_smalls b (by omega) Q.reverse M' K' true (fun x hx => by rw [q32 x (by simpa using hx)]; omega)
    have z1 := sidesB_length a M' K' P true
    have z2 := sidesB_length b M' K' Q true
    change collideB (sidesB a M' K' P true).1 (sidesB b M' K' Q true).1 = true at hcol
    change ∀ z ∈ (sidesB a M' K' P true).1, Small z at a1
    change ∀ z ∈ (sidesB b M' K' Q true).1, Small z at a2
    obtain ⟨t1, ht1⟩ : ∃ r, r = sidesB a M' K' P true := ⟨_, rfl⟩
    obtain ⟨t2, ht2⟩ : ∃ r, r = sidesB b M' K' Q true := ⟨_, rfl⟩
    rw [← ht1] at hcol W1 a1 z1
    rw [← ht2] at hcol W2 a2 z2
    rw [HLP.out] at z1
    rw [HLQ.out] at z2
    obtain ⟨X, xs⟩ := t1
    obtain ⟨Y, ys⟩ := t2
    dsimp only at hcol a1 a2 z1 z2
    have HCOL := Lib.hid hcol; have HA1 := Lib.hid a1; have HA2 := Lib.hid a2
    obtain ⟨lx, hlx⟩ : ∃ lx, X.length = lx := ⟨_, rfl⟩
    obtain ⟨ly, hly⟩ : ∃ ly, Y.length = ly := ⟨_, rfl⟩
    rw [hlx] at z1
    rw [hly] at z2
    have HLX := Lib.hid hlx; have HLY := Lib.hid hly
    clear hst hM' hK' p32 q32 ok1 ok2 f1 f2 r1 r2 hcol a1 a2 ht1 ht2 hlx hly one1 one2 zero1 zero2 sa sb sr
    go_wp2_with fail
    refine (W1.out _ _ _ HP5.out N5.out.tab).mono ?_
    rintro e W6 ⟨u6, he, ho6, hb6⟩
    dsimp only at he ho6
    subst he
    have N6 := Lib.hid (N5.out.step hb6); have HQ6 := Lib.hid (HQ5.out.step hb6)
    obtain ⟨A6, c6, rfl, -, hX6⟩ := own_slice2 ho6 HLX.out
    have HX6 := Lib.hid hX6
    clear hb6 ho6 hX6 N5 HP5 HQ5
    go_wp2_with fail
    refine (W2.out _ _ _ HQ6.out N6.out.tab).mono ?_
    rintro e W7 ⟨u7, he, ho7, hb7⟩
    dsimp only at he ho7
    subst he
    have N7 := Lib.hid (N6.out.step hb7); have HX7 := Lib.hid (HX6.out.step hb7)
    obtain ⟨A7, c7, rfl, -, hY7⟩ := own_slice2 ho7 HLY.out
    have HY7 := Lib.hid hY7
    clear hb7 ho7 hY7 N6 HX6 HQ6
    go_wp2_with fail
    refine (collide_any A6 lx c6 X A7 ly c7 Y _ HX7.out HY7.out (by omega) (by omega) HA1.out HA2.out N7.out.tab).mono ?_
    rw [HCOL.out]
    rintro e W8 ⟨rfl, hb8⟩
    have N8 := Lib.hid (N7.out.step hb8)
    clear hb8 N7 HX7 HY7
    go_wp2
    go_ret
    exact ⟨rfl, N8.out.1⟩
end Go.Proofs.YtpnhaoegnglooaaDoor
