/- The contract of IntegerLimits. Conditions: ints; a string's length is an int's. -/
import Derived.Test.YtgpppjfgdbloiaaLimits
namespace Go.Proofs.Ytgpppjfgdbloiaa
open Go.RowKit Go.Lib

/-- Results as they come out of the table of cases. -/
def Res (F : FuncId) (a b : ByteArray) (r : Option Int) : Prop := ∀ W, Calls Try.prog F #[.string a, .string b] W fun e w' => e = .returned (.tuple #[.string (okS r), .int .i64 (okE r)]) ∧ Below W.heap.size W w'
set_option maxRecDepth 100000 in
set_option maxHeartbeats 8000000 in
theorem limits_law (a : ByteArray) (mm nn : Int) (w : World) (ha : a.size ≤ 9223372036854775807) (hm : -9223372036854775808 ≤ mm ∧ mm ≤ 9223372036854775807) (hn : -9223372036854775808 ≤ nn ∧ nn ≤ 9223372036854775807) :
    Calls Try.prog 11 #[.string a, .int .i64 mm, .int .i64 nn] w fun e w' => e = .returned (.bool true) ∧ Below w.heap.size w w' := by
  have M1 := Lib.hid fun W => made_any a 5 W ha (by omega)
  have P1 := Lib.hid fun W => pick_any mm W hm
  have P2 := Lib.hid fun W => pick_any nn W hn
  have N1 := Lib.hid fun W => nines_any 200 W (by omega)
  clear hm hn ha
  go_enter Try.func11, Try.ntmps11
  go_wp2_with fail
  refine (sane_any _).mono ?_
  rintro e w1 ⟨rfl, hb1⟩
  have HB1 := Lib.hid hb1; clear hb1
  go_wp2_with fail
  refine (M1.out _).mono ?_
  rintro e w2 ⟨x, hx, rfl, hb2⟩
  have HB2 := Lib.hid (HB1.out.trans (hb2.mono HB1.out.size)); clear hb2
  obtain ⟨T, eT⟩ : ∃ v : Int, v = ((10 ^ 200 - 1 : Nat) : Int) := ⟨_, rfl⟩
  have lT : T.natAbs < 10 ^ 200 := by omega
  have lmT : (-T).natAbs < 10 ^ 200 := by omega
  have lx := lt200 hx (by omega)
  have l0 : (0 : Int).natAbs < 10 ^ 200 := by decide
  have l1 : (1 : Int).natAbs < 10 ^ 200 := by decide
  have zT : zS T = n9 200 := by rw [eT]; exact n9_z (by omega) (by omega)
  have zmT : zS (-T) = ⟨#[45]⟩ ++ n9 200 := by rw [eT]; exact minus_z
  go_wp2_with fail
  refine (N1.out _).mono ?_
  rintro e w3 ⟨rfl, rfl⟩
  have A1 : x ≤ 0 → Hid (∀ W, Calls Try.prog 15 #[.string (n9 200), .string (zS x)] W (OkZ (T + x) W)) := fun h => by
    have := fun W => add_zz T x W lT lx _ rfl (by have := hx; omega)
    rw [zT] at this; exact this
  have A2 : 0 < x → Hid (∀ W, Calls Try.prog 15 #[.string (n9 200), .string (zS x)] W (NoZ W)) := fun h => by
    have := fun W => add_zn T x W lT lx (by omega)
    rw [zT] at this; exact this
  have B1 : x ≤ 0 → Hid (∀ W, Calls Try.prog 17 #[.string (⟨#[45]⟩ ++ n9 200), .string (zS x)] W (OkZ (-T - x) W)) := fun h => by
    have := fun W => sub_zz (-T) x W lmT lx _ rfl (by have := hx; omega)
    rw [zmT] at this; exact this
  have B2 : 0 < x → Hid (∀ W, Calls Try.prog 17 #[.string (⟨#[45]⟩ ++ n9 200), .string (zS x)] W (NoZ W)) := fun h => by
    have := fun W => sub_zn (-T) x W lmT lx (by omega)
    rw [zmT] at this; exact this
  have D1 := Lib.hid fun (h : x ≤ 0) => (show ∃ c : Int, c ≤ 0 ∧ Hid (∀ W, Calls Try.prog 31 #[.string (zS x), .string ⟨#[48]⟩] W fun e w' => e = .returned (.int .i64 c) ∧ Below W.heap.size W w') from ⟨ordI x 0, by unfold ordI; split <;> (try split) <;> omega, by
    have := fun W => cmp_zz x 0 W lx l0 _ rfl
    rw [zS_zero] at this; exact this⟩)
  have D2 := Lib.hid fun (h : 0 < x) => (show Hid (∀ W, Calls Try.prog 31 #[.string (zS x), .string ⟨#[48]⟩] W fun e w' => e = .returned (.int .i64 1) ∧ Below W.heap.size W w') by
    have := fun W => cmp_zz x 0 W lx l0 1 (by rw [ordI_gt h])
    rw [zS_zero] at this; exact this)
  have V1 : Hid (∀ W, Calls Try.prog 29 #[.string (n9 200 ++ ⟨#[57]⟩)] W fun e w' => e = .returned (.bool false) ∧ ∃ k, w' = W.drewN k) := fun W => by
    refine (valid_any _ W (by rw [n9_succ, n9_size]; omega)).mono fun e w' ⟨he, hk⟩ => ⟨?_, hk⟩
    rw [he, n9_succ]
    have : validB (n9 201).data.toList = false := by
      show okD false (List.replicate 201 57) = false
      rw [List.replicate_succ]
      unfold okD
      simp only [List.length_replicate]
      rw [if_pos (by omega)]
    rw [this]
  have V2 : Hid (∀ W, Calls Try.prog 29 #[.string (⟨#[45]⟩ ++ n9 200)] W fun e w' => e = .returned (.bool true) ∧ ∃ k, w' = W.drewN k) := by
    have := fun W => valid_zz (-T) W lmT
    rw [zmT] at this; exact this
  have HA1 := Lib.hid A1; have HA2 := Lib.hid A2; have HB1' := Lib.hid B1; have HB2' := Lib.hid B2
  clear A1 A2 B1 B2 eT lT lmT lx zT zmT hx
  rcases Int.lt_or_le 0 x with hxp | hxp
  · have CA := HA2.out hxp; have CB := HB2'.out hxp; have CD := D2.out hxp
    clear HA1 HA2 HB1' HB2' D1 D2
    go_wp2_with fail
    refine (CA.out _).mono ?_
    rintro e w3 ⟨rfl, hb3⟩
    have HB3 := Lib.hid (HB2.out.trans (hb3.mono HB2.out.size)); clear hb3
    go_wp2_with fail
    refine (CB.out _).mono ?_
    rintro e w4 ⟨rfl, hb4⟩
    have HB4 := Lib.hid (HB3.out.trans (hb4.mono HB3.out.size)); clear hb4
    go_wp2_with fail
    refine (P1.out _).mono ?_
    rintro e w20 ⟨m, hm, rfl, rfl⟩
    go_wp2_with fail
    refine (P2.out _).mono ?_
    rintro e w21 ⟨n, hn, rfl, rfl⟩
    have NM := Lib.hid fun W => nines_any m W (by omega)
    have hs9 : (n9 n).size ≤ 200 := by rw [n9_size]; omega
    have hs8 : (n9 200).size ≤ 200 := by rw [n9_size]; omega
    have NN := Lib.hid fun W => nines_any n W (by omega)
    obtain ⟨B, eB⟩ : ∃ v : Int, v = ((2 * 10 ^ n - 1 : Nat) : Int) := ⟨_, rfl⟩
    have zB : zS B = ⟨#[49]⟩ ++ n9 n := by rw [eB]; exact two_z (by omega)
    have pn : 0 < 10 ^ n := Nat.pow_pos (by omega)
    have pm : 0 < 10 ^ m := Nat.pow_pos (by omega)
    have lB : B.natAbs < 10 ^ 200 := by
      have h1 : 10 ^ (n + 1) ≤ 10 ^ 200 := Nat.pow_le_pow_right (by omega) (by omega)
      rw [Nat.pow_succ] at h1; omega
    obtain ⟨P, eP⟩ : ∃ v : Int, v = ((10 ^ m : Nat) : Int) := ⟨_, rfl⟩
    have lP : P.natAbs < 10 ^ 200 := by
      have h1 : 10 ^ m < 10 ^ 200 := Nat.pow_lt_pow_right (by omega) hm
      omega
    have ePB : P * B = ((10 ^ m * (2 * 10 ^ n - 1) : Nat) : Int) := by rw [eP, eB]; push_cast; rfl
    have hlo : 10 ^ (m + n) ≤ 10 ^ m * (2 * 10 ^ n - 1) := by
      rw [Nat.pow_add]; exact Nat.mul_le_mul_left _ (by omega)
    have hhi : 10 ^ m * (2 * 10 ^ n - 1) < 10 ^ (m + n + 1) := by
      rw [Nat.pow_succ, Nat.pow_add, Nat.mul_assoc]; exact Nat.mul_lt_mul_of_pos_left (by omega) pm
    have Q1 := Lib.hid fun (h : m + n < 200) => (show Hid (∀ W, Calls Try.prog 19 #[.string (zS P), .string (⟨#[49]⟩ ++ n9 n)] W (OkZ (P * B) W)) by
      have := fun W => mul_zz P B W lP lB _ rfl (by rw [ePB, Int.natAbs_natCast]; exact Nat.lt_of_lt_of_le hhi (Nat.pow_le_pow_right (by omega) (by omega)))
      rw [zB] at this; exact this)
    have Q2 := Lib.hid fun (h : 200 ≤ m + n) => (show Hid (∀ W, Calls Try.prog 19 #[.string (zS P), .string (⟨#[49]⟩ ++ n9 n)] W (NoZ W)) by
      have := fun W => mul_zn P B W lP lB (by
        rw [ePB, Int.natAbs_natCast]
        have := Nat.le_trans (Nat.pow_le_pow_right (show 0 < 10 by omega) h) hlo
        omega)
      rw [zB] at this; exact this)
    have HLEN := Lib.hid (show (zS (P * B)).size = m + n + 1 by rw [ePB]; exact zS_len hlo hhi)
    have R1 := Lib.hid fun (h : 0 < m) => (show Hid (∀ W, Calls Try.prog 15 #[.string (n9 m), .string ⟨#[49]⟩] W (OkZ P W)) by
      have := fun W => add_zz ((10 ^ m - 1 : Nat) : Int) 1 W (by rw [Int.natAbs_natCast]; omega) l1 P (by omega) lP
      rw [n9_z h (by omega), zS_one] at this; exact this)
    have R2 := Lib.hid fun (h : m = 0) => (show Hid (∀ W, Calls Try.prog 15 #[.string (n9 m), .string ⟨#[49]⟩] W (NoZ W)) from fun W =>
      (add_any (n9 m) ⟨#[49]⟩ W (by rw [n9_size]; omega) (by decide)).mono fun e w' h2 => lit_no h2 (opR_no1 (by rw [h]; rfl)))
    have R3 := Lib.hid fun (h : m = 0) => (show Hid (∀ W, Calls Try.prog 15 #[.string ⟨#[48]⟩, .string ⟨#[49]⟩] W (OkZ P W)) by
      have := fun W => add_zz 0 1 W l0 l1 P (by rw [eP, h]; rfl) lP
      rw [zS_zero, zS_one] at this; exact this)
    obtain ⟨Z, hZ⟩ : ∃ Z, Z = P * B := ⟨_, rfl⟩
    rw [← hZ] at Q1 HLEN
    clear eB zB pn pm lB eP lP ePB hlo hhi hZ l0 l1
    rcases Nat.eq_zero_or_pos m with hm0 | hm0
    · have CR := R2.out hm0; have CS := R3.out hm0
      have hmz : ((m : Int) == 0) = true := by simp [hm0]
      clear hm0
      go_wp2_with fail
      refine (NM.out _).mono ?_
      rintro e w22 ⟨rfl, rfl⟩
      go_wp2_with fail
      refine (CR.out _).mono ?_
      rintro e w5 ⟨rfl, hb5⟩
      have HB5 := Lib.hid (HB4.out.trans (hb5.mono HB4.out.size)); clear hb5
      go_wp2_with fail
      refine (CS.out _).mono ?_
      rintro e w6 ⟨rfl, hb6⟩
      have HB6 := Lib.hid (HB5.out.trans (hb6.mono HB5.out.size)); clear hb6
      go_wp2_with fail
      refine (NN.out _).mono ?_
      rintro e w23 ⟨rfl, rfl⟩
      rcases Nat.lt_or_ge (m + n) 200 with hs | hs
      · have CQ := Q1.out hs
        have hsz : (((zS Z).size : Nat) : Int) = (m : Int) + (n : Int) + 1 := by rw [HLEN.out]; omega
        have hs2 : (m : Int) + (n : Int) < 200 := by omega
        clear Q1 Q2 HLEN R1 R2 R3
        go_wp2_with fail
        refine (CQ.out _).mono ?_
        rintro e w7 ⟨rfl, hb7⟩
        have HB7 := Lib.hid (HB6.out.trans (hb7.mono HB6.out.size)); clear hb7
        go_wp2_with fail
        refine (CD.out _).mono ?_
        rintro e w8 ⟨rfl, hb8⟩
        have HB8 := Lib.hid (HB7.out.trans (hb8.mono HB7.out.size)); clear hb8
        go_wp2_with fail
        refine (V1.out _).mono ?_
        rintro e w9 ⟨rfl, k9, rfl⟩
        have hbd := below_drewN HB8.out k9
        try rw [World.drewN_drewN] at hbd
        have HB9 := Lib.hid hbd; clear hbd
        go_wp2_with fail
        refine (V2.out _).mono ?_
        rintro e w10 ⟨rfl, k10, rfl⟩
        have hbd := below_drewN HB9.out k10
        try rw [World.drewN_drewN] at hbd
        have HB10 := Lib.hid hbd; clear hbd
        go_wp2_with fail
        go_ret
        exact ⟨rfl, HB10.out⟩
      · have CQ := Q2.out hs
        have hs2 : 200 ≤ (m : Int) + (n : Int) := by omega
        clear Q1 Q2 HLEN R1 R2 R3
        go_wp2_with fail
        refine (CQ.out _).mono ?_
        rintro e w7 ⟨rfl, hb7⟩
        have HB7 := Lib.hid (HB6.out.trans (hb7.mono HB6.out.size)); clear hb7
        go_wp2_with fail
        refine (CD.out _).mono ?_
        rintro e w8 ⟨rfl, hb8⟩
        have HB8 := Lib.hid (HB7.out.trans (hb8.mono HB7.out.size)); clear hb8
        go_wp2_with fail
        refine (V1.out _).mono ?_
        rintro e w9 ⟨rfl, k9, rfl⟩
        have hbd := below_drewN HB8.out k9
        try rw [World.drewN_drewN] at hbd
        have HB9 := Lib.hid hbd; clear hbd
        go_wp2_with fail
        refine (V2.out _).mono ?_
        rintro e w10 ⟨rfl, k10, rfl⟩
        have hbd := below_drewN HB9.out k10
        try rw [World.drewN_drewN] at hbd
        have HB10 := Lib.hid hbd; clear hbd
        go_wp2_with fail
        go_ret
        exact ⟨rfl, HB10.out⟩
    · have CR := R1.out hm0
      have hmz : ((m : Int) == 0) = false := by rw [beq_eq_false_iff_ne]; omega
      go_wp2_with fail
      refine (NM.out _).mono ?_
      rintro e w22 ⟨rfl, rfl⟩
      go_wp2_with fail
      refine (CR.out _).mono ?_
      rintro e w5 ⟨rfl, hb5⟩
      have HB5 := Lib.hid (HB4.out.trans (hb5.mono HB4.out.size)); clear hb5
      go_wp2_with fail
      refine (NN.out _).mono ?_
      rintro e w23 ⟨rfl, rfl⟩
      rcases Nat.lt_or_ge (m + n) 200 with hs | hs
      · have CQ := Q1.out hs
        have hsz : (((zS Z).size : Nat) : Int) = (m : Int) + (n : Int) + 1 := by rw [HLEN.out]; omega
        have hs2 : (m : Int) + (n : Int) < 200 := by omega
        clear Q1 Q2 HLEN R1 R2 R3
        go_wp2_with fail
        refine (CQ.out _).mono ?_
        rintro e w6 ⟨rfl, hb6⟩
        have HB6 := Lib.hid (HB5.out.trans (hb6.mono HB5.out.size)); clear hb6
        go_wp2_with fail
        refine (CD.out _).mono ?_
        rintro e w7 ⟨rfl, hb7⟩
        have HB7 := Lib.hid (HB6.out.trans (hb7.mono HB6.out.size)); clear hb7
        go_wp2_with fail
        refine (V1.out _).mono ?_
        rintro e w8 ⟨rfl, k8, rfl⟩
        have hbd := below_drewN HB7.out k8
        try rw [World.drewN_drewN] at hbd
        have HB8 := Lib.hid hbd; clear hbd
        go_wp2_with fail
        refine (V2.out _).mono ?_
        rintro e w9 ⟨rfl, k9, rfl⟩
        have hbd := below_drewN HB8.out k9
        try rw [World.drewN_drewN] at hbd
        have HB9 := Lib.hid hbd; clear hbd
        go_wp2_with fail
        go_ret
        exact ⟨rfl, HB9.out⟩
      · have CQ := Q2.out hs
        have hs2 : 200 ≤ (m : Int) + (n : Int) := by omega
        clear Q1 Q2 HLEN R1 R2 R3
        go_wp2_with fail
        refine (CQ.out _).mono ?_
        rintro e w6 ⟨rfl, hb6⟩
        have HB6 := Lib.hid (HB5.out.trans (hb6.mono HB5.out.size)); clear hb6
        go_wp2_with fail
        refine (CD.out _).mono ?_
        rintro e w7 ⟨rfl, hb7⟩
        have HB7 := Lib.hid (HB6.out.trans (hb7.mono HB6.out.size)); clear hb7
        go_wp2_with fail
        refine (V1.out _).mono ?_
        rintro e w8 ⟨rfl, k8, rfl⟩
        have hbd := below_drewN HB7.out k8
        try rw [World.drewN_drewN] at hbd
        have HB8 := Lib.hid hbd; clear hbd
        go_wp2_with fail
        refine (V2.out _).mono ?_
        rintro e w9 ⟨rfl, k9, rfl⟩
        have hbd := below_drewN HB8.out k9
        try rw [World.drewN_drewN] at hbd
        have HB9 := Lib.hid hbd; clear hbd
        go_wp2_with fail
        go_ret
        exact ⟨rfl, HB9.out⟩
  · have CA := HA1.out hxp; have CB := HB1'.out hxp
    obtain ⟨cd, hcd, CD⟩ := D1.out hxp
    clear HA1 HA2 HB1' HB2' D1 D2
    go_wp2_with fail
    refine (CA.out _).mono ?_
    rintro e w3 ⟨rfl, hb3⟩
    have HB3 := Lib.hid (HB2.out.trans (hb3.mono HB2.out.size)); clear hb3
    go_wp2_with fail
    refine (CB.out _).mono ?_
    rintro e w4 ⟨rfl, hb4⟩
    have HB4 := Lib.hid (HB3.out.trans (hb4.mono HB3.out.size)); clear hb4
    go_wp2_with fail
    refine (P1.out _).mono ?_
    rintro e w20 ⟨m, hm, rfl, rfl⟩
    go_wp2_with fail
    refine (P2.out _).mono ?_
    rintro e w21 ⟨n, hn, rfl, rfl⟩
    have NM := Lib.hid fun W => nines_any m W (by omega)
    have hs9 : (n9 n).size ≤ 200 := by rw [n9_size]; omega
    have hs8 : (n9 200).size ≤ 200 := by rw [n9_size]; omega
    have NN := Lib.hid fun W => nines_any n W (by omega)
    obtain ⟨B, eB⟩ : ∃ v : Int, v = ((2 * 10 ^ n - 1 : Nat) : Int) := ⟨_, rfl⟩
    have zB : zS B = ⟨#[49]⟩ ++ n9 n := by rw [eB]; exact two_z (by omega)
    have pn : 0 < 10 ^ n := Nat.pow_pos (by omega)
    have pm : 0 < 10 ^ m := Nat.pow_pos (by omega)
    have lB : B.natAbs < 10 ^ 200 := by
      have h1 : 10 ^ (n + 1) ≤ 10 ^ 200 := Nat.pow_le_pow_right (by omega) (by omega)
      rw [Nat.pow_succ] at h1; omega
    obtain ⟨P, eP⟩ : ∃ v : Int, v = ((10 ^ m : Nat) : Int) := ⟨_, rfl⟩
    have lP : P.natAbs < 10 ^ 200 := by
      have h1 : 10 ^ m < 10 ^ 200 := Nat.pow_lt_pow_right (by omega) hm
      omega
    have ePB : P * B = ((10 ^ m * (2 * 10 ^ n - 1) : Nat) : Int) := by rw [eP, eB]; push_cast; rfl
    have hlo : 10 ^ (m + n) ≤ 10 ^ m * (2 * 10 ^ n - 1) := by
      rw [Nat.pow_add]; exact Nat.mul_le_mul_left _ (by omega)
    have hhi : 10 ^ m * (2 * 10 ^ n - 1) < 10 ^ (m + n + 1) := by
      rw [Nat.pow_succ, Nat.pow_add, Nat.mul_assoc]; exact Nat.mul_lt_mul_of_pos_left (by omega) pm
    have Q1 := Lib.hid fun (h : m + n < 200) => (show Hid (∀ W, Calls Try.prog 19 #[.string (zS P), .string (⟨#[49]⟩ ++ n9 n)] W (OkZ (P * B) W)) by
      have := fun W => mul_zz P B W lP lB _ rfl (by rw [ePB, Int.natAbs_natCast]; exact Nat.lt_of_lt_of_le hhi (Nat.pow_le_pow_right (by omega) (by omega)))
      rw [zB] at this; exact this)
    have Q2 := Lib.hid fun (h : 200 ≤ m + n) => (show Hid (∀ W, Calls Try.prog 19 #[.string (zS P), .string (⟨#[49]⟩ ++ n9 n)] W (NoZ W)) by
      have := fun W => mul_zn P B W lP lB (by
        rw [ePB, Int.natAbs_natCast]
        have := Nat.le_trans (Nat.pow_le_pow_right (show 0 < 10 by omega) h) hlo
        omega)
      rw [zB] at this; exact this)
    have HLEN := Lib.hid (show (zS (P * B)).size = m + n + 1 by rw [ePB]; exact zS_len hlo hhi)
    have R1 := Lib.hid fun (h : 0 < m) => (show Hid (∀ W, Calls Try.prog 15 #[.string (n9 m), .string ⟨#[49]⟩] W (OkZ P W)) by
      have := fun W => add_zz ((10 ^ m - 1 : Nat) : Int) 1 W (by rw [Int.natAbs_natCast]; omega) l1 P (by omega) lP
      rw [n9_z h (by omega), zS_one] at this; exact this)
    have R2 := Lib.hid fun (h : m = 0) => (show Hid (∀ W, Calls Try.prog 15 #[.string (n9 m), .string ⟨#[49]⟩] W (NoZ W)) from fun W =>
      (add_any (n9 m) ⟨#[49]⟩ W (by rw [n9_size]; omega) (by decide)).mono fun e w' h2 => lit_no h2 (opR_no1 (by rw [h]; rfl)))
    have R3 := Lib.hid fun (h : m = 0) => (show Hid (∀ W, Calls Try.prog 15 #[.string ⟨#[48]⟩, .string ⟨#[49]⟩] W (OkZ P W)) by
      have := fun W => add_zz 0 1 W l0 l1 P (by rw [eP, h]; rfl) lP
      rw [zS_zero, zS_one] at this; exact this)
    obtain ⟨Z, hZ⟩ : ∃ Z, Z = P * B := ⟨_, rfl⟩
    rw [← hZ] at Q1 HLEN
    clear eB zB pn pm lB eP lP ePB hlo hhi hZ l0 l1
    rcases Nat.eq_zero_or_pos m with hm0 | hm0
    · have CR := R2.out hm0; have CS := R3.out hm0
      have hmz : ((m : Int) == 0) = true := by simp [hm0]
      clear hm0
      go_wp2_with fail
      refine (NM.out _).mono ?_
      rintro e w22 ⟨rfl, rfl⟩
      go_wp2_with fail
      refine (CR.out _).mono ?_
      rintro e w5 ⟨rfl, hb5⟩
      have HB5 := Lib.hid (HB4.out.trans (hb5.mono HB4.out.size)); clear hb5
      go_wp2_with fail
      refine (CS.out _).mono ?_
      rintro e w6 ⟨rfl, hb6⟩
      have HB6 := Lib.hid (HB5.out.trans (hb6.mono HB5.out.size)); clear hb6
      go_wp2_with fail
      refine (NN.out _).mono ?_
      rintro e w23 ⟨rfl, rfl⟩
      rcases Nat.lt_or_ge (m + n) 200 with hs | hs
      · have CQ := Q1.out hs
        have hsz : (((zS Z).size : Nat) : Int) = (m : Int) + (n : Int) + 1 := by rw [HLEN.out]; omega
        have hs2 : (m : Int) + (n : Int) < 200 := by omega
        clear Q1 Q2 HLEN R1 R2 R3
        go_wp2_with fail
        refine (CQ.out _).mono ?_
        rintro e w7 ⟨rfl, hb7⟩
        have HB7 := Lib.hid (HB6.out.trans (hb7.mono HB6.out.size)); clear hb7
        go_wp2_with fail
        refine (CD.out _).mono ?_
        rintro e w8 ⟨rfl, hb8⟩
        have HB8 := Lib.hid (HB7.out.trans (hb8.mono HB7.out.size)); clear hb8
        go_wp2_with fail
        refine (V1.out _).mono ?_
        rintro e w9 ⟨rfl, k9, rfl⟩
        have hbd := below_drewN HB8.out k9
        try rw [World.drewN_drewN] at hbd
        have HB9 := Lib.hid hbd; clear hbd
        go_wp2_with fail
        refine (V2.out _).mono ?_
        rintro e w10 ⟨rfl, k10, rfl⟩
        have hbd := below_drewN HB9.out k10
        try rw [World.drewN_drewN] at hbd
        have HB10 := Lib.hid hbd; clear hbd
        go_wp2_with fail
        go_ret
        exact ⟨rfl, HB10.out⟩
      · have CQ := Q2.out hs
        have hs2 : 200 ≤ (m : Int) + (n : Int) := by omega
        clear Q1 Q2 HLEN R1 R2 R3
        go_wp2_with fail
        refine (CQ.out _).mono ?_
        rintro e w7 ⟨rfl, hb7⟩
        have HB7 := Lib.hid (HB6.out.trans (hb7.mono HB6.out.size)); clear hb7
        go_wp2_with fail
        refine (CD.out _).mono ?_
        rintro e w8 ⟨rfl, hb8⟩
        have HB8 := Lib.hid (HB7.out.trans (hb8.mono HB7.out.size)); clear hb8
        go_wp2_with fail
        refine (V1.out _).mono ?_
        rintro e w9 ⟨rfl, k9, rfl⟩
        have hbd := below_drewN HB8.out k9
        try rw [World.drewN_drewN] at hbd
        have HB9 := Lib.hid hbd; clear hbd
        go_wp2_with fail
        refine (V2.out _).mono ?_
        rintro e w10 ⟨rfl, k10, rfl⟩
        have hbd := below_drewN HB9.out k10
        try rw [World.drewN_drewN] at hbd
        have HB10 := Lib.hid hbd; clear hbd
        go_wp2_with fail
        go_ret
        exact ⟨rfl, HB10.out⟩
    · have CR := R1.out hm0
      have hmz : ((m : Int) == 0) = false := by rw [beq_eq_false_iff_ne]; omega
      go_wp2_with fail
      refine (NM.out _).mono ?_
      rintro e w22 ⟨rfl, rfl⟩
      go_wp2_with fail
      refine (CR.out _).mono ?_
      rintro e w5 ⟨rfl, hb5⟩
      have HB5 := Lib.hid (HB4.out.trans (hb5.mono HB4.out.size)); clear hb5
      go_wp2_with fail
      refine (NN.out _).mono ?_
      rintro e w23 ⟨rfl, rfl⟩
      rcases Nat.lt_or_ge (m + n) 200 with hs | hs
      · have CQ := Q1.out hs
        have hsz : (((zS Z).size : Nat) : Int) = (m : Int) + (n : Int) + 1 := by rw [HLEN.out]; omega
        have hs2 : (m : Int) + (n : Int) < 200 := by omega
        clear Q1 Q2 HLEN R1 R2 R3
        go_wp2_with fail
        refine (CQ.out _).mono ?_
        rintro e w6 ⟨rfl, hb6⟩
        have HB6 := Lib.hid (HB5.out.trans (hb6.mono HB5.out.size)); clear hb6
        go_wp2_with fail
        refine (CD.out _).mono ?_
        rintro e w7 ⟨rfl, hb7⟩
        have HB7 := Lib.hid (HB6.out.trans (hb7.mono HB6.out.size)); clear hb7
        go_wp2_with fail
        refine (V1.out _).mono ?_
        rintro e w8 ⟨rfl, k8, rfl⟩
        have hbd := below_drewN HB7.out k8
        try rw [World.drewN_drewN] at hbd
        have HB8 := Lib.hid hbd; clear hbd
        go_wp2_with fail
        refine (V2.out _).mono ?_
        rintro e w9 ⟨rfl, k9, rfl⟩
        have hbd := below_drewN HB8.out k9
        try rw [World.drewN_drewN] at hbd
        have HB9 := Lib.hid hbd; clear hbd
        go_wp2_with fail
        go_ret
        exact ⟨rfl, HB9.out⟩
      · have CQ := Q2.out hs
        have hs2 : 200 ≤ (m : Int) + (n : Int) := by omega
        clear Q1 Q2 HLEN R1 R2 R3
        go_wp2_with fail
        refine (CQ.out _).mono ?_
        rintro e w6 ⟨rfl, hb6⟩
        have HB6 := Lib.hid (HB5.out.trans (hb6.mono HB5.out.size)); clear hb6
        go_wp2_with fail
        refine (CD.out _).mono ?_
        rintro e w7 ⟨rfl, hb7⟩
        have HB7 := Lib.hid (HB6.out.trans (hb7.mono HB6.out.size)); clear hb7
        go_wp2_with fail
        refine (V1.out _).mono ?_
        rintro e w8 ⟨rfl, k8, rfl⟩
        have hbd := below_drewN HB7.out k8
        try rw [World.drewN_drewN] at hbd
        have HB8 := Lib.hid hbd; clear hbd
        go_wp2_with fail
        refine (V2.out _).mono ?_
        rintro e w9 ⟨rfl, k9, rfl⟩
        have hbd := below_drewN HB8.out k9
        try rw [World.drewN_drewN] at hbd
        have HB9 := Lib.hid hbd; clear hbd
        go_wp2_with fail
        go_ret
        exact ⟨rfl, HB9.out⟩
end Go.Proofs.Ytgpppjfgdbloiaa
