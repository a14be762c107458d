/- The contract of IntegerMachine. Conditions: two numbers of 32 bits. -/
import Derived.Test.YtgpppjfgdbloiaaDvd
namespace Go.Proofs.Ytgpppjfgdbloiaa
open Go.RowKit Go.Lib

theorem div_unique {x y q r : Int} (h0 : y ≠ 0) (h : q * y + r = x) (hr : 0 ≤ r) (hr2 : r < y.natAbs) : q = x / y ∧ r = x % y := by
  have e : r / y = 0 := by
    rcases Int.lt_or_gt_of_ne h0 with hn | hp
    · have h1 : r / (-y) = 0 := Int.ediv_eq_zero_of_lt hr (by omega)
      rw [Int.ediv_neg] at h1; omega
    · exact Int.ediv_eq_zero_of_lt hr (by omega)
  have h1 : x / y = q := by
    rw [← h, Int.add_comm, Int.add_mul_ediv_right _ _ h0, e, Int.zero_add]
  have h2 := Int.mul_ediv_add_emod x y
  rw [h1, Int.mul_comm] at h2
  exact ⟨h1.symm, by omega⟩
set_option maxRecDepth 100000 in
set_option maxHeartbeats 8000000 in
theorem machine_law (x y : Int) (w : World) (hx : -2147483648 ≤ x ∧ x ≤ 2147483647) (hy : -2147483648 ≤ y ∧ y ≤ 2147483647) :
    Calls Try.prog 4 #[.int .i32 x, .int .i32 y] w fun e w' => e = .returned (.bool true) ∧ Below w.heap.size w w' := by
  have lx : x.natAbs < 10 ^ 200 := by omega
  have ly : y.natAbs < 10 ^ 200 := by omega
  have l0 : (0 : Int).natAbs < 10 ^ 200 := by decide
  have hm : -4611686018427387904 ≤ x * y ∧ x * y ≤ 4611686018427387904 := by
    have h1 : (x * y).natAbs ≤ 2147483648 * 2147483648 := by rw [Int.natAbs_mul]; exact Nat.mul_le_mul (by omega) (by omega)
    omega
  have C1 := Lib.hid fun W => fromInt_any x W (by omega) (by omega)
  have C2 := Lib.hid fun W => fromInt_any y W (by omega) (by omega)
  have C3 := Lib.hid fun W => toInt_zz x W lx (by omega) (by omega)
  have C4 := Lib.hid fun W => add_zz x y W lx ly _ rfl (by omega)
  have C5 := Lib.hid fun W => sub_zz x y W lx ly _ rfl (by omega)
  have C6 := Lib.hid fun W => mul_zz x y W lx ly _ rfl (by omega)
  have C7 := Lib.hid fun W => fromInt_any (x + y) W (by omega) (by omega)
  have C8 := Lib.hid fun W => fromInt_any (x - y) W (by omega) (by omega)
  have C9 := Lib.hid fun W => fromInt_any (x * y) W (by omega) (by omega)
  have C10 := Lib.hid fun W => cmp_zz x y W lx ly _ rfl
  obtain ⟨m1, m2⟩ := hm
  obtain ⟨x1, x2⟩ := hx
  obtain ⟨y1, y2⟩ := hy
  have hor : (x < y ∧ ordI x y = -1) ∨ ((x ≤ y ∧ y ≤ x) ∧ ordI x y = 0) ∨ (y < x ∧ ordI x y = 1) := by
    rcases Int.lt_trichotomy x y with h | h | h
    · exact .inl ⟨h, ordI_lt h⟩
    · exact .inr (.inl ⟨⟨by omega, by omega⟩, ordI_eq h⟩)
    · exact .inr (.inr ⟨h, ordI_gt h⟩)
  by_cases hy0 : y = 0
  · have C11 := Lib.hid fun W => div_z0 x y W lx ly hy0
    have hb0 : (y == 0) = true := by simp [hy0]
    clear hy0 lx ly l0
    rcases hor with ⟨h1, h2⟩ | ⟨⟨h1, h1'⟩, h2⟩ | ⟨h1, h2⟩
    all_goals
      rw [h2] at C10
      clear h2
      go_enter Try.func4, Try.ntmps4
      go_wp2_with fail
      refine (sane_any _).mono ?_
      rintro e w1 ⟨rfl, hb1⟩
      have HB1 := Lib.hid hb1; clear hb1
      go_wp2_with fail
      refine (C1.out _).mono ?_
      rintro e w2 ⟨rfl, hb2⟩
      have HB2 := Lib.hid (HB1.out.trans (hb2.mono HB1.out.size)); clear hb2
      go_wp2_with fail
      refine (C2.out _).mono ?_
      rintro e w3 ⟨rfl, hb3⟩
      have HB3 := Lib.hid (HB2.out.trans (hb3.mono HB2.out.size)); clear hb3
      go_wp2_with fail
      refine (C3.out _).mono ?_
      rintro e w4 ⟨rfl, hb4⟩
      have HB4 := Lib.hid (HB3.out.trans (hb4.mono HB3.out.size)); clear hb4
      go_wp2_with fail
      refine (C4.out _).mono ?_
      rintro e w5 ⟨rfl, hb5⟩
      have HB5 := Lib.hid (HB4.out.trans (hb5.mono HB4.out.size)); clear hb5
      go_wp2_with fail
      refine (C5.out _).mono ?_
      rintro e w6 ⟨rfl, hb6⟩
      have HB6 := Lib.hid (HB5.out.trans (hb6.mono HB5.out.size)); clear hb6
      go_wp2_with fail
      refine (C6.out _).mono ?_
      rintro e w7 ⟨rfl, hb7⟩
      have HB7 := Lib.hid (HB6.out.trans (hb7.mono HB6.out.size)); clear hb7
      go_wp2_with fail
      refine (C7.out _).mono ?_
      rintro e w8 ⟨rfl, hb8⟩
      have HB8 := Lib.hid (HB7.out.trans (hb8.mono HB7.out.size)); clear hb8
      go_wp2_with fail
      refine (C8.out _).mono ?_
      rintro e w9 ⟨rfl, hb9⟩
      have HB9 := Lib.hid (HB8.out.trans (hb9.mono HB8.out.size)); clear hb9
      go_wp2_with fail
      refine (C9.out _).mono ?_
      rintro e w10 ⟨rfl, hb10⟩
      have HB10 := Lib.hid (HB9.out.trans (hb10.mono HB9.out.size)); clear hb10
      go_wp2_with fail
      refine (C10.out _).mono ?_
      rintro e w11 ⟨rfl, hb11⟩
      have HB11 := Lib.hid (HB10.out.trans (hb11.mono HB10.out.size)); clear hb11
      go_wp2_with fail
      refine (C11.out _).mono ?_
      rintro e w12 ⟨rfl, hb12⟩
      have HB12 := Lib.hid (HB11.out.trans (hb12.mono HB11.out.size)); clear hb12
      go_wp2_with fail
      go_ret
      exact ⟨rfl, HB12.out⟩
  · have hb0 : (y == 0) = false := by simp [hy0]
    obtain ⟨Q, eQ⟩ : ∃ Q, x.tdiv y = Q := ⟨_, rfl⟩
    obtain ⟨R, eR⟩ : ∃ R, x.tmod y = R := ⟨_, rfl⟩
    have hQR : Q * y + R = x := by rw [← eQ, ← eR, Int.mul_comm]; exact Int.mul_tdiv_add_tmod x y
    have hQ9 : -2147483648 ≤ Q ∧ Q ≤ 2147483648 := by
      have h1 := Int.natAbs_tdiv x y
      rw [eQ] at h1
      have h2 : x.natAbs.div y.natAbs ≤ x.natAbs := Nat.div_le_self x.natAbs y.natAbs
      omega
    have hR9 : R.natAbs < y.natAbs := by
      have h1 := Int.natAbs_tmod x y
      rw [eR] at h1
      rw [h1]; exact Nat.mod_lt _ (by omega)
    obtain ⟨q1, q2⟩ := hQ9
    have r1 : -2147483648 ≤ R := by omega
    have r2 : R ≤ 2147483648 := by omega
    have hway : (0 ≤ R) ∨ (R < 0 ∧ 0 < y ∧ 0 ≤ R + y) ∨ (R < 0 ∧ y < 0 ∧ 0 ≤ R - y) := by omega
    rcases hway with hw | ⟨hw, hw2, hw3⟩ | ⟨hw, hw2, hw3⟩
    · have hu := div_unique (x := x) (y := y) (q := Q) (r := R) hy0 (by exact hQR) (by omega) (by omega)
      have C11 := Lib.hid fun W => div_zz x y W lx ly (Q) (R) hy0 hu.1 hu.2
      clear hu
      have C12 := Lib.hid fun W => fromInt_any (Q) W (by omega) (by omega)
      have C13 := Lib.hid fun W => fromInt_any (R) W (by omega) (by omega)
      clear lx ly l0 hQR hR9
      rcases hor with ⟨h1, h2⟩ | ⟨⟨h1, h1'⟩, h2⟩ | ⟨h1, h2⟩
      all_goals
        rw [h2] at C10
        clear h2
        go_enter Try.func4, Try.ntmps4
        go_wp2_with fail
        refine (sane_any _).mono ?_
        rintro e w1 ⟨rfl, hb1⟩
        have HB1 := Lib.hid hb1; clear hb1
        go_wp2_with fail
        refine (C1.out _).mono ?_
        rintro e w2 ⟨rfl, hb2⟩
        have HB2 := Lib.hid (HB1.out.trans (hb2.mono HB1.out.size)); clear hb2
        go_wp2_with fail
        refine (C2.out _).mono ?_
        rintro e w3 ⟨rfl, hb3⟩
        have HB3 := Lib.hid (HB2.out.trans (hb3.mono HB2.out.size)); clear hb3
        go_wp2_with fail
        refine (C3.out _).mono ?_
        rintro e w4 ⟨rfl, hb4⟩
        have HB4 := Lib.hid (HB3.out.trans (hb4.mono HB3.out.size)); clear hb4
        go_wp2_with fail
        refine (C4.out _).mono ?_
        rintro e w5 ⟨rfl, hb5⟩
        have HB5 := Lib.hid (HB4.out.trans (hb5.mono HB4.out.size)); clear hb5
        go_wp2_with fail
        refine (C5.out _).mono ?_
        rintro e w6 ⟨rfl, hb6⟩
        have HB6 := Lib.hid (HB5.out.trans (hb6.mono HB5.out.size)); clear hb6
        go_wp2_with fail
        refine (C6.out _).mono ?_
        rintro e w7 ⟨rfl, hb7⟩
        have HB7 := Lib.hid (HB6.out.trans (hb7.mono HB6.out.size)); clear hb7
        go_wp2_with fail
        refine (C7.out _).mono ?_
        rintro e w8 ⟨rfl, hb8⟩
        have HB8 := Lib.hid (HB7.out.trans (hb8.mono HB7.out.size)); clear hb8
        go_wp2_with fail
        refine (C8.out _).mono ?_
        rintro e w9 ⟨rfl, hb9⟩
        have HB9 := Lib.hid (HB8.out.trans (hb9.mono HB8.out.size)); clear hb9
        go_wp2_with fail
        refine (C9.out _).mono ?_
        rintro e w10 ⟨rfl, hb10⟩
        have HB10 := Lib.hid (HB9.out.trans (hb10.mono HB9.out.size)); clear hb10
        go_wp2_with fail
        refine (C10.out _).mono ?_
        rintro e w11 ⟨rfl, hb11⟩
        have HB11 := Lib.hid (HB10.out.trans (hb11.mono HB10.out.size)); clear hb11
        go_wp2_with fail
        refine (C11.out _).mono ?_
        rintro e w12 ⟨rfl, hb12⟩
        have HB12 := Lib.hid (HB11.out.trans (hb12.mono HB11.out.size)); clear hb12
        go_wp2_with fail
        refine (C12.out _).mono ?_
        rintro e w13 ⟨rfl, hb13⟩
        have HB13 := Lib.hid (HB12.out.trans (hb13.mono HB12.out.size)); clear hb13
        go_wp2_with fail
        refine (C13.out _).mono ?_
        rintro e w14 ⟨rfl, hb14⟩
        have HB14 := Lib.hid (HB13.out.trans (hb14.mono HB13.out.size)); clear hb14
        go_wp2_with fail
        go_ret
        exact ⟨rfl, HB14.out⟩
    · have hu := div_unique (x := x) (y := y) (q := Q - 1) (r := R + y) hy0 (by rw [Int.sub_mul]; omega) (by omega) (by omega)
      have C11 := Lib.hid fun W => div_zz x y W lx ly (Q - 1) (R + y) hy0 hu.1 hu.2
      clear hu
      have C12 := Lib.hid fun W => fromInt_any (Q - 1) W (by omega) (by omega)
      have C13 := Lib.hid fun W => fromInt_any (R + y) W (by omega) (by omega)
      clear lx ly l0 hQR hR9
      rcases hor with ⟨h1, h2⟩ | ⟨⟨h1, h1'⟩, h2⟩ | ⟨h1, h2⟩
      all_goals
        rw [h2] at C10
        clear h2
        go_enter Try.func4, Try.ntmps4
        go_wp2_with fail
        refine (sane_any _).mono ?_
        rintro e w1 ⟨rfl, hb1⟩
        have HB1 := Lib.hid hb1; clear hb1
        go_wp2_with fail
        refine (C1.out _).mono ?_
        rintro e w2 ⟨rfl, hb2⟩
        have HB2 := Lib.hid (HB1.out.trans (hb2.mono HB1.out.size)); clear hb2
        go_wp2_with fail
        refine (C2.out _).mono ?_
        rintro e w3 ⟨rfl, hb3⟩
        have HB3 := Lib.hid (HB2.out.trans (hb3.mono HB2.out.size)); clear hb3
        go_wp2_with fail
        refine (C3.out _).mono ?_
        rintro e w4 ⟨rfl, hb4⟩
        have HB4 := Lib.hid (HB3.out.trans (hb4.mono HB3.out.size)); clear hb4
        go_wp2_with fail
        refine (C4.out _).mono ?_
        rintro e w5 ⟨rfl, hb5⟩
        have HB5 := Lib.hid (HB4.out.trans (hb5.mono HB4.out.size)); clear hb5
        go_wp2_with fail
        refine (C5.out _).mono ?_
        rintro e w6 ⟨rfl, hb6⟩
        have HB6 := Lib.hid (HB5.out.trans (hb6.mono HB5.out.size)); clear hb6
        go_wp2_with fail
        refine (C6.out _).mono ?_
        rintro e w7 ⟨rfl, hb7⟩
        have HB7 := Lib.hid (HB6.out.trans (hb7.mono HB6.out.size)); clear hb7
        go_wp2_with fail
        refine (C7.out _).mono ?_
        rintro e w8 ⟨rfl, hb8⟩
        have HB8 := Lib.hid (HB7.out.trans (hb8.mono HB7.out.size)); clear hb8
        go_wp2_with fail
        refine (C8.out _).mono ?_
        rintro e w9 ⟨rfl, hb9⟩
        have HB9 := Lib.hid (HB8.out.trans (hb9.mono HB8.out.size)); clear hb9
        go_wp2_with fail
        refine (C9.out _).mono ?_
        rintro e w10 ⟨rfl, hb10⟩
        have HB10 := Lib.hid (HB9.out.trans (hb10.mono HB9.out.size)); clear hb10
        go_wp2_with fail
        refine (C10.out _).mono ?_
        rintro e w11 ⟨rfl, hb11⟩
        have HB11 := Lib.hid (HB10.out.trans (hb11.mono HB10.out.size)); clear hb11
        go_wp2_with fail
        refine (C11.out _).mono ?_
        rintro e w12 ⟨rfl, hb12⟩
        have HB12 := Lib.hid (HB11.out.trans (hb12.mono HB11.out.size)); clear hb12
        go_wp2_with fail
        refine (C12.out _).mono ?_
        rintro e w13 ⟨rfl, hb13⟩
        have HB13 := Lib.hid (HB12.out.trans (hb13.mono HB12.out.size)); clear hb13
        go_wp2_with fail
        refine (C13.out _).mono ?_
        rintro e w14 ⟨rfl, hb14⟩
        have HB14 := Lib.hid (HB13.out.trans (hb14.mono HB13.out.size)); clear hb14
        go_wp2_with fail
        go_ret
        exact ⟨rfl, HB14.out⟩
    · have hu := div_unique (x := x) (y := y) (q := Q + 1) (r := R - y) hy0 (by rw [Int.add_mul]; omega) (by omega) (by omega)
      have C11 := Lib.hid fun W => div_zz x y W lx ly (Q + 1) (R - y) hy0 hu.1 hu.2
      clear hu
      have C12 := Lib.hid fun W => fromInt_any (Q + 1) W (by omega) (by omega)
      have C13 := Lib.hid fun W => fromInt_any (R - y) W (by omega) (by omega)
      clear lx ly l0 hQR hR9
      rcases hor with ⟨h1, h2⟩ | ⟨⟨h1, h1'⟩, h2⟩ | ⟨h1, h2⟩
      all_goals
        rw [h2] at C10
        clear h2
        go_enter Try.func4, Try.ntmps4
        go_wp2_with fail
        refine (sane_any _).mono ?_
        rintro e w1 ⟨rfl, hb1⟩
        have HB1 := Lib.hid hb1; clear hb1
        go_wp2_with fail
        refine (C1.out _).mono ?_
        rintro e w2 ⟨rfl, hb2⟩
        have HB2 := Lib.hid (HB1.out.trans (hb2.mono HB1.out.size)); clear hb2
        go_wp2_with fail
        refine (C2.out _).mono ?_
        rintro e w3 ⟨rfl, hb3⟩
        have HB3 := Lib.hid (HB2.out.trans (hb3.mono HB2.out.size)); clear hb3
        go_wp2_with fail
        refine (C3.out _).mono ?_
        rintro e w4 ⟨rfl, hb4⟩
        have HB4 := Lib.hid (HB3.out.trans (hb4.mono HB3.out.size)); clear hb4
        go_wp2_with fail
        refine (C4.out _).mono ?_
        rintro e w5 ⟨rfl, hb5⟩
        have HB5 := Lib.hid (HB4.out.trans (hb5.mono HB4.out.size)); clear hb5
        go_wp2_with fail
        refine (C5.out _).mono ?_
        rintro e w6 ⟨rfl, hb6⟩
        have HB6 := Lib.hid (HB5.out.trans (hb6.mono HB5.out.size)); clear hb6
        go_wp2_with fail
        refine (C6.out _).mono ?_
        rintro e w7 ⟨rfl, hb7⟩
        have HB7 := Lib.hid (HB6.out.trans (hb7.mono HB6.out.size)); clear hb7
        go_wp2_with fail
        refine (C7.out _).mono ?_
        rintro e w8 ⟨rfl, hb8⟩
        have HB8 := Lib.hid (HB7.out.trans (hb8.mono HB7.out.size)); clear hb8
        go_wp2_with fail
        refine (C8.out _).mono ?_
        rintro e w9 ⟨rfl, hb9⟩
        have HB9 := Lib.hid (HB8.out.trans (hb9.mono HB8.out.size)); clear hb9
        go_wp2_with fail
        refine (C9.out _).mono ?_
        rintro e w10 ⟨rfl, hb10⟩
        have HB10 := Lib.hid (HB9.out.trans (hb10.mono HB9.out.size)); clear hb10
        go_wp2_with fail
        refine (C10.out _).mono ?_
        rintro e w11 ⟨rfl, hb11⟩
        have HB11 := Lib.hid (HB10.out.trans (hb11.mono HB10.out.size)); clear hb11
        go_wp2_with fail
        refine (C11.out _).mono ?_
        rintro e w12 ⟨rfl, hb12⟩
        have HB12 := Lib.hid (HB11.out.trans (hb12.mono HB11.out.size)); clear hb12
        go_wp2_with fail
        refine (C12.out _).mono ?_
        rintro e w13 ⟨rfl, hb13⟩
        have HB13 := Lib.hid (HB12.out.trans (hb13.mono HB12.out.size)); clear hb13
        go_wp2_with fail
        refine (C13.out _).mono ?_
        rintro e w14 ⟨rfl, hb14⟩
        have HB14 := Lib.hid (HB13.out.trans (hb14.mono HB13.out.size)); clear hb14
        go_wp2_with fail
        go_ret
        exact ⟨rfl, HB14.out⟩
end Go.Proofs.Ytgpppjfgdbloiaa
