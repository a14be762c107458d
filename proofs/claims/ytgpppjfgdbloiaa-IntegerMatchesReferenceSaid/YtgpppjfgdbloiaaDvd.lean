/- The contract of IntegerDivided. Condition: a string's length is an int's. -/
import Derived.Test.YtgpppjfgdbloiaaZz
namespace Go.Proofs.Ytgpppjfgdbloiaa
open Go.RowKit Go.Lib

theorem lit48 : (⟨#[48]⟩ : ByteArray).toList = [48] := by rw [toList_data]
theorem is0 (y : Int) (b : Bool) (h : b = decide (y = 0)) : ((zS y).toList == [48]) = b := by
  rw [← lit48, ← zS_zero]; exact zS_beq y 0 b h

set_option maxRecDepth 100000 in
set_option maxHeartbeats 4000000 in
theorem divided_law (a : ByteArray) (b : ByteArray) (w : World) (ha : a.size ≤ 9223372036854775807) (hb : b.size ≤ 9223372036854775807) :
    Calls Try.prog 7 #[.string a, .string b] w fun e w' => e = .returned (.bool true) ∧ Below w.heap.size w w' := by
  have M1 := Lib.hid fun W => made_any a 90 W ha (by omega)
  have M2 := Lib.hid fun W => made_any b 60 W hb (by omega)
  go_enter Try.func7, Try.ntmps7
  go_wp2_with fail
  refine (sane_any _).mono ?_
  rintro e w1 ⟨rfl, hb1⟩
  have HB1 := Lib.hid hb1; clear hb1
  go_wp2_with fail
  refine (M1.out _).mono ?_
  rintro e w2 ⟨x, hx, rfl, hb2⟩
  have HB2 := Lib.hid (HB1.out.trans (hb2.mono HB1.out.size)); clear hb2
  go_wp2_with fail
  refine (M2.out _).mono ?_
  rintro e w3 ⟨y, hy, rfl, hb3⟩
  have HB3 := Lib.hid (HB2.out.trans (hb3.mono HB2.out.size)); clear hb3
  have lx := Made.ok hx (by omega); have ly := Made.ok hy (by omega)
  have l1 : (1 : Int).natAbs < 10 ^ 200 := by decide
  have l0 : (0 : Int).natAbs < 10 ^ 200 := by decide
  by_cases h0 : y = 0
  · have C1 := Lib.hid fun W => div_z0 x y W lx ly h0
    have hq := is0 y true (by simp [h0])
    clear hx hy lx ly l1 l0 h0
    go_wp2_with fail
    refine (C1.out _).mono ?_
    rintro e w4 ⟨rfl, hb4⟩
    have HB4 := Lib.hid (HB3.out.trans (hb4.mono HB3.out.size)); clear hb4
    go_wp2_with fail
    go_ret
    exact ⟨rfl, HB4.out⟩
  · have hq := is0 y false (by simp [h0])
    obtain ⟨q, eq⟩ : ∃ v : Int, v = x / y := ⟨_, rfl⟩
    obtain ⟨r, er⟩ : ∃ v : Int, v = x % y := ⟨_, rfl⟩
    have hqr : q * y + r = x := by rw [eq, er, Int.mul_comm]; exact Int.mul_ediv_add_emod x y
    have hr0 : 0 ≤ r := by rw [er]; exact Int.emod_nonneg x h0
    have hry : r < y.natAbs := by rw [er]; exact Int.emod_lt x h0
    have gq : q.natAbs < 10 ^ 90 := by
      have := Int.natAbs_ediv_le_natAbs x y
      rw [← eq] at this; omega
    have lq := lt200 gq (by omega)
    have lr : r.natAbs < 10 ^ 200 := by omega
    obtain ⟨p, ep⟩ : ∃ v : Int, v = q * y := ⟨_, rfl⟩
    have gp : p.natAbs < 10 ^ 150 := by rw [ep]; exact abs_mul gq hy
    have lp := lt200 gp (by omega)
    obtain ⟨m, em⟩ : ∃ v : Int, v = x * y := ⟨_, rfl⟩
    have gm : m.natAbs < 10 ^ 150 := by rw [em]; exact abs_mul hx hy
    have lm := lt200 gm (by omega)
    obtain ⟨s, es⟩ : ∃ v : Int, v = (y.natAbs : Int) := ⟨_, rfl⟩
    have ls : s.natAbs < 10 ^ 200 := by omega
    have C1 := Lib.hid fun W => div_zz x y W lx ly q r h0 eq er
    have C2 := Lib.hid fun W => mul_zz q y W lq ly p ep lp
    have C3 := Lib.hid fun W => add_zz p r W lp lr x (by rw [ep]; exact hqr.symm) lx
    have C4 := Lib.hid fun W => mul_zz y 1 W ly l1 y (by rw [Int.mul_one]) ly
    have C6 := Lib.hid fun W => mul_zz x y W lx ly m em lm
    have C7 := Lib.hid fun W => div_zz m y W lm ly x 0 h0 (by rw [em, Int.mul_ediv_cancel _ h0]) (by rw [em, Int.mul_emod_left])
    obtain ⟨c, ec⟩ : ∃ v : Int, v = ordI r 0 := ⟨_, rfl⟩
    have hc : 0 ≤ c := by rw [ec]; unfold ordI; rw [if_neg (by omega)]; split <;> omega
    have C8 := Lib.hid fun W => cmp_zz r 0 W lr l0 c ec
    have C9 := Lib.hid fun W => cmp_zz r s W lr ls (-1) (by rw [ordI_lt (by omega)])
    have C10 := Lib.hid fun W => valid_zz r W lr
    rw [zS_zero] at C7 C8
    rw [zS_one] at C4
    have e0 : p + r = x := by rw [ep]; exact hqr
    rcases Int.lt_or_gt_of_ne h0 with hneg | hpos
    · have C5 := Lib.hid fun W => cmp_zz y 0 W ly l0 (-1) (by rw [ordI_lt hneg])
      have C11 := Lib.hid fun W => sub_zz 0 y W l0 ly s (by omega) ls
      rw [zS_zero] at C5 C11
      clear hx hy lx ly l1 l0 h0 eq er hqr hr0 hry gq lq lr ep gp lp em gm lm es ls ec hneg e0
      go_wp2_with fail
      refine (C1.out _).mono ?_
      rintro e w4 ⟨rfl, hb4⟩
      have HB4 := Lib.hid (HB3.out.trans (hb4.mono HB3.out.size)); clear hb4
      go_wp2_with fail
      refine (C2.out _).mono ?_
      rintro e w5 ⟨rfl, hb5⟩
      have HB5 := Lib.hid (HB4.out.trans (hb5.mono HB4.out.size)); clear hb5
      go_wp2_with fail
      refine (C3.out _).mono ?_
      rintro e w6 ⟨rfl, hb6⟩
      have HB6 := Lib.hid (HB5.out.trans (hb6.mono HB5.out.size)); clear hb6
      go_wp2_with fail
      refine (C4.out _).mono ?_
      rintro e w7 ⟨rfl, hb7⟩
      have HB7 := Lib.hid (HB6.out.trans (hb7.mono HB6.out.size)); clear hb7
      go_wp2_with fail
      refine (C5.out _).mono ?_
      rintro e w8 ⟨rfl, hb8⟩
      have HB8 := Lib.hid (HB7.out.trans (hb8.mono HB7.out.size)); clear hb8
      go_wp2_with fail
      refine (C11.out _).mono ?_
      rintro e w9 ⟨rfl, hb9⟩
      have HB9 := Lib.hid (HB8.out.trans (hb9.mono HB8.out.size)); clear hb9
      go_wp2_with fail
      refine (C6.out _).mono ?_
      rintro e w10 ⟨rfl, hb10⟩
      have HB10 := Lib.hid (HB9.out.trans (hb10.mono HB9.out.size)); clear hb10
      go_wp2_with fail
      refine (C7.out _).mono ?_
      rintro e w11 ⟨rfl, hb11⟩
      have HB11 := Lib.hid (HB10.out.trans (hb11.mono HB10.out.size)); clear hb11
      go_wp2_with fail
      refine (C8.out _).mono ?_
      rintro e w12 ⟨rfl, hb12⟩
      have HB12 := Lib.hid (HB11.out.trans (hb12.mono HB11.out.size)); clear hb12
      go_wp2_with fail
      refine (C9.out _).mono ?_
      rintro e w13 ⟨rfl, hb13⟩
      have HB13 := Lib.hid (HB12.out.trans (hb13.mono HB12.out.size)); clear hb13
      go_wp2_with fail
      refine (C10.out _).mono ?_
      rintro e w14 ⟨rfl, k14, rfl⟩
      have HB14 := Lib.hid (below_drewN HB13.out k14)
      go_wp2_with fail
      go_ret
      exact ⟨rfl, HB14.out⟩
    · have C5 := Lib.hid fun W => cmp_zz y 0 W ly l0 1 (by rw [ordI_gt hpos])
      obtain rfl : s = y := by omega
      rw [zS_zero] at C5
      clear hx hy lx ly l1 l0 h0 eq er hqr hr0 hry gq lq lr ep gp lp em gm lm es ls ec hpos e0
      go_wp2_with fail
      refine (C1.out _).mono ?_
      rintro e w4 ⟨rfl, hb4⟩
      have HB4 := Lib.hid (HB3.out.trans (hb4.mono HB3.out.size)); clear hb4
      go_wp2_with fail
      refine (C2.out _).mono ?_
      rintro e w5 ⟨rfl, hb5⟩
      have HB5 := Lib.hid (HB4.out.trans (hb5.mono HB4.out.size)); clear hb5
      go_wp2_with fail
      refine (C3.out _).mono ?_
      rintro e w6 ⟨rfl, hb6⟩
      have HB6 := Lib.hid (HB5.out.trans (hb6.mono HB5.out.size)); clear hb6
      go_wp2_with fail
      refine (C4.out _).mono ?_
      rintro e w7 ⟨rfl, hb7⟩
      have HB7 := Lib.hid (HB6.out.trans (hb7.mono HB6.out.size)); clear hb7
      go_wp2_with fail
      refine (C5.out _).mono ?_
      rintro e w8 ⟨rfl, hb8⟩
      have HB8 := Lib.hid (HB7.out.trans (hb8.mono HB7.out.size)); clear hb8
      go_wp2_with fail
      refine (C6.out _).mono ?_
      rintro e w9 ⟨rfl, hb9⟩
      have HB9 := Lib.hid (HB8.out.trans (hb9.mono HB8.out.size)); clear hb9
      go_wp2_with fail
      refine (C7.out _).mono ?_
      rintro e w10 ⟨rfl, hb10⟩
      have HB10 := Lib.hid (HB9.out.trans (hb10.mono HB9.out.size)); clear hb10
      go_wp2_with fail
      refine (C8.out _).mono ?_
      rintro e w11 ⟨rfl, hb11⟩
      have HB11 := Lib.hid (HB10.out.trans (hb11.mono HB10.out.size)); clear hb11
      go_wp2_with fail
      refine (C9.out _).mono ?_
      rintro e w12 ⟨rfl, hb12⟩
      have HB12 := Lib.hid (HB11.out.trans (hb12.mono HB11.out.size)); clear hb12
      go_wp2_with fail
      refine (C10.out _).mono ?_
      rintro e w13 ⟨rfl, k13, rfl⟩
      have HB13 := Lib.hid (below_drewN HB12.out k13)
      go_wp2_with fail
      go_ret
      exact ⟨rfl, HB13.out⟩
end Go.Proofs.Ytgpppjfgdbloiaa
