/- The contract of IntegerRing. Condition: a string's length is an int's. -/
import Derived.Test.YtgpppjfgdbloiaaZz
namespace Go.Proofs.Ytgpppjfgdbloiaa
open Go.RowKit Go.Lib

set_option maxRecDepth 100000 in
set_option maxHeartbeats 4000000 in
theorem ring_law (a : ByteArray) (b : ByteArray) (c : ByteArray) (w : World) (ha : a.size ≤ 9223372036854775807) (hb : b.size ≤ 9223372036854775807) (hc : c.size ≤ 9223372036854775807) :
    Calls Try.prog 6 #[.string a, .string b, .string c] w fun e w' => e = .returned (.bool true) ∧ Below w.heap.size w w' := by
  have M1 := Lib.hid fun W => made_any a 60 W ha (by omega)
  have M2 := Lib.hid fun W => made_any b 60 W hb (by omega)
  have M3 := Lib.hid fun W => made_any c 60 W hc (by omega)
  go_enter Try.func6, Try.ntmps6
  go_wp2_with fail
  refine (sane_any _).mono ?_
  rintro e w1 ⟨rfl, hb1⟩
  have HB1 := Lib.hid hb1; clear hb1
  go_wp2_with fail
  refine (M1.out _).mono ?_
  rintro e w2 ⟨x, hx, rfl, hb2⟩
  have HB2 := Lib.hid (HB1.out.trans (hb2.mono HB1.out.size)); clear hb2
  go_wp2_with fail
  refine (M2.out _).mono ?_
  rintro e w3 ⟨y, hy, rfl, hb3⟩
  have HB3 := Lib.hid (HB2.out.trans (hb3.mono HB2.out.size)); clear hb3
  go_wp2_with fail
  refine (M3.out _).mono ?_
  rintro e w4 ⟨z, hz, rfl, hb4⟩
  have HB4 := Lib.hid (HB3.out.trans (hb4.mono HB3.out.size)); clear hb4
  have lx := Made.ok hx (by omega); have ly := Made.ok hy (by omega); have lz := Made.ok hz (by omega)
  have l1 : (1 : Int).natAbs < 10 ^ 200 := by decide
  have l0 : (0 : Int).natAbs < 10 ^ 200 := by decide
  obtain ⟨s1, es1⟩ : ∃ v : Int, v = x + y := ⟨_, rfl⟩
  have gs1 : s1.natAbs < 10 ^ 61 := by rw [es1]; exact abs_add hx hy
  have ls1 := lt200 gs1 (by omega)
  obtain ⟨s2, es2⟩ : ∃ v : Int, v = s1 + z := ⟨_, rfl⟩
  have gs2 : s2.natAbs < 10 ^ 62 := by rw [es2]; exact abs_add gs1 (abs_up hz (by omega))
  have ls2 := lt200 gs2 (by omega)
  obtain ⟨s3, es3⟩ : ∃ v : Int, v = y + z := ⟨_, rfl⟩
  have gs3 : s3.natAbs < 10 ^ 61 := by rw [es3]; exact abs_add hy hz
  have ls3 := lt200 gs3 (by omega)
  obtain ⟨p1, ep1⟩ : ∃ v : Int, v = x * y := ⟨_, rfl⟩
  have gp1 : p1.natAbs < 10 ^ 120 := by rw [ep1]; exact abs_mul hx hy
  have lp1 := lt200 gp1 (by omega)
  obtain ⟨p2, ep2⟩ : ∃ v : Int, v = p1 * z := ⟨_, rfl⟩
  have gp2 : p2.natAbs < 10 ^ 180 := by rw [ep2]; exact abs_mul gp1 hz
  have lp2 := lt200 gp2 (by omega)
  obtain ⟨p3, ep3⟩ : ∃ v : Int, v = y * z := ⟨_, rfl⟩
  have gp3 : p3.natAbs < 10 ^ 120 := by rw [ep3]; exact abs_mul hy hz
  have lp3 := lt200 gp3 (by omega)
  obtain ⟨p4, ep4⟩ : ∃ v : Int, v = s1 * z := ⟨_, rfl⟩
  have gp4 : p4.natAbs < 10 ^ 121 := by rw [ep4]; exact abs_mul gs1 hz
  have lp4 := lt200 gp4 (by omega)
  obtain ⟨p5, ep5⟩ : ∃ v : Int, v = x * z := ⟨_, rfl⟩
  have gp5 : p5.natAbs < 10 ^ 120 := by rw [ep5]; exact abs_mul hx hz
  have lp5 := lt200 gp5 (by omega)
  obtain ⟨d1, ed1⟩ : ∃ v : Int, v = x - y := ⟨_, rfl⟩
  have gd1 : d1.natAbs < 10 ^ 61 := by rw [ed1]; exact abs_sub hx hy
  have ld1 := lt200 gd1 (by omega)
  have C1 := Lib.hid fun W => add_zz x y W lx ly s1 es1 ls1
  have C2 := Lib.hid fun W => add_zz y x W ly lx s1 (by rw [es1, Int.add_comm]) ls1
  have C3 := Lib.hid fun W => add_zz s1 z W ls1 lz s2 es2 ls2
  have C4 := Lib.hid fun W => add_zz y z W ly lz s3 es3 ls3
  have C5 := Lib.hid fun W => add_zz x s3 W lx ls3 s2 (by rw [es2, es1, es3, Int.add_assoc]) ls2
  have C6 := Lib.hid fun W => mul_zz x y W lx ly p1 ep1 lp1
  have C7 := Lib.hid fun W => mul_zz y x W ly lx p1 (by rw [ep1, Int.mul_comm]) lp1
  have C8 := Lib.hid fun W => mul_zz p1 z W lp1 lz p2 ep2 lp2
  have C9 := Lib.hid fun W => mul_zz y z W ly lz p3 ep3 lp3
  have C10 := Lib.hid fun W => mul_zz x p3 W lx lp3 p2 (by rw [ep2, ep1, ep3, Int.mul_assoc]) lp2
  have C11 := Lib.hid fun W => mul_zz s1 z W ls1 lz p4 ep4 lp4
  have C12 := Lib.hid fun W => mul_zz x z W lx lz p5 ep5 lp5
  have C13 := Lib.hid fun W => add_zz p5 p3 W lp5 lp3 p4 (by rw [ep4, es1, ep5, ep3, Int.add_mul]) lp4
  have C14 := Lib.hid fun W => sub_zz x y W lx ly d1 ed1 ld1
  have C15 := Lib.hid fun W => add_zz d1 y W ld1 ly x (by rw [ed1]; omega) lx
  have C16 := Lib.hid fun W => mul_zz x 1 W lx l1 x (by rw [Int.mul_one]) lx
  have C17 := Lib.hid fun W => mul_zz x 0 W lx l0 0 (by rw [Int.mul_zero]) l0
  rw [zS_one] at C16
  unfold OkZ at C17
  rw [zS_zero] at C17
  clear hx hy hz lx ly lz l1 l0 ed1 gd1 ld1 ep5 gp5 lp5 ep4 gp4 lp4 ep3 gp3 lp3 ep2 gp2 lp2 ep1 gp1 lp1 es3 gs3 ls3 es2 gs2 ls2 es1 gs1 ls1
  go_wp2_with fail
  refine (C1.out _).mono ?_
  rintro e w5 ⟨rfl, hb5⟩
  have HB5 := Lib.hid (HB4.out.trans (hb5.mono HB4.out.size)); clear hb5
  go_wp2_with fail
  refine (C2.out _).mono ?_
  rintro e w6 ⟨rfl, hb6⟩
  have HB6 := Lib.hid (HB5.out.trans (hb6.mono HB5.out.size)); clear hb6
  go_wp2_with fail
  refine (C3.out _).mono ?_
  rintro e w7 ⟨rfl, hb7⟩
  have HB7 := Lib.hid (HB6.out.trans (hb7.mono HB6.out.size)); clear hb7
  go_wp2_with fail
  refine (C4.out _).mono ?_
  rintro e w8 ⟨rfl, hb8⟩
  have HB8 := Lib.hid (HB7.out.trans (hb8.mono HB7.out.size)); clear hb8
  go_wp2_with fail
  refine (C5.out _).mono ?_
  rintro e w9 ⟨rfl, hb9⟩
  have HB9 := Lib.hid (HB8.out.trans (hb9.mono HB8.out.size)); clear hb9
  go_wp2_with fail
  refine (C6.out _).mono ?_
  rintro e w10 ⟨rfl, hb10⟩
  have HB10 := Lib.hid (HB9.out.trans (hb10.mono HB9.out.size)); clear hb10
  go_wp2_with fail
  refine (C7.out _).mono ?_
  rintro e w11 ⟨rfl, hb11⟩
  have HB11 := Lib.hid (HB10.out.trans (hb11.mono HB10.out.size)); clear hb11
  go_wp2_with fail
  refine (C8.out _).mono ?_
  rintro e w12 ⟨rfl, hb12⟩
  have HB12 := Lib.hid (HB11.out.trans (hb12.mono HB11.out.size)); clear hb12
  go_wp2_with fail
  refine (C9.out _).mono ?_
  rintro e w13 ⟨rfl, hb13⟩
  have HB13 := Lib.hid (HB12.out.trans (hb13.mono HB12.out.size)); clear hb13
  go_wp2_with fail
  refine (C10.out _).mono ?_
  rintro e w14 ⟨rfl, hb14⟩
  have HB14 := Lib.hid (HB13.out.trans (hb14.mono HB13.out.size)); clear hb14
  go_wp2_with fail
  refine (C11.out _).mono ?_
  rintro e w15 ⟨rfl, hb15⟩
  have HB15 := Lib.hid (HB14.out.trans (hb15.mono HB14.out.size)); clear hb15
  go_wp2_with fail
  refine (C12.out _).mono ?_
  rintro e w16 ⟨rfl, hb16⟩
  have HB16 := Lib.hid (HB15.out.trans (hb16.mono HB15.out.size)); clear hb16
  go_wp2_with fail
  refine (C13.out _).mono ?_
  rintro e w17 ⟨rfl, hb17⟩
  have HB17 := Lib.hid (HB16.out.trans (hb17.mono HB16.out.size)); clear hb17
  go_wp2_with fail
  refine (C14.out _).mono ?_
  rintro e w18 ⟨rfl, hb18⟩
  have HB18 := Lib.hid (HB17.out.trans (hb18.mono HB17.out.size)); clear hb18
  go_wp2_with fail
  refine (C15.out _).mono ?_
  rintro e w19 ⟨rfl, hb19⟩
  have HB19 := Lib.hid (HB18.out.trans (hb19.mono HB18.out.size)); clear hb19
  go_wp2_with fail
  refine (C16.out _).mono ?_
  rintro e w20 ⟨rfl, hb20⟩
  have HB20 := Lib.hid (HB19.out.trans (hb20.mono HB19.out.size)); clear hb20
  go_wp2_with fail
  refine (C17.out _).mono ?_
  rintro e w21 ⟨rfl, hb21⟩
  have HB21 := Lib.hid (HB20.out.trans (hb21.mono HB20.out.size)); clear hb21
  go_wp2_with fail
  go_ret
  exact ⟨rfl, HB21.out⟩
end Go.Proofs.Ytgpppjfgdbloiaa
