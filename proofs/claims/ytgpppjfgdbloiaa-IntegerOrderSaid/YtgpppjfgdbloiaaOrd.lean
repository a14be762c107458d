/- The contract of IntegerOrder. Condition: a string's length is an int's. -/
import Derived.Test.YtgpppjfgdbloiaaZz
namespace Go.Proofs.Ytgpppjfgdbloiaa
open Go.RowKit Go.Lib

theorem ord_neg (a b : Int) : ordI b a = -ordI a b := by unfold ordI; split <;> split <;> (try split) <;> (try split) <;> omega
theorem ord_zero (a b : Int) : ordI (a - b) 0 = ordI a b := by unfold ordI; split <;> split <;> (try split) <;> (try split) <;> omega
theorem ord_add (a b c : Int) : ordI (a + c) (b + c) = ordI a b := by unfold ordI; split <;> split <;> (try split) <;> (try split) <;> omega
theorem ord_iff (a b : Int) : ordI a b = 0 ↔ a = b := by unfold ordI; split <;> (try split) <;> omega
theorem ord_trans {a b c : Int} (h1 : ordI a b ≤ 0) (h2 : ordI b c ≤ 0) : ordI a c ≤ 0 := by
  unfold ordI at *
  split at h1 <;> split at h2 <;> split <;> (try split) <;> (try split at h1) <;> (try split at h2) <;> omega

set_option maxRecDepth 100000 in
set_option maxHeartbeats 2000000 in
theorem order_law (a b c : ByteArray) (w : World) (ha : a.size ≤ 9223372036854775807) (hb : b.size ≤ 9223372036854775807) (hc : c.size ≤ 9223372036854775807) :
    Calls Try.prog 10 #[.string a, .string b, .string c] w fun e w' => e = .returned (.bool true) ∧ Below w.heap.size w w' := by
  have M1 := Lib.hid fun W => made_any a 60 W ha (by omega)
  have M2 := Lib.hid fun W => made_any b 60 W hb (by omega)
  have M3 := Lib.hid fun W => made_any c 60 W hc (by omega)
  go_enter Try.func10, Try.ntmps10
  go_wp2_with fail
  refine (sane_any _).mono ?_
  rintro e w1 ⟨rfl, hb1⟩
  have HB1 := Lib.hid hb1; clear hb1
  go_wp2_with fail
  refine (M1.out _).mono ?_
  rintro e w2 ⟨x, hx, rfl, hb2⟩
  have HB2 := Lib.hid (HB1.out.trans (hb2.mono HB1.out.size)); clear hb2
  go_wp2_with fail
  refine (M2.out _).mono ?_
  rintro e w3 ⟨y, hy, rfl, hb3⟩
  have HB3 := Lib.hid (HB2.out.trans (hb3.mono HB2.out.size)); clear hb3
  go_wp2_with fail
  refine (M3.out _).mono ?_
  rintro e w4 ⟨z, hz, rfl, hb4⟩
  have HB4 := Lib.hid (HB3.out.trans (hb4.mono HB3.out.size)); clear hb4
  have x2 := Made.ok hx (by omega); have y2 := Made.ok hy (by omega); have z2 := Made.ok hz (by omega)
  have dd := lt200 (abs_sub hx hy) (by omega); have xz := lt200 (abs_add hx hz) (by omega); have yz := lt200 (abs_add hy hz) (by omega)
  have z0 : (0 : Int).natAbs < 10 ^ 200 := by decide
  obtain ⟨c1, hc1⟩ : ∃ c1, c1 = ordI x y := ⟨_, rfl⟩
  have C1 := Lib.hid fun W => cmp_zz x y W x2 y2 c1 hc1
  have C2 := Lib.hid fun W => sub_zz x y W x2 y2 _ rfl dd
  have C3 := Lib.hid fun W => add_zz x z W x2 z2 _ rfl xz
  have C4 := Lib.hid fun W => add_zz y z W y2 z2 _ rfl yz
  have C5 := Lib.hid fun W => cmp_zz y x W y2 x2 (-c1) (by rw [hc1]; exact (ord_neg x y).symm)
  have C6 := Lib.hid fun W => cmp_zz (x - y) 0 W dd z0 c1 (by rw [hc1, ord_zero])
  have C7 := Lib.hid fun W => cmp_zz (x + z) (y + z) W xz yz c1 (by rw [hc1, ord_add])
  have C8 := Lib.hid fun W => cmp_zz y z W y2 z2 _ rfl
  have C9 := Lib.hid fun W => cmp_zz x z W x2 z2 _ rfl
  rw [zS_zero] at C6
  have HTR := Lib.hid (fun h1 h2 => ord_trans (a := x) (b := y) (c := z) h1 h2)
  have HC1 := Lib.hid hc1
  have hcase : (c1 = -1 ∧ ((zS x).toList == (zS y).toList) = false) ∨ (c1 = 0 ∧ ((zS x).toList == (zS y).toList) = true) ∨ (c1 = 1 ∧ ((zS x).toList == (zS y).toList) = false) := by
    have h9 := ordI_le x y
    have h8 := ord_iff x y
    rw [← hc1] at h9 h8
    rcases Int.lt_trichotomy c1 0 with h | h | h
    · exact .inl ⟨by omega, zS_beq _ _ _ (by symm; rw [decide_eq_false_iff_not]; intro h7; have := h8.2 h7; omega)⟩
    · exact .inr (.inl ⟨h, zS_beq _ _ _ (by symm; rw [decide_eq_true_eq]; exact h8.1 h)⟩)
    · exact .inr (.inr ⟨by omega, zS_beq _ _ _ (by symm; rw [decide_eq_false_iff_not]; intro h7; have := h8.2 h7; omega)⟩)
  clear hx hy hz x2 y2 z2 dd xz yz z0 hc1
  go_wp2_with fail
  refine (C1.out _).mono ?_
  rintro e w5 ⟨rfl, hb5⟩
  have HB5 := Lib.hid (HB4.out.trans (hb5.mono HB4.out.size)); clear hb5
  go_wp2_with fail
  refine (C2.out _).mono ?_
  rintro e w6 ⟨rfl, hb6⟩
  have HB6 := Lib.hid (HB5.out.trans (hb6.mono HB5.out.size)); clear hb6
  go_wp2_with fail
  refine (C3.out _).mono ?_
  rintro e w7 ⟨rfl, hb7⟩
  have HB7 := Lib.hid (HB6.out.trans (hb7.mono HB6.out.size)); clear hb7
  go_wp2_with fail
  refine (C4.out _).mono ?_
  rintro e w8 ⟨rfl, hb8⟩
  have HB8 := Lib.hid (HB7.out.trans (hb8.mono HB7.out.size)); clear hb8
  obtain ⟨u, hu⟩ : ∃ u, u = ordI y z := ⟨_, rfl⟩
  obtain ⟨v, hv⟩ : ∃ v, v = ordI x z := ⟨_, rfl⟩
  rw [← hu] at C8
  rw [← hv] at C9
  rw [← HC1.out, ← hu, ← hv] at HTR
  clear hu hv
  rcases hcase with ⟨rfl, hq⟩ | ⟨rfl, hq⟩ | ⟨rfl, hq⟩
  · clear HC1
    go_wp2_with fail
    refine (C5.out _).mono ?_
    rintro e w9 ⟨rfl, hb9⟩
    have HB9 := Lib.hid (HB8.out.trans (hb9.mono HB8.out.size)); clear hb9
    go_wp2_with fail
    refine (C6.out _).mono ?_
    rintro e w10 ⟨rfl, hb10⟩
    have HB10 := Lib.hid (HB9.out.trans (hb10.mono HB9.out.size)); clear hb10
    go_wp2_with fail
    refine (C7.out _).mono ?_
    rintro e w11 ⟨rfl, hb11⟩
    have HB11 := Lib.hid (HB10.out.trans (hb11.mono HB10.out.size)); clear hb11
    have HT := Lib.hid (fun h => HTR.out (by omega) h)
    rcases Int.lt_or_le 0 u with hu0 | hu0
    · go_wp2_with fail
      refine (C8.out _).mono ?_
      rintro e w12 ⟨rfl, hb12⟩
      have HB12 := Lib.hid (HB11.out.trans (hb12.mono HB11.out.size)); clear hb12
      go_wp2_with fail
      go_ret
      exact ⟨rfl, HB12.out⟩
    · have hv0 := HT.out hu0
      go_wp2_with fail
      refine (C8.out _).mono ?_
      rintro e w12 ⟨rfl, hb12⟩
      have HB12 := Lib.hid (HB11.out.trans (hb12.mono HB11.out.size)); clear hb12
      go_wp2_with fail
      refine (C9.out _).mono ?_
      rintro e w13 ⟨rfl, hb13⟩
      have HB13 := Lib.hid (HB12.out.trans (hb13.mono HB12.out.size)); clear hb13
      go_wp2_with fail
      go_ret
      exact ⟨rfl, HB13.out⟩
  · clear HC1
    go_wp2_with fail
    refine (C5.out _).mono ?_
    rintro e w9 ⟨rfl, hb9⟩
    have HB9 := Lib.hid (HB8.out.trans (hb9.mono HB8.out.size)); clear hb9
    go_wp2_with fail
    refine (C6.out _).mono ?_
    rintro e w10 ⟨rfl, hb10⟩
    have HB10 := Lib.hid (HB9.out.trans (hb10.mono HB9.out.size)); clear hb10
    go_wp2_with fail
    refine (C7.out _).mono ?_
    rintro e w11 ⟨rfl, hb11⟩
    have HB11 := Lib.hid (HB10.out.trans (hb11.mono HB10.out.size)); clear hb11
    have HT := Lib.hid (fun h => HTR.out (by omega) h)
    rcases Int.lt_or_le 0 u with hu0 | hu0
    · go_wp2_with fail
      refine (C8.out _).mono ?_
      rintro e w12 ⟨rfl, hb12⟩
      have HB12 := Lib.hid (HB11.out.trans (hb12.mono HB11.out.size)); clear hb12
      go_wp2_with fail
      go_ret
      exact ⟨rfl, HB12.out⟩
    · have hv0 := HT.out hu0
      go_wp2_with fail
      refine (C8.out _).mono ?_
      rintro e w12 ⟨rfl, hb12⟩
      have HB12 := Lib.hid (HB11.out.trans (hb12.mono HB11.out.size)); clear hb12
      go_wp2_with fail
      refine (C9.out _).mono ?_
      rintro e w13 ⟨rfl, hb13⟩
      have HB13 := Lib.hid (HB12.out.trans (hb13.mono HB12.out.size)); clear hb13
      go_wp2_with fail
      go_ret
      exact ⟨rfl, HB13.out⟩
  · clear HC1
    go_wp2_with fail
    refine (C5.out _).mono ?_
    rintro e w9 ⟨rfl, hb9⟩
    have HB9 := Lib.hid (HB8.out.trans (hb9.mono HB8.out.size)); clear hb9
    go_wp2_with fail
    refine (C6.out _).mono ?_
    rintro e w10 ⟨rfl, hb10⟩
    have HB10 := Lib.hid (HB9.out.trans (hb10.mono HB9.out.size)); clear hb10
    go_wp2_with fail
    refine (C7.out _).mono ?_
    rintro e w11 ⟨rfl, hb11⟩
    have HB11 := Lib.hid (HB10.out.trans (hb11.mono HB10.out.size)); clear hb11
    go_wp2_with fail
    go_ret
    exact ⟨rfl, HB11.out⟩
end Go.Proofs.Ytgpppjfgdbloiaa
