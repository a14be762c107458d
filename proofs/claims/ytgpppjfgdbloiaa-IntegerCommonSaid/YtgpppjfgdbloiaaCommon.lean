/- The contract of IntegerCommon. Condition: a string's length is an int's. -/
import Derived.Test.YtgpppjfgdbloiaaDvd
namespace Go.Proofs.Ytgpppjfgdbloiaa
open Go.RowKit Go.Lib

theorem abs_div_gcd {x : Int} {G : Nat} (hG : 0 < G) (hd : G ∣ x.natAbs) : (x / (G : Int)).natAbs = x.natAbs / G ∧ x % (G : Int) = 0 := by
  obtain ⟨k, hk⟩ := hd
  have hx : (G : Int) ∣ x := Int.ofNat_dvd_left.2 ⟨k, hk⟩
  refine ⟨?_, Int.emod_eq_zero_of_dvd hx⟩
  obtain ⟨q, rfl⟩ := hx
  rw [Int.mul_ediv_cancel_left _ (by omega), Int.natAbs_mul, Int.natAbs_natCast, Nat.mul_div_cancel_left _ hG]
set_option maxRecDepth 100000 in
set_option maxHeartbeats 4000000 in
theorem common_law (a : ByteArray) (b : ByteArray) (c : ByteArray) (w : World) (ha : a.size ≤ 9223372036854775807) (hb : b.size ≤ 9223372036854775807) (hc : c.size ≤ 9223372036854775807) :
    Calls Try.prog 8 #[.string a, .string b, .string c] w fun e w' => e = .returned (.bool true) ∧ Below w.heap.size w w' := by
  have M1 := Lib.hid fun W => made_any a 40 W ha (by omega)
  have M2 := Lib.hid fun W => made_any b 40 W hb (by omega)
  have M3 := Lib.hid fun W => made_any c 40 W hc (by omega)
  go_enter Try.func8, Try.ntmps8
  go_wp2_with fail
  refine (sane_any _).mono ?_
  rintro e w1 ⟨rfl, hb1⟩
  have HB1 := Lib.hid hb1; clear hb1
  go_wp2_with fail
  refine (M1.out _).mono ?_
  rintro e w2 ⟨x, hx, rfl, hb2⟩
  have HB2 := Lib.hid (HB1.out.trans (hb2.mono HB1.out.size)); clear hb2
  go_wp2_with fail
  refine (M2.out _).mono ?_
  rintro e w3 ⟨y, hy, rfl, hb3⟩
  have HB3 := Lib.hid (HB2.out.trans (hb3.mono HB2.out.size)); clear hb3
  go_wp2_with fail
  refine (M3.out _).mono ?_
  rintro e w4 ⟨z, hz, rfl, hb4⟩
  have HB4 := Lib.hid (HB3.out.trans (hb4.mono HB3.out.size)); clear hb4
  have lx := Made.ok hx (by omega); have ly := Made.ok hy (by omega); have lz := Made.ok hz (by omega)
  have l0 : (0 : Int).natAbs < 10 ^ 200 := by decide
  obtain ⟨G, hG⟩ : ∃ G, G = Nat.gcd x.natAbs y.natAbs := ⟨_, rfl⟩
  obtain ⟨g, eg⟩ : ∃ v : Int, v = (G : Int) := ⟨_, rfl⟩
  have gG : G < 10 ^ 40 := by
    rcases Nat.eq_zero_or_pos x.natAbs with h | h
    · rw [hG, h, Nat.gcd_zero_left]; exact hy
    · have := Nat.gcd_le_left y.natAbs h; omega
  have gg : g.natAbs < 10 ^ 40 := by omega
  have lg := lt200 gg (by omega)
  have C1 := Lib.hid fun W => gcd_zz x y W lx ly g (by rw [eg, hG]) lg
  have C2 := Lib.hid fun W => gcd_zz y x W ly lx g (by rw [eg, hG, Nat.gcd_comm]) lg
  obtain ⟨c3, e3⟩ : ∃ v : Int, v = ordI g 0 := ⟨_, rfl⟩
  have h3 : 0 ≤ c3 := by rw [e3]; unfold ordI; rw [if_neg (by omega)]; split <;> omega
  have C3' := fun W => cmp_zz g 0 W lg l0 c3 e3
  rw [zS_zero] at C3'
  have C3 := Lib.hid C3'
  clear C3' e3
  by_cases h0 : x = 0 ∧ y = 0
  · have hqx := is0 x true (by simp [h0.1])
    have hqy := is0 y true (by simp [h0.2])
    have hqg := is0 g true (by rw [eg, hG, h0.1, h0.2]; decide)
    clear hx hy hz lx ly lz l0 gG gg lg eg hG h0
    go_wp2_with fail
    refine (C1.out _).mono ?_
    rintro e w5 ⟨rfl, hb5⟩
    have HB5 := Lib.hid (HB4.out.trans (hb5.mono HB4.out.size)); clear hb5
    go_wp2_with fail
    refine (C2.out _).mono ?_
    rintro e w6 ⟨rfl, hb6⟩
    have HB6 := Lib.hid (HB5.out.trans (hb6.mono HB5.out.size)); clear hb6
    go_wp2_with fail
    refine (C3.out _).mono ?_
    rintro e w7 ⟨rfl, hb7⟩
    have HB7 := Lib.hid (HB6.out.trans (hb7.mono HB6.out.size)); clear hb7
    go_wp2_with fail
    go_ret
    exact ⟨rfl, HB7.out⟩
  · have hG0 : 0 < G := by
      rcases Nat.eq_zero_or_pos G with h | h
      · rw [hG, Nat.gcd_eq_zero_iff] at h; exact absurd ⟨by omega, by omega⟩ h0
      · exact h
    have hg0 : g ≠ 0 := by omega
    obtain ⟨dx1, dx2⟩ := abs_div_gcd (x := x) hG0 (by rw [hG]; exact Nat.gcd_dvd_left _ _)
    obtain ⟨dy1, dy2⟩ := abs_div_gcd (x := y) hG0 (by rw [hG]; exact Nat.gcd_dvd_right _ _)
    rw [← eg] at dx1 dx2 dy1 dy2
    obtain ⟨p, ep⟩ : ∃ v : Int, v = x / g := ⟨_, rfl⟩
    obtain ⟨q, eq⟩ : ∃ v : Int, v = y / g := ⟨_, rfl⟩
    rw [← ep] at dx1
    rw [← eq] at dy1
    have lp : p.natAbs < 10 ^ 200 := by rw [dx1]; exact Nat.lt_of_le_of_lt (Nat.div_le_self _ _) lx
    have lq : q.natAbs < 10 ^ 200 := by rw [dy1]; exact Nat.lt_of_le_of_lt (Nat.div_le_self _ _) ly
    have hone : (1 : Int) = (Nat.gcd p.natAbs q.natAbs : Nat) := by
      rw [dx1, dy1, Nat.gcd_div (by rw [hG]; exact Nat.gcd_dvd_left _ _) (by rw [hG]; exact Nat.gcd_dvd_right _ _), ← hG, Nat.div_self hG0]; rfl
    obtain ⟨xz, exz⟩ : ∃ v : Int, v = x * z := ⟨_, rfl⟩
    have lxz : xz.natAbs < 10 ^ 200 := by rw [exz]; exact lt200 (abs_mul hx hz) (by omega)
    obtain ⟨yz, eyz⟩ : ∃ v : Int, v = y * z := ⟨_, rfl⟩
    have lyz : yz.natAbs < 10 ^ 200 := by rw [eyz]; exact lt200 (abs_mul hy hz) (by omega)
    obtain ⟨gz, egz⟩ : ∃ v : Int, v = g * z := ⟨_, rfl⟩
    have lgz : gz.natAbs < 10 ^ 200 := by rw [egz]; exact lt200 (abs_mul gg hz) (by omega)
    obtain ⟨u, eu⟩ : ∃ v : Int, v = ((gz.natAbs : Nat) : Int) := ⟨_, rfl⟩
    have lu : u.natAbs < 10 ^ 200 := by omega
    have hall : u = (Nat.gcd xz.natAbs yz.natAbs : Nat) := by
      rw [eu, exz, eyz, egz, eg, Int.natAbs_mul, Int.natAbs_mul, Int.natAbs_mul, Nat.gcd_mul_right, ← hG, Int.natAbs_natCast]
    have C4 := Lib.hid fun W => div_zz x g W lx lg p 0 hg0 ep dx2.symm
    have C5 := Lib.hid fun W => div_zz y g W ly lg q 0 hg0 eq dy2.symm
    have C6 := Lib.hid fun W => gcd_zz p q W lp lq 1 hone (by decide)
    have C7 := Lib.hid fun W => mul_zz x z W lx lz xz exz lxz
    have C8 := Lib.hid fun W => mul_zz y z W ly lz yz eyz lyz
    have C9 := Lib.hid fun W => gcd_zz xz yz W lxz lyz u hall lu
    have C10 := Lib.hid fun W => mul_zz g z W lg lz gz egz lgz
    rw [zS_zero] at C4 C5
    unfold OkZ at C6
    rw [zS_one] at C6
    have hh : (x = 0 ∧ y ≠ 0) ∨ x ≠ 0 := by
      by_cases h : x = 0
      · exact .inl ⟨h, fun h2 => h0 ⟨h, h2⟩⟩
      · exact .inr h
    have hb : (∃ t : Bool, ((zS x).toList == [48]) = true ∧ ((zS y).toList == [48]) = false) ∨ ((zS x).toList == [48]) = false := by
      rcases hh with ⟨h1, h2⟩ | h1
      · exact .inl ⟨true, is0 x true (by simp [h1]), is0 y false (by simp [h2])⟩
      · exact .inr (is0 x false (by simp [h1]))
    have hs : (gz < 0 ∧ (Hid (∀ W, Calls Try.prog 31 #[.string (zS gz), .string ⟨#[48]⟩] W fun e w' => e = .returned (.int .i64 (-1)) ∧ Below W.heap.size W w')) ∧ (Hid (∀ W, Calls Try.prog 17 #[.string ⟨#[48]⟩, .string (zS gz)] W (OkZ u W)))) ∨ (u = gz ∧ ∃ c : Int, 0 ≤ c ∧ Hid (∀ W, Calls Try.prog 31 #[.string (zS gz), .string ⟨#[48]⟩] W fun e w' => e = .returned (.int .i64 c) ∧ Below W.heap.size W w')) := by
      rcases Int.lt_or_le gz 0 with h | h
      · refine .inl ⟨h, ?_, ?_⟩
        · have := fun W => cmp_zz gz 0 W lgz l0 (-1) (by rw [ordI_lt h])
          rw [zS_zero] at this; exact this
        · have := fun W => sub_zz 0 gz W l0 lgz u (by omega) lu
          rw [zS_zero] at this; exact this
      · refine .inr ⟨by omega, ordI gz 0, by unfold ordI; rw [if_neg (by omega)]; split <;> omega, ?_⟩
        have := fun W => cmp_zz gz 0 W lgz l0 _ rfl
        rw [zS_zero] at this; exact this
    clear hx hy hz lx ly lz l0 gG gg lg eg hG h0 hG0 hg0 dx1 dx2 dy1 dy2 ep eq lp lq hone exz lxz eyz lyz egz lgz eu lu hall hh
    rcases hb with ⟨-, hq1, hq2⟩ | hq1
    all_goals
      rcases hs with ⟨-, C11, C12⟩ | ⟨rfl, c, hc0, C11⟩
      · go_wp2_with fail
        refine (C1.out _).mono ?_
        rintro e w5 ⟨rfl, hb5⟩
        have HB5 := Lib.hid (HB4.out.trans (hb5.mono HB4.out.size)); clear hb5
        go_wp2_with fail
        refine (C2.out _).mono ?_
        rintro e w6 ⟨rfl, hb6⟩
        have HB6 := Lib.hid (HB5.out.trans (hb6.mono HB5.out.size)); clear hb6
        go_wp2_with fail
        refine (C3.out _).mono ?_
        rintro e w7 ⟨rfl, hb7⟩
        have HB7 := Lib.hid (HB6.out.trans (hb7.mono HB6.out.size)); clear hb7
        go_wp2_with fail
        refine (C4.out _).mono ?_
        rintro e w8 ⟨rfl, hb8⟩
        have HB8 := Lib.hid (HB7.out.trans (hb8.mono HB7.out.size)); clear hb8
        go_wp2_with fail
        refine (C5.out _).mono ?_
        rintro e w9 ⟨rfl, hb9⟩
        have HB9 := Lib.hid (HB8.out.trans (hb9.mono HB8.out.size)); clear hb9
        go_wp2_with fail
        refine (C6.out _).mono ?_
        rintro e w10 ⟨rfl, hb10⟩
        have HB10 := Lib.hid (HB9.out.trans (hb10.mono HB9.out.size)); clear hb10
        go_wp2_with fail
        refine (C7.out _).mono ?_
        rintro e w11 ⟨rfl, hb11⟩
        have HB11 := Lib.hid (HB10.out.trans (hb11.mono HB10.out.size)); clear hb11
        go_wp2_with fail
        refine (C8.out _).mono ?_
        rintro e w12 ⟨rfl, hb12⟩
        have HB12 := Lib.hid (HB11.out.trans (hb12.mono HB11.out.size)); clear hb12
        go_wp2_with fail
        refine (C9.out _).mono ?_
        rintro e w13 ⟨rfl, hb13⟩
        have HB13 := Lib.hid (HB12.out.trans (hb13.mono HB12.out.size)); clear hb13
        go_wp2_with fail
        refine (C10.out _).mono ?_
        rintro e w14 ⟨rfl, hb14⟩
        have HB14 := Lib.hid (HB13.out.trans (hb14.mono HB13.out.size)); clear hb14
        go_wp2_with fail
        refine (C11.out _).mono ?_
        rintro e w15 ⟨rfl, hb15⟩
        have HB15 := Lib.hid (HB14.out.trans (hb15.mono HB14.out.size)); clear hb15
        go_wp2_with fail
        refine (C12.out _).mono ?_
        rintro e w16 ⟨rfl, hb16⟩
        have HB16 := Lib.hid (HB15.out.trans (hb16.mono HB15.out.size)); clear hb16
        go_wp2_with fail
        go_ret
        exact ⟨rfl, HB16.out⟩
      · go_wp2_with fail
        refine (C1.out _).mono ?_
        rintro e w5 ⟨rfl, hb5⟩
        have HB5 := Lib.hid (HB4.out.trans (hb5.mono HB4.out.size)); clear hb5
        go_wp2_with fail
        refine (C2.out _).mono ?_
        rintro e w6 ⟨rfl, hb6⟩
        have HB6 := Lib.hid (HB5.out.trans (hb6.mono HB5.out.size)); clear hb6
        go_wp2_with fail
        refine (C3.out _).mono ?_
        rintro e w7 ⟨rfl, hb7⟩
        have HB7 := Lib.hid (HB6.out.trans (hb7.mono HB6.out.size)); clear hb7
        go_wp2_with fail
        refine (C4.out _).mono ?_
        rintro e w8 ⟨rfl, hb8⟩
        have HB8 := Lib.hid (HB7.out.trans (hb8.mono HB7.out.size)); clear hb8
        go_wp2_with fail
        refine (C5.out _).mono ?_
        rintro e w9 ⟨rfl, hb9⟩
        have HB9 := Lib.hid (HB8.out.trans (hb9.mono HB8.out.size)); clear hb9
        go_wp2_with fail
        refine (C6.out _).mono ?_
        rintro e w10 ⟨rfl, hb10⟩
        have HB10 := Lib.hid (HB9.out.trans (hb10.mono HB9.out.size)); clear hb10
        go_wp2_with fail
        refine (C7.out _).mono ?_
        rintro e w11 ⟨rfl, hb11⟩
        have HB11 := Lib.hid (HB10.out.trans (hb11.mono HB10.out.size)); clear hb11
        go_wp2_with fail
        refine (C8.out _).mono ?_
        rintro e w12 ⟨rfl, hb12⟩
        have HB12 := Lib.hid (HB11.out.trans (hb12.mono HB11.out.size)); clear hb12
        go_wp2_with fail
        refine (C9.out _).mono ?_
        rintro e w13 ⟨rfl, hb13⟩
        have HB13 := Lib.hid (HB12.out.trans (hb13.mono HB12.out.size)); clear hb13
        go_wp2_with fail
        refine (C10.out _).mono ?_
        rintro e w14 ⟨rfl, hb14⟩
        have HB14 := Lib.hid (HB13.out.trans (hb14.mono HB13.out.size)); clear hb14
        go_wp2_with fail
        refine (C11.out _).mono ?_
        rintro e w15 ⟨rfl, hb15⟩
        have HB15 := Lib.hid (HB14.out.trans (hb15.mono HB14.out.size)); clear hb15
        go_wp2_with fail
        go_ret
        exact ⟨rfl, HB15.out⟩
end Go.Proofs.Ytgpppjfgdbloiaa
