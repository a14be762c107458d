/- The contract of IntegerRoot. Condition: a string's length is an int's. -/
import Derived.Test.YtgpppjfgdbloiaaDvd
namespace Go.Proofs.Ytgpppjfgdbloiaa
open Go.RowKit Go.Lib

theorem root_sq (x : Int) : IsRoot (x * x).natAbs x.natAbs := by
  unfold IsRoot
  rw [Int.natAbs_mul]
  refine ⟨Nat.le_refl _, ?_⟩
  have : (x.natAbs + 1) * (x.natAbs + 1) = x.natAbs * x.natAbs + 2 * x.natAbs + 1 := by grind
  omega
set_option maxRecDepth 100000 in
set_option maxHeartbeats 4000000 in
theorem root_law (a : ByteArray) (w : World) (ha : a.size ≤ 9223372036854775807) :
    Calls Try.prog 9 #[.string a] w fun e w' => e = .returned (.bool true) ∧ Below w.heap.size w w' := by
  have M1 := Lib.hid fun W => made_any a 80 W ha (by omega)
  go_enter Try.func9, Try.ntmps9
  go_wp2_with fail
  refine (sane_any _).mono ?_
  rintro e w1 ⟨rfl, hb1⟩
  have HB1 := Lib.hid hb1; clear hb1
  go_wp2_with fail
  refine (M1.out _).mono ?_
  rintro e w2 ⟨x, hx, rfl, hb2⟩
  have HB2 := Lib.hid (HB1.out.trans (hb2.mono HB1.out.size)); clear hb2
  have lx := Made.ok hx (by omega)
  have l1 : (1 : Int).natAbs < 10 ^ 200 := by decide
  have l0 : (0 : Int).natAbs < 10 ^ 200 := by decide
  obtain ⟨sq, esq⟩ : ∃ v : Int, v = x * x := ⟨_, rfl⟩
  have gsq : sq.natAbs < 10 ^ 160 := by rw [esq]; exact abs_mul hx hx
  have lsq := lt200 gsq (by omega)
  obtain ⟨s, es⟩ : ∃ v : Int, v = ((x.natAbs : Nat) : Int) := ⟨_, rfl⟩
  have ls : s.natAbs < 10 ^ 200 := by omega
  have C2 := Lib.hid fun W => mul_zz x x W lx lx sq esq lsq
  have hsq0 : 0 ≤ sq := by
    rw [esq]
    rcases Int.le_total 0 x with h | h
    · exact Int.mul_nonneg h h
    · exact Int.mul_nonneg_of_nonpos_of_nonpos h h
  have C3' := fun W => root_zz sq W lsq x.natAbs hsq0 (by rw [esq]; exact root_sq x)
  rw [← es] at C3'
  have C3 := Lib.hid C3'
  clear C3'
  rcases Int.lt_or_le x 0 with hneg | hpos
  · have C1 := Lib.hid fun W => root_zn x W lx hneg
    have C4 := Lib.hid fun W => add_zz s x W ls lx 0 (by omega) l0
    have C5 := Lib.hid fun W => cmp_zz x 0 W lx l0 (-1) (by rw [ordI_lt hneg])
    have hq := zS_beq s x false (by symm; rw [decide_eq_false_iff_not]; omega)
    unfold OkZ at C4
    rw [zS_zero] at C4 C5
    clear hx lx l1 l0 esq gsq lsq es ls hsq0 hneg
    go_wp2_with fail
    refine (C1.out _).mono ?_
    rintro e w3 ⟨rfl, hb3⟩
    have HB3 := Lib.hid (HB2.out.trans (hb3.mono HB2.out.size)); clear hb3
    go_wp2_with fail
    refine (C2.out _).mono ?_
    rintro e w4 ⟨rfl, hb4⟩
    have HB4 := Lib.hid (HB3.out.trans (hb4.mono HB3.out.size)); clear hb4
    go_wp2_with fail
    refine (C3.out _).mono ?_
    rintro e w5 ⟨rfl, hb5⟩
    have HB5 := Lib.hid (HB4.out.trans (hb5.mono HB4.out.size)); clear hb5
    go_wp2_with fail
    refine (C4.out _).mono ?_
    rintro e w6 ⟨rfl, hb6⟩
    have HB6 := Lib.hid (HB5.out.trans (hb6.mono HB5.out.size)); clear hb6
    go_wp2_with fail
    refine (C5.out _).mono ?_
    rintro e w7 ⟨rfl, hb7⟩
    have HB7 := Lib.hid (HB6.out.trans (hb7.mono HB6.out.size)); clear hb7
    go_wp2_with fail
    go_ret
    exact ⟨rfl, HB7.out⟩
  · obtain rfl : s = x := by omega
    obtain ⟨m, hm⟩ := root_exists s.natAbs
    have hms : (m : Int) * m ≤ s ∧ s < ((m : Int) + 1) * (m + 1) := by
      have h1 := hm.1; have h2 := hm.2
      have h3 : ((m * m : Nat) : Int) ≤ (s.natAbs : Nat) := by exact_mod_cast h1
      have h4 : ((s.natAbs : Nat) : Int) < (((m + 1) * (m + 1) : Nat) : Int) := by exact_mod_cast h2
      rw [show ((s.natAbs : Nat) : Int) = s from by omega] at h3 h4
      exact ⟨by simpa using h3, by simpa using h4⟩
    obtain ⟨r, er⟩ : ∃ v : Int, v = (m : Int) := ⟨_, rfl⟩
    have hr0 : 0 ≤ r := by omega
    rw [← er] at hms
    have hrs : r ≤ s := by
      rcases Int.lt_or_le 0 r with h | h
      · have := Int.mul_le_mul_of_nonneg_left (show 1 ≤ r from h) hr0
        omega
      · omega
    have gr : r.natAbs < 10 ^ 80 := by omega
    have lr := lt200 gr (by omega)
    obtain ⟨lo, elo⟩ : ∃ v : Int, v = r * r := ⟨_, rfl⟩
    have llo : lo.natAbs < 10 ^ 200 := by rw [elo]; exact lt200 (abs_mul gr gr) (by omega)
    obtain ⟨nx, enx⟩ : ∃ v : Int, v = r + 1 := ⟨_, rfl⟩
    have gnx : nx.natAbs < 10 ^ 81 := by rw [enx]; exact abs_add gr (by decide)
    have lnx := lt200 gnx (by omega)
    obtain ⟨hi, ehi⟩ : ∃ v : Int, v = nx * nx := ⟨_, rfl⟩
    have lhi : hi.natAbs < 10 ^ 200 := by rw [ehi]; exact lt200 (abs_mul gnx gnx) (by omega)
    have C1' := fun W => root_zz s W lx m hpos hm
    rw [← er] at C1'
    have C1 := Lib.hid C1'
    obtain ⟨bk, ebk⟩ : ∃ v : Int, v = s + s := ⟨_, rfl⟩
    have lbk : bk.natAbs < 10 ^ 200 := by rw [ebk]; exact lt200 (abs_add hx hx) (by omega)
    have C4 := Lib.hid fun W => add_zz s s W lx lx bk ebk lbk
    obtain ⟨c5, e5⟩ : ∃ v : Int, v = ordI s 0 := ⟨_, rfl⟩
    have h5 : 0 ≤ c5 := by rw [e5]; unfold ordI; rw [if_neg (by omega)]; split <;> omega
    have C5 := Lib.hid fun W => cmp_zz s 0 W lx l0 c5 e5
    have C6 := Lib.hid fun W => mul_zz r r W lr lr lo elo llo
    have C7 := Lib.hid fun W => add_zz r 1 W lr l1 nx enx lnx
    have C8 := Lib.hid fun W => mul_zz nx nx W lnx lnx hi ehi lhi
    obtain ⟨c9, e9⟩ : ∃ v : Int, v = ordI lo s := ⟨_, rfl⟩
    have h9 : c9 ≤ 0 := by rw [e9]; unfold ordI; split <;> (try split) <;> omega
    have C9 := Lib.hid fun W => cmp_zz lo s W llo lx c9 e9
    have C10 := Lib.hid fun W => cmp_zz hi s W lhi lx 1 (by rw [ordI_gt (by rw [ehi, enx]; exact hms.2)])
    rw [zS_zero] at C5
    rw [zS_one] at C7
    clear C1' hx lx l1 l0 esq gsq lsq es ls hsq0 hpos hm hms er hr0 hrs gr lr elo llo enx gnx lnx ehi lhi ebk lbk e5 e9
    go_wp2_with fail
    refine (C1.out _).mono ?_
    rintro e w3 ⟨rfl, hb3⟩
    have HB3 := Lib.hid (HB2.out.trans (hb3.mono HB2.out.size)); clear hb3
    go_wp2_with fail
    refine (C2.out _).mono ?_
    rintro e w4 ⟨rfl, hb4⟩
    have HB4 := Lib.hid (HB3.out.trans (hb4.mono HB3.out.size)); clear hb4
    go_wp2_with fail
    refine (C3.out _).mono ?_
    rintro e w5 ⟨rfl, hb5⟩
    have HB5 := Lib.hid (HB4.out.trans (hb5.mono HB4.out.size)); clear hb5
    go_wp2_with fail
    refine (C4.out _).mono ?_
    rintro e w6 ⟨rfl, hb6⟩
    have HB6 := Lib.hid (HB5.out.trans (hb6.mono HB5.out.size)); clear hb6
    go_wp2_with fail
    refine (C5.out _).mono ?_
    rintro e w7 ⟨rfl, hb7⟩
    have HB7 := Lib.hid (HB6.out.trans (hb7.mono HB6.out.size)); clear hb7
    go_wp2_with fail
    refine (C6.out _).mono ?_
    rintro e w8 ⟨rfl, hb8⟩
    have HB8 := Lib.hid (HB7.out.trans (hb8.mono HB7.out.size)); clear hb8
    go_wp2_with fail
    refine (C7.out _).mono ?_
    rintro e w9 ⟨rfl, hb9⟩
    have HB9 := Lib.hid (HB8.out.trans (hb9.mono HB8.out.size)); clear hb9
    go_wp2_with fail
    refine (C8.out _).mono ?_
    rintro e w10 ⟨rfl, hb10⟩
    have HB10 := Lib.hid (HB9.out.trans (hb10.mono HB9.out.size)); clear hb10
    go_wp2_with fail
    refine (C9.out _).mono ?_
    rintro e w11 ⟨rfl, hb11⟩
    have HB11 := Lib.hid (HB10.out.trans (hb11.mono HB10.out.size)); clear hb11
    go_wp2_with fail
    refine (C10.out _).mono ?_
    rintro e w12 ⟨rfl, hb12⟩
    have HB12 := Lib.hid (HB11.out.trans (hb12.mono HB11.out.size)); clear hb12
    go_wp2_with fail
    go_ret
    exact ⟨rfl, HB12.out⟩
end Go.Proofs.Ytgpppjfgdbloiaa
