/- The statement TemplateFar. Conditions: three slices of ints that read, the tables. -/
import Derived.Test.YtmjcjaecaigahaaDoorLY
import Derived.Test.YtmjcjaecaigahaaDoorLZ
namespace Go.Proofs.YtmjcjaecaigahaaDoor
open Go.RowKit Go.Lib

/-- A list of directions as ints. -/
abbrev di8 (M : List Nat) : List Int := M.map Int.ofNat
theorem di8_ok {M : List Nat} (h : M.length ≤ 12) (h2 : ∀ x ∈ M, x < 8) : Ok8 (di8 M) := by
  refine ⟨by rw [List.length_map]; omega, fun x hx => ?_⟩
  obtain ⟨n, hn, rfl⟩ := List.mem_map.1 hx
  have := h2 n hn
  unfold Dr8
  simp only [Int.ofNat_eq_natCast]; omega
theorem drs8_lt (xs : List Int) {z : Int} (hz : 0 ≤ z) : ∀ x ∈ drs8 xs z, x < 8 := fun x hx => by
  obtain ⟨y, _, rfl⟩ := List.mem_map.1 hx
  exact dn8_lt y hz
theorem drs8_ok (xs : List Int) {z : Int} (hz : 0 ≤ z) : Ok8 (di8 (drs8 xs z)) := di8_ok (drs8_len xs z) (drs8_lt xs hz)
theorem drs8_rot (xs : List Int) {z : Int} (hz : 0 ≤ z ∧ z ≤ 7) : di8 (drs8 xs z) = (di8 (drs8 xs 0)).map fun x => (x + z) % 8 := by
  unfold di8 drs8
  rw [List.map_map, List.map_map, List.map_map]
  refine List.map_congr_left fun x _ => ?_
  have h := pk8_in x (n := 8) (by omega)
  simp only [Function.comp, dn8, Int.ofNat_eq_natCast]
  rw [Int.tmod_eq_emod_of_nonneg (by omega), Int.tmod_eq_emod_of_nonneg (by omega)]
  omega
theorem di8_inj {M N : List Nat} : di8 M = di8 N ↔ M = N := ⟨fun h => by
  have := congrArg (List.map Int.toNat) h
  simpa [List.map_map, Function.comp_def] using this, fun h => by rw [h]⟩
theorem fard8 (M N : List Nat) (A B : Option Addr) (c d : Nat) (w : World) (hA : Iz w A (di8 M)) (hB : Iz w B (di8 N)) (hM : Ok8 (di8 M)) (hN : Ok8 (di8 N)) : Yl 29 #[.slice A M.length c, .slice B N.length d] w (.int .i64 (far8 (di8 M) (di8 N))) := by
  have h := far8_yes (di8 M) (di8 N) A B c d w hA hB hM hN
  rwa [List.length_map, List.length_map] at h
theorem intd8 (M N : List Nat) (A B : Option Addr) (c d : Nat) (w : World) (hA : Iz w A (di8 M)) (hB : Iz w B (di8 N)) (hM : M.length ≤ 12) (hN : N.length ≤ 12) (t : Bool) (ht : t = decide (M = N)) : Yl 32 #[.slice A M.length c, .slice B N.length d] w (.bool t) := by
  have h := rints_any (di8 M) (di8 N) A B c d w hA hB (by rw [List.length_map]; omega) (by rw [List.length_map]; omega)
  rw [List.length_map, List.length_map] at h
  rw [ht]
  have e : decide (di8 M = di8 N) = decide (M = N) := by rw [decide_eq_decide]; exact di8_inj
  rwa [e] at h
set_option maxRecDepth 100000 in
set_option maxHeartbeats 32000000 in
theorem far8_law (xs ys zs : List Int) (A B C : Option Addr) (ca cb cc : Nat) (by_ : Int) (w : World) (hT : Tb8 w) (hA : Iz w A xs) (hB : Iz w B ys) (hC : Iz w C zs) (hx : ∀ x ∈ xs, I8 x) (hy : ∀ x ∈ ys, I8 x) (hz : ∀ x ∈ zs, I8 x)
    (lx : xs.length ≤ 9223372036854775807) (ly : ys.length ≤ 9223372036854775807) (lz : zs.length ≤ 9223372036854775807) (hby : I8 by_) : Yl 4 #[.slice A xs.length ca, .slice B ys.length cb, .slice C zs.length cc, .int .i64 by_] w (.bool true) := by
  have hr := pk8_in by_ (n := 8) (by omega)
  have HX := Lib.hid (fun r W (h : 0 ≤ r ∧ r ≤ 7) (hi : Iz W A xs) => directions_any xs A ca r W hi hx lx h)
  have HY := Lib.hid (fun r W (h : 0 ≤ r ∧ r ≤ 7) (hi : Iz W B ys) => directions_any ys B cb r W hi hy ly h)
  have HZ := Lib.hid (fun r W (h : 0 ≤ r ∧ r ≤ 7) (hi : Iz W C zs) => directions_any zs C cc r W hi hz lz h)
  have HPK := Lib.hid (fun W => lpick8_any by_ 8 W hby (by omega))
  have ox := drs8_ok xs (z := 0) (by omega); have oy := drs8_ok ys (z := 0) (by omega); have oz := drs8_ok zs (z := 0) (by omega)
  have rx := drs8_rot xs (z := pk8 by_ 8) (by omega); have ry := drs8_rot ys (z := pk8 by_ 8) (by omega)
  have o2 := drs8_ok xs (z := pk8 by_ 8) hr.1; have o3 := drs8_ok ys (z := pk8 by_ 8) hr.1
  obtain ⟨r, hrr⟩ : ∃ r, r = pk8 by_ 8 := ⟨_, rfl⟩
  rw [← hrr] at hr HPK rx ry o2 o3
  have l1 := drs8_len xs 0; have l2 := drs8_len ys 0
  have lr1 := drs8_len xs r; have lr2 := drs8_len ys r
  obtain ⟨M, hM⟩ : ∃ M, M = drs8 xs 0 := ⟨_, rfl⟩
  obtain ⟨N, hN⟩ : ∃ N, N = drs8 ys 0 := ⟨_, rfl⟩
  obtain ⟨K, hK⟩ : ∃ K, K = drs8 zs 0 := ⟨_, rfl⟩
  obtain ⟨M2, hM2⟩ : ∃ M2, M2 = drs8 xs r := ⟨_, rfl⟩
  obtain ⟨N2, hN2⟩ : ∃ N2, N2 = drs8 ys r := ⟨_, rfl⟩
  have HX0 := Lib.hid (fun W (hi : Iz W A xs) => HX.out 0 W (by omega) hi); have HX1 := Lib.hid (fun W (hi : Iz W A xs) => HX.out r W (by omega) hi)
  have HY0 := Lib.hid (fun W (hi : Iz W B ys) => HY.out 0 W (by omega) hi); have HY1 := Lib.hid (fun W (hi : Iz W B ys) => HY.out r W (by omega) hi)
  have HZ0 := Lib.hid (fun W (hi : Iz W C zs) => HZ.out 0 W (by omega) hi)
  rw [← hM] at HX0 ox rx l1; rw [← hN] at HY0 oy ry l2; rw [← hK] at HZ0 oz; rw [← hM2] at HX1 o2 rx lr1; rw [← hN2] at HY1 o3 ry lr2
  have f0 := (far8_zero (a := di8 M) (b := di8 N) ox.2 oy.2).trans di8_inj
  have f1 := far8_comm (di8 N) (di8 M)
  have f2 := far8_tri ox.2 oy.2 oz.2
  have f3 : far8 (di8 M2) (di8 N2) = far8 (di8 M) (di8 N) := by rw [rx, ry]; exact far8_rot r (by unfold Dr8; omega) ox.2 oy.2
  have f4 := far8_bd ox.2 oy.2
  have f5 := far8_bd ox.2 oz.2
  have f6 := far8_bd oz.2 oy.2
  rw [List.length_map, List.length_map] at f4 f5 f6
  have l3 : K.length ≤ 12 := by rw [hK]; exact drs8_len zs 0
  have HFA := Lib.hid (fun A B c d W (h1 : Iz W A (di8 M)) (h2 : Iz W B (di8 N)) => fard8 M N A B c d W h1 h2 ox oy)
  have HFB := Lib.hid (fun A B c d W (h1 : Iz W A (di8 N)) (h2 : Iz W B (di8 M)) => fard8 N M A B c d W h1 h2 oy ox)
  have HFC := Lib.hid (fun A B c d W (h1 : Iz W A (di8 M)) (h2 : Iz W B (di8 K)) => fard8 M K A B c d W h1 h2 ox oz)
  have HFD := Lib.hid (fun A B c d W (h1 : Iz W A (di8 K)) (h2 : Iz W B (di8 N)) => fard8 K N A B c d W h1 h2 oz oy)
  have HFE := Lib.hid (fun A B c d W (h1 : Iz W A (di8 M2)) (h2 : Iz W B (di8 N2)) => fard8 M2 N2 A B c d W h1 h2 o2 o3)
  have HIN := Lib.hid (fun A B c d W (h1 : Iz W A (di8 M)) (h2 : Iz W B (di8 N)) t ht => intd8 M N A B c d W h1 h2 l1 l2 t ht)
  rw [f1] at HFB; rw [f3] at HFE
  obtain ⟨ab, hab⟩ : ∃ ab, ab = far8 (di8 M) (di8 N) := ⟨_, rfl⟩
  obtain ⟨ac, hac⟩ : ∃ ac, ac = far8 (di8 M) (di8 K) := ⟨_, rfl⟩
  obtain ⟨cb2, hcb⟩ : ∃ cb2, cb2 = far8 (di8 K) (di8 N) := ⟨_, rfl⟩
  rw [← hab] at HFA HFB HFE f0 f2 f4; rw [← hac] at HFC f2 f5; rw [← hcb] at HFD f2 f6
  have e1 : IntKind.i64.wrap (ac + cb2) = ac + cb2 := IntWalk.i64_in _ (by omega)
  have e2 : IntKind.i64.wrap ((M.length : Int) + (N.length : Int)) = (M.length : Int) + (N.length : Int) := IntWalk.i64_in _ (by omega)
  have e3 : IntKind.i64.wrap (3 * ((M.length : Int) + (N.length : Int))) = 3 * ((M.length : Int) + (N.length : Int)) := IntWalk.i64_in _ (by omega)
  have e4 : IntKind.i64.wrap ((M.length : Int) - (N.length : Int)) = (M.length : Int) - (N.length : Int) := IntWalk.i64_in _ (by omega)
  have e5 : IntKind.i64.wrap ((N.length : Int) - (M.length : Int)) = (N.length : Int) - (M.length : Int) := IntWalk.i64_in _ (by omega)
  have e6 : IntKind.i64.wrap (3 * ((M.length : Int) - (N.length : Int))) = 3 * ((M.length : Int) - (N.length : Int)) := IntWalk.i64_in _ (by omega)
  have e7 : IntKind.i64.wrap (3 * ((N.length : Int) - (M.length : Int))) = 3 * ((N.length : Int) - (M.length : Int)) := IntWalk.i64_in _ (by omega)
  have w6 : wrap64 (3 * ((M.length : Int) - (N.length : Int))) = 3 * ((M.length : Int) - (N.length : Int)) := IntWalk.wrap64_in _ ⟨by omega, by omega⟩
  have w7 : wrap64 (3 * ((N.length : Int) - (M.length : Int))) = 3 * ((N.length : Int) - (M.length : Int)) := IntWalk.wrap64_in _ ⟨by omega, by omega⟩
  have g0 : ¬ ab < 0 := by omega
  have g1 : ¬ ac + cb2 < ab := by omega
  have g2 : ab ≤ 3 * ((M.length : Int) + (N.length : Int)) := f4.2
  have g3 : 3 * ((M.length : Int) - (N.length : Int)) ≤ ab := f4.1.1
  have g4 : 3 * ((N.length : Int) - (M.length : Int)) ≤ ab := f4.1.2
  have E1 := Lib.hid e1; have W6 := Lib.hid (And.intro w6 w7); have E2 := Lib.hid (And.intro e2 e3); have E3 := Lib.hid (And.intro (And.intro e4 e5) (And.intro e6 e7)); have G := Lib.hid (And.intro (And.intro g0 g1) (And.intro g2 (And.intro g3 g4)))
  have F0 := Lib.hid f0
  clear HX HY HZ hx hy hz lx ly lz hby hr ox oy oz rx ry o2 o3 hrr l1 l2 l3 lr1 lr2 hM hN hK hM2 hN2 f0 f1 f2 f3 f4 f5 f6 hab hac hcb e1 e2 e3 e4 e5 e6 e7 w6 w7 g0 g1 g2 g3 g4
  have HB_0 : Hid (Below w.heap.size w w) := Lib.hid (Below.refl w.heap.size w)
  have TB_0 : Hid (Tb8 w) := Lib.hid hT
  have IA_0 : Hid (Iz w A xs) := Lib.hid hA
  have IB_0 : Hid (Iz w B ys) := Lib.hid hB
  have IC_0 : Hid (Iz w C zs) := Lib.hid hC
  clear hT hA hB hC
  go_enter Tryd.func4, Tryd.ntmps4
  go_wp2_with fail
  refine (sane8_any _ TB_0.out).mono ?_
  rintro e v0 ⟨rfl, hb⟩
  have TB_1 : Hid (Tb8 v0) := Lib.hid (TB_0.out.below hb (Nat.le_refl _))
  have IA_1 : Hid (Iz v0 A xs) := Lib.hid (IA_0.out.below hb (Nat.le_refl _))
  have IB_1 : Hid (Iz v0 B ys) := Lib.hid (IB_0.out.below hb (Nat.le_refl _))
  have IC_1 : Hid (Iz v0 C zs) := Lib.hid (IC_0.out.below hb (Nat.le_refl _))
  clear TB_0 IA_0 IB_0 IC_0
  have HB_1 : Hid (Below w.heap.size w v0) := Lib.hid (HB_0.out.trans (hb.mono HB_0.out.size))
  clear hb HB_0
  go_wp2_with fail
  refine (HX0.out _ IA_1.out).mono ?_
  rintro e v1 ⟨⟨Am, cm, rfl, him⟩, hb⟩
  have Im_1 := Lib.hid him
  have TB_2 : Hid (Tb8 v1) := Lib.hid (TB_1.out.below hb (Nat.le_refl _))
  have IA_2 : Hid (Iz v1 A xs) := Lib.hid (IA_1.out.below hb (Nat.le_refl _))
  have IB_2 : Hid (Iz v1 B ys) := Lib.hid (IB_1.out.below hb (Nat.le_refl _))
  have IC_2 : Hid (Iz v1 C zs) := Lib.hid (IC_1.out.below hb (Nat.le_refl _))
  have Im_2 : Hid (Iz v1 Am (di8 M)) := Lib.hid Im_1.out
  clear TB_1 IA_1 IB_1 IC_1 Im_1
  have HB_2 : Hid (Below w.heap.size w v1) := Lib.hid (HB_1.out.trans (hb.mono HB_1.out.size))
  clear hb HB_1
  clear him
  go_wp2_with fail
  refine (HY0.out _ IB_2.out).mono ?_
  rintro e v2 ⟨⟨An, cn, rfl, hin⟩, hb⟩
  have In_2 := Lib.hid hin
  have TB_3 : Hid (Tb8 v2) := Lib.hid (TB_2.out.below hb (Nat.le_refl _))
  have IA_3 : Hid (Iz v2 A xs) := Lib.hid (IA_2.out.below hb (Nat.le_refl _))
  have IB_3 : Hid (Iz v2 B ys) := Lib.hid (IB_2.out.below hb (Nat.le_refl _))
  have IC_3 : Hid (Iz v2 C zs) := Lib.hid (IC_2.out.below hb (Nat.le_refl _))
  have Im_3 : Hid (Iz v2 Am (di8 M)) := Lib.hid (Im_2.out.below hb (Nat.le_refl _))
  have In_3 : Hid (Iz v2 An (di8 N)) := Lib.hid In_2.out
  clear TB_2 IA_2 IB_2 IC_2 Im_2 In_2
  have HB_3 : Hid (Below w.heap.size w v2) := Lib.hid (HB_2.out.trans (hb.mono HB_2.out.size))
  clear hb HB_2
  clear hin
  go_wp2_with fail
  refine (HZ0.out _ IC_3.out).mono ?_
  rintro e v3 ⟨⟨Ak, ck, rfl, hik⟩, hb⟩
  have Ik_3 := Lib.hid hik
  have TB_4 : Hid (Tb8 v3) := Lib.hid (TB_3.out.below hb (Nat.le_refl _))
  have IA_4 : Hid (Iz v3 A xs) := Lib.hid (IA_3.out.below hb (Nat.le_refl _))
  have IB_4 : Hid (Iz v3 B ys) := Lib.hid (IB_3.out.below hb (Nat.le_refl _))
  have IC_4 : Hid (Iz v3 C zs) := Lib.hid (IC_3.out.below hb (Nat.le_refl _))
  have Im_4 : Hid (Iz v3 Am (di8 M)) := Lib.hid (Im_3.out.below hb (Nat.le_refl _))
  have In_4 : Hid (Iz v3 An (di8 N)) := Lib.hid (In_3.out.below hb (Nat.le_refl _))
  have Ik_4 : Hid (Iz v3 Ak (di8 K)) := Lib.hid Ik_3.out
  clear TB_3 IA_3 IB_3 IC_3 Im_3 In_3 Ik_3
  have HB_4 : Hid (Below w.heap.size w v3) := Lib.hid (HB_3.out.trans (hb.mono HB_3.out.size))
  clear hb HB_3
  clear hik
  go_wp2_with fail
  refine (HFA.out Am An cm cn _ Im_4.out In_4.out).mono ?_
  rintro e v4 ⟨rfl, hb⟩
  have TB_5 : Hid (Tb8 v4) := Lib.hid (TB_4.out.below hb (Nat.le_refl _))
  have IA_5 : Hid (Iz v4 A xs) := Lib.hid (IA_4.out.below hb (Nat.le_refl _))
  have IB_5 : Hid (Iz v4 B ys) := Lib.hid (IB_4.out.below hb (Nat.le_refl _))
  have IC_5 : Hid (Iz v4 C zs) := Lib.hid (IC_4.out.below hb (Nat.le_refl _))
  have Im_5 : Hid (Iz v4 Am (di8 M)) := Lib.hid (Im_4.out.below hb (Nat.le_refl _))
  have In_5 : Hid (Iz v4 An (di8 N)) := Lib.hid (In_4.out.below hb (Nat.le_refl _))
  have Ik_5 : Hid (Iz v4 Ak (di8 K)) := Lib.hid (Ik_4.out.below hb (Nat.le_refl _))
  clear TB_4 IA_4 IB_4 IC_4 Im_4 In_4 Ik_4
  have HB_5 : Hid (Below w.heap.size w v4) := Lib.hid (HB_4.out.trans (hb.mono HB_4.out.size))
  clear hb HB_4
  by_cases hmn : M = N
  case pos =>
    obtain rfl : ab = 0 := F0.out.2 hmn
    have HIT := Lib.hid (fun W h1 h2 => HIN.out Am An cm cn W h1 h2 true (decide_eq_true hmn).symm)
    clear F0 hmn
    have g0 := G.out.1.1
    go_wp2_with fail
    refine (HIT.out _ Im_5.out In_5.out).mono ?_
    rintro e v5 ⟨rfl, hb⟩
    have TB_6 : Hid (Tb8 v5) := Lib.hid (TB_5.out.below hb (Nat.le_refl _))
    have IA_6 : Hid (Iz v5 A xs) := Lib.hid (IA_5.out.below hb (Nat.le_refl _))
    have IB_6 : Hid (Iz v5 B ys) := Lib.hid (IB_5.out.below hb (Nat.le_refl _))
    have IC_6 : Hid (Iz v5 C zs) := Lib.hid (IC_5.out.below hb (Nat.le_refl _))
    have Im_6 : Hid (Iz v5 Am (di8 M)) := Lib.hid (Im_5.out.below hb (Nat.le_refl _))
    have In_6 : Hid (Iz v5 An (di8 N)) := Lib.hid (In_5.out.below hb (Nat.le_refl _))
    have Ik_6 : Hid (Iz v5 Ak (di8 K)) := Lib.hid (Ik_5.out.below hb (Nat.le_refl _))
    clear TB_5 IA_5 IB_5 IC_5 Im_5 In_5 Ik_5
    have HB_6 : Hid (Below w.heap.size w v5) := Lib.hid (HB_5.out.trans (hb.mono HB_5.out.size))
    clear hb HB_5
    go_wp2_with fail
    refine (HFB.out An Am cn cm _ In_6.out Im_6.out).mono ?_
    rintro e v6 ⟨rfl, hb⟩
    have TB_7 : Hid (Tb8 v6) := Lib.hid (TB_6.out.below hb (Nat.le_refl _))
    have IA_7 : Hid (Iz v6 A xs) := Lib.hid (IA_6.out.below hb (Nat.le_refl _))
    have IB_7 : Hid (Iz v6 B ys) := Lib.hid (IB_6.out.below hb (Nat.le_refl _))
    have IC_7 : Hid (Iz v6 C zs) := Lib.hid (IC_6.out.below hb (Nat.le_refl _))
    have Im_7 : Hid (Iz v6 Am (di8 M)) := Lib.hid (Im_6.out.below hb (Nat.le_refl _))
    have In_7 : Hid (Iz v6 An (di8 N)) := Lib.hid (In_6.out.below hb (Nat.le_refl _))
    have Ik_7 : Hid (Iz v6 Ak (di8 K)) := Lib.hid (Ik_6.out.below hb (Nat.le_refl _))
    clear TB_6 IA_6 IB_6 IC_6 Im_6 In_6 Ik_6
    have HB_7 : Hid (Below w.heap.size w v6) := Lib.hid (HB_6.out.trans (hb.mono HB_6.out.size))
    clear hb HB_6
    go_wp2_with fail
    refine (HFC.out Am Ak cm ck _ Im_7.out Ik_7.out).mono ?_
    rintro e v7 ⟨rfl, hb⟩
    have TB_8 : Hid (Tb8 v7) := Lib.hid (TB_7.out.below hb (Nat.le_refl _))
    have IA_8 : Hid (Iz v7 A xs) := Lib.hid (IA_7.out.below hb (Nat.le_refl _))
    have IB_8 : Hid (Iz v7 B ys) := Lib.hid (IB_7.out.below hb (Nat.le_refl _))
    have IC_8 : Hid (Iz v7 C zs) := Lib.hid (IC_7.out.below hb (Nat.le_refl _))
    have Im_8 : Hid (Iz v7 Am (di8 M)) := Lib.hid (Im_7.out.below hb (Nat.le_refl _))
    have In_8 : Hid (Iz v7 An (di8 N)) := Lib.hid (In_7.out.below hb (Nat.le_refl _))
    have Ik_8 : Hid (Iz v7 Ak (di8 K)) := Lib.hid (Ik_7.out.below hb (Nat.le_refl _))
    clear TB_7 IA_7 IB_7 IC_7 Im_7 In_7 Ik_7
    have HB_8 : Hid (Below w.heap.size w v7) := Lib.hid (HB_7.out.trans (hb.mono HB_7.out.size))
    clear hb HB_7
    go_wp2_with fail
    refine (HFD.out Ak An ck cn _ Ik_8.out In_8.out).mono ?_
    rintro e v8 ⟨rfl, hb⟩
    have TB_9 : Hid (Tb8 v8) := Lib.hid (TB_8.out.below hb (Nat.le_refl _))
    have IA_9 : Hid (Iz v8 A xs) := Lib.hid (IA_8.out.below hb (Nat.le_refl _))
    have IB_9 : Hid (Iz v8 B ys) := Lib.hid (IB_8.out.below hb (Nat.le_refl _))
    have IC_9 : Hid (Iz v8 C zs) := Lib.hid (IC_8.out.below hb (Nat.le_refl _))
    have Im_9 : Hid (Iz v8 Am (di8 M)) := Lib.hid (Im_8.out.below hb (Nat.le_refl _))
    have In_9 : Hid (Iz v8 An (di8 N)) := Lib.hid (In_8.out.below hb (Nat.le_refl _))
    have Ik_9 : Hid (Iz v8 Ak (di8 K)) := Lib.hid (Ik_8.out.below hb (Nat.le_refl _))
    clear TB_8 IA_8 IB_8 IC_8 Im_8 In_8 Ik_8
    have HB_9 : Hid (Below w.heap.size w v8) := Lib.hid (HB_8.out.trans (hb.mono HB_8.out.size))
    clear hb HB_8
    have g1 := G.out.1.2; have e1 := E1.out
    go_wp2_with fail
    refine (HPK.out _).mono ?_
    rintro e v9 ⟨rfl, hb⟩
    clear g1 e1
    have TB_10 : Hid (Tb8 v9) := Lib.hid (TB_9.out.below hb (Nat.le_refl _))
    have IA_10 : Hid (Iz v9 A xs) := Lib.hid (IA_9.out.below hb (Nat.le_refl _))
    have IB_10 : Hid (Iz v9 B ys) := Lib.hid (IB_9.out.below hb (Nat.le_refl _))
    have IC_10 : Hid (Iz v9 C zs) := Lib.hid (IC_9.out.below hb (Nat.le_refl _))
    have Im_10 : Hid (Iz v9 Am (di8 M)) := Lib.hid (Im_9.out.below hb (Nat.le_refl _))
    have In_10 : Hid (Iz v9 An (di8 N)) := Lib.hid (In_9.out.below hb (Nat.le_refl _))
    have Ik_10 : Hid (Iz v9 Ak (di8 K)) := Lib.hid (Ik_9.out.below hb (Nat.le_refl _))
    clear TB_9 IA_9 IB_9 IC_9 Im_9 In_9 Ik_9
    have HB_10 : Hid (Below w.heap.size w v9) := Lib.hid (HB_9.out.trans (hb.mono HB_9.out.size))
    clear hb HB_9
    go_wp2_with fail
    refine (HX1.out _ IA_10.out).mono ?_
    rintro e v10 ⟨⟨Ap, cp, rfl, hip⟩, hb⟩
    have Ip_10 := Lib.hid hip
    have TB_11 : Hid (Tb8 v10) := Lib.hid (TB_10.out.below hb (Nat.le_refl _))
    have IA_11 : Hid (Iz v10 A xs) := Lib.hid (IA_10.out.below hb (Nat.le_refl _))
    have IB_11 : Hid (Iz v10 B ys) := Lib.hid (IB_10.out.below hb (Nat.le_refl _))
    have IC_11 : Hid (Iz v10 C zs) := Lib.hid (IC_10.out.below hb (Nat.le_refl _))
    have Im_11 : Hid (Iz v10 Am (di8 M)) := Lib.hid (Im_10.out.below hb (Nat.le_refl _))
    have In_11 : Hid (Iz v10 An (di8 N)) := Lib.hid (In_10.out.below hb (Nat.le_refl _))
    have Ik_11 : Hid (Iz v10 Ak (di8 K)) := Lib.hid (Ik_10.out.below hb (Nat.le_refl _))
    have Ip_11 : Hid (Iz v10 Ap (di8 M2)) := Lib.hid Ip_10.out
    clear TB_10 IA_10 IB_10 IC_10 Im_10 In_10 Ik_10 Ip_10
    have HB_11 : Hid (Below w.heap.size w v10) := Lib.hid (HB_10.out.trans (hb.mono HB_10.out.size))
    clear hb HB_10
    clear hip
    go_wp2_with fail
    refine (HPK.out _).mono ?_
    rintro e v11 ⟨rfl, hb⟩
    have TB_12 : Hid (Tb8 v11) := Lib.hid (TB_11.out.below hb (Nat.le_refl _))
    have IA_12 : Hid (Iz v11 A xs) := Lib.hid (IA_11.out.below hb (Nat.le_refl _))
    have IB_12 : Hid (Iz v11 B ys) := Lib.hid (IB_11.out.below hb (Nat.le_refl _))
    have IC_12 : Hid (Iz v11 C zs) := Lib.hid (IC_11.out.below hb (Nat.le_refl _))
    have Im_12 : Hid (Iz v11 Am (di8 M)) := Lib.hid (Im_11.out.below hb (Nat.le_refl _))
    have In_12 : Hid (Iz v11 An (di8 N)) := Lib.hid (In_11.out.below hb (Nat.le_refl _))
    have Ik_12 : Hid (Iz v11 Ak (di8 K)) := Lib.hid (Ik_11.out.below hb (Nat.le_refl _))
    have Ip_12 : Hid (Iz v11 Ap (di8 M2)) := Lib.hid (Ip_11.out.below hb (Nat.le_refl _))
    clear TB_11 IA_11 IB_11 IC_11 Im_11 In_11 Ik_11 Ip_11
    have HB_12 : Hid (Below w.heap.size w v11) := Lib.hid (HB_11.out.trans (hb.mono HB_11.out.size))
    clear hb HB_11
    go_wp2_with fail
    refine (HY1.out _ IB_12.out).mono ?_
    rintro e v12 ⟨⟨Aq, cq, rfl, hiq⟩, hb⟩
    have Iq_12 := Lib.hid hiq
    have TB_13 : Hid (Tb8 v12) := Lib.hid (TB_12.out.below hb (Nat.le_refl _))
    have IA_13 : Hid (Iz v12 A xs) := Lib.hid (IA_12.out.below hb (Nat.le_refl _))
    have IB_13 : Hid (Iz v12 B ys) := Lib.hid (IB_12.out.below hb (Nat.le_refl _))
    have IC_13 : Hid (Iz v12 C zs) := Lib.hid (IC_12.out.below hb (Nat.le_refl _))
    have Im_13 : Hid (Iz v12 Am (di8 M)) := Lib.hid (Im_12.out.below hb (Nat.le_refl _))
    have In_13 : Hid (Iz v12 An (di8 N)) := Lib.hid (In_12.out.below hb (Nat.le_refl _))
    have Ik_13 : Hid (Iz v12 Ak (di8 K)) := Lib.hid (Ik_12.out.below hb (Nat.le_refl _))
    have Ip_13 : Hid (Iz v12 Ap (di8 M2)) := Lib.hid (Ip_12.out.below hb (Nat.le_refl _))
    have Iq_13 : Hid (Iz v12 Aq (di8 N2)) := Lib.hid Iq_12.out
    clear TB_12 IA_12 IB_12 IC_12 Im_12 In_12 Ik_12 Ip_12 Iq_12
    have HB_13 : Hid (Below w.heap.size w v12) := Lib.hid (HB_12.out.trans (hb.mono HB_12.out.size))
    clear hb HB_12
    clear hiq
    go_wp2_with fail
    refine (HFE.out Ap Aq cp cq _ Ip_13.out Iq_13.out).mono ?_
    rintro e v13 ⟨rfl, hb⟩
    have TB_14 : Hid (Tb8 v13) := Lib.hid (TB_13.out.below hb (Nat.le_refl _))
    have IA_14 : Hid (Iz v13 A xs) := Lib.hid (IA_13.out.below hb (Nat.le_refl _))
    have IB_14 : Hid (Iz v13 B ys) := Lib.hid (IB_13.out.below hb (Nat.le_refl _))
    have IC_14 : Hid (Iz v13 C zs) := Lib.hid (IC_13.out.below hb (Nat.le_refl _))
    have Im_14 : Hid (Iz v13 Am (di8 M)) := Lib.hid (Im_13.out.below hb (Nat.le_refl _))
    have In_14 : Hid (Iz v13 An (di8 N)) := Lib.hid (In_13.out.below hb (Nat.le_refl _))
    have Ik_14 : Hid (Iz v13 Ak (di8 K)) := Lib.hid (Ik_13.out.below hb (Nat.le_refl _))
    have Ip_14 : Hid (Iz v13 Ap (di8 M2)) := Lib.hid (Ip_13.out.below hb (Nat.le_refl _))
    have Iq_14 : Hid (Iz v13 Aq (di8 N2)) := Lib.hid (Iq_13.out.below hb (Nat.le_refl _))
    clear TB_13 IA_13 IB_13 IC_13 Im_13 In_13 Ik_13 Ip_13 Iq_13
    have HB_14 : Hid (Below w.heap.size w v13) := Lib.hid (HB_13.out.trans (hb.mono HB_13.out.size))
    clear hb HB_13
    obtain ⟨-, g2, g3, g4⟩ := G.out; obtain ⟨e2, e3⟩ := E2.out; obtain ⟨⟨e4, e5⟩, e6, e7⟩ := E3.out; obtain ⟨w6, w7⟩ := W6.out
    go_wp2_with fail
    all_goals (go_ret; exact ⟨rfl, HB_14.out⟩)
  case neg =>
    have h0 : ¬ ab = 0 := fun h => hmn (F0.out.1 h)
    have h0b : (ab == 0) = false := beq_eq_false_iff_ne.2 h0
    have HIT := Lib.hid (fun W h1 h2 => HIN.out Am An cm cn W h1 h2 false (decide_eq_false hmn).symm)
    clear F0 hmn
    have g0 := G.out.1.1
    go_wp2_with fail
    refine (HIT.out _ Im_5.out In_5.out).mono ?_
    rintro e v5 ⟨rfl, hb⟩
    have TB_6 : Hid (Tb8 v5) := Lib.hid (TB_5.out.below hb (Nat.le_refl _))
    have IA_6 : Hid (Iz v5 A xs) := Lib.hid (IA_5.out.below hb (Nat.le_refl _))
    have IB_6 : Hid (Iz v5 B ys) := Lib.hid (IB_5.out.below hb (Nat.le_refl _))
    have IC_6 : Hid (Iz v5 C zs) := Lib.hid (IC_5.out.below hb (Nat.le_refl _))
    have Im_6 : Hid (Iz v5 Am (di8 M)) := Lib.hid (Im_5.out.below hb (Nat.le_refl _))
    have In_6 : Hid (Iz v5 An (di8 N)) := Lib.hid (In_5.out.below hb (Nat.le_refl _))
    have Ik_6 : Hid (Iz v5 Ak (di8 K)) := Lib.hid (Ik_5.out.below hb (Nat.le_refl _))
    clear TB_5 IA_5 IB_5 IC_5 Im_5 In_5 Ik_5
    have HB_6 : Hid (Below w.heap.size w v5) := Lib.hid (HB_5.out.trans (hb.mono HB_5.out.size))
    clear hb HB_5
    go_wp2_with fail
    refine (HFB.out An Am cn cm _ In_6.out Im_6.out).mono ?_
    rintro e v6 ⟨rfl, hb⟩
    have TB_7 : Hid (Tb8 v6) := Lib.hid (TB_6.out.below hb (Nat.le_refl _))
    have IA_7 : Hid (Iz v6 A xs) := Lib.hid (IA_6.out.below hb (Nat.le_refl _))
    have IB_7 : Hid (Iz v6 B ys) := Lib.hid (IB_6.out.below hb (Nat.le_refl _))
    have IC_7 : Hid (Iz v6 C zs) := Lib.hid (IC_6.out.below hb (Nat.le_refl _))
    have Im_7 : Hid (Iz v6 Am (di8 M)) := Lib.hid (Im_6.out.below hb (Nat.le_refl _))
    have In_7 : Hid (Iz v6 An (di8 N)) := Lib.hid (In_6.out.below hb (Nat.le_refl _))
    have Ik_7 : Hid (Iz v6 Ak (di8 K)) := Lib.hid (Ik_6.out.below hb (Nat.le_refl _))
    clear TB_6 IA_6 IB_6 IC_6 Im_6 In_6 Ik_6
    have HB_7 : Hid (Below w.heap.size w v6) := Lib.hid (HB_6.out.trans (hb.mono HB_6.out.size))
    clear hb HB_6
    go_wp2_with fail
    refine (HFC.out Am Ak cm ck _ Im_7.out Ik_7.out).mono ?_
    rintro e v7 ⟨rfl, hb⟩
    have TB_8 : Hid (Tb8 v7) := Lib.hid (TB_7.out.below hb (Nat.le_refl _))
    have IA_8 : Hid (Iz v7 A xs) := Lib.hid (IA_7.out.below hb (Nat.le_refl _))
    have IB_8 : Hid (Iz v7 B ys) := Lib.hid (IB_7.out.below hb (Nat.le_refl _))
    have IC_8 : Hid (Iz v7 C zs) := Lib.hid (IC_7.out.below hb (Nat.le_refl _))
    have Im_8 : Hid (Iz v7 Am (di8 M)) := Lib.hid (Im_7.out.below hb (Nat.le_refl _))
    have In_8 : Hid (Iz v7 An (di8 N)) := Lib.hid (In_7.out.below hb (Nat.le_refl _))
    have Ik_8 : Hid (Iz v7 Ak (di8 K)) := Lib.hid (Ik_7.out.below hb (Nat.le_refl _))
    clear TB_7 IA_7 IB_7 IC_7 Im_7 In_7 Ik_7
    have HB_8 : Hid (Below w.heap.size w v7) := Lib.hid (HB_7.out.trans (hb.mono HB_7.out.size))
    clear hb HB_7
    go_wp2_with fail
    refine (HFD.out Ak An ck cn _ Ik_8.out In_8.out).mono ?_
    rintro e v8 ⟨rfl, hb⟩
    have TB_9 : Hid (Tb8 v8) := Lib.hid (TB_8.out.below hb (Nat.le_refl _))
    have IA_9 : Hid (Iz v8 A xs) := Lib.hid (IA_8.out.below hb (Nat.le_refl _))
    have IB_9 : Hid (Iz v8 B ys) := Lib.hid (IB_8.out.below hb (Nat.le_refl _))
    have IC_9 : Hid (Iz v8 C zs) := Lib.hid (IC_8.out.below hb (Nat.le_refl _))
    have Im_9 : Hid (Iz v8 Am (di8 M)) := Lib.hid (Im_8.out.below hb (Nat.le_refl _))
    have In_9 : Hid (Iz v8 An (di8 N)) := Lib.hid (In_8.out.below hb (Nat.le_refl _))
    have Ik_9 : Hid (Iz v8 Ak (di8 K)) := Lib.hid (Ik_8.out.below hb (Nat.le_refl _))
    clear TB_8 IA_8 IB_8 IC_8 Im_8 In_8 Ik_8
    have HB_9 : Hid (Below w.heap.size w v8) := Lib.hid (HB_8.out.trans (hb.mono HB_8.out.size))
    clear hb HB_8
    have g1 := G.out.1.2; have e1 := E1.out
    go_wp2_with fail
    refine (HPK.out _).mono ?_
    rintro e v9 ⟨rfl, hb⟩
    clear g1 e1
    have TB_10 : Hid (Tb8 v9) := Lib.hid (TB_9.out.below hb (Nat.le_refl _))
    have IA_10 : Hid (Iz v9 A xs) := Lib.hid (IA_9.out.below hb (Nat.le_refl _))
    have IB_10 : Hid (Iz v9 B ys) := Lib.hid (IB_9.out.below hb (Nat.le_refl _))
    have IC_10 : Hid (Iz v9 C zs) := Lib.hid (IC_9.out.below hb (Nat.le_refl _))
    have Im_10 : Hid (Iz v9 Am (di8 M)) := Lib.hid (Im_9.out.below hb (Nat.le_refl _))
    have In_10 : Hid (Iz v9 An (di8 N)) := Lib.hid (In_9.out.below hb (Nat.le_refl _))
    have Ik_10 : Hid (Iz v9 Ak (di8 K)) := Lib.hid (Ik_9.out.below hb (Nat.le_refl _))
    clear TB_9 IA_9 IB_9 IC_9 Im_9 In_9 Ik_9
    have HB_10 : Hid (Below w.heap.size w v9) := Lib.hid (HB_9.out.trans (hb.mono HB_9.out.size))
    clear hb HB_9
    go_wp2_with fail
    refine (HX1.out _ IA_10.out).mono ?_
    rintro e v10 ⟨⟨Ap, cp, rfl, hip⟩, hb⟩
    have Ip_10 := Lib.hid hip
    have TB_11 : Hid (Tb8 v10) := Lib.hid (TB_10.out.below hb (Nat.le_refl _))
    have IA_11 : Hid (Iz v10 A xs) := Lib.hid (IA_10.out.below hb (Nat.le_refl _))
    have IB_11 : Hid (Iz v10 B ys) := Lib.hid (IB_10.out.below hb (Nat.le_refl _))
    have IC_11 : Hid (Iz v10 C zs) := Lib.hid (IC_10.out.below hb (Nat.le_refl _))
    have Im_11 : Hid (Iz v10 Am (di8 M)) := Lib.hid (Im_10.out.below hb (Nat.le_refl _))
    have In_11 : Hid (Iz v10 An (di8 N)) := Lib.hid (In_10.out.below hb (Nat.le_refl _))
    have Ik_11 : Hid (Iz v10 Ak (di8 K)) := Lib.hid (Ik_10.out.below hb (Nat.le_refl _))
    have Ip_11 : Hid (Iz v10 Ap (di8 M2)) := Lib.hid Ip_10.out
    clear TB_10 IA_10 IB_10 IC_10 Im_10 In_10 Ik_10 Ip_10
    have HB_11 : Hid (Below w.heap.size w v10) := Lib.hid (HB_10.out.trans (hb.mono HB_10.out.size))
    clear hb HB_10
    clear hip
    go_wp2_with fail
    refine (HPK.out _).mono ?_
    rintro e v11 ⟨rfl, hb⟩
    have TB_12 : Hid (Tb8 v11) := Lib.hid (TB_11.out.below hb (Nat.le_refl _))
    have IA_12 : Hid (Iz v11 A xs) := Lib.hid (IA_11.out.below hb (Nat.le_refl _))
    have IB_12 : Hid (Iz v11 B ys) := Lib.hid (IB_11.out.below hb (Nat.le_refl _))
    have IC_12 : Hid (Iz v11 C zs) := Lib.hid (IC_11.out.below hb (Nat.le_refl _))
    have Im_12 : Hid (Iz v11 Am (di8 M)) := Lib.hid (Im_11.out.below hb (Nat.le_refl _))
    have In_12 : Hid (Iz v11 An (di8 N)) := Lib.hid (In_11.out.below hb (Nat.le_refl _))
    have Ik_12 : Hid (Iz v11 Ak (di8 K)) := Lib.hid (Ik_11.out.below hb (Nat.le_refl _))
    have Ip_12 : Hid (Iz v11 Ap (di8 M2)) := Lib.hid (Ip_11.out.below hb (Nat.le_refl _))
    clear TB_11 IA_11 IB_11 IC_11 Im_11 In_11 Ik_11 Ip_11
    have HB_12 : Hid (Below w.heap.size w v11) := Lib.hid (HB_11.out.trans (hb.mono HB_11.out.size))
    clear hb HB_11
    go_wp2_with fail
    refine (HY1.out _ IB_12.out).mono ?_
    rintro e v12 ⟨⟨Aq, cq, rfl, hiq⟩, hb⟩
    have Iq_12 := Lib.hid hiq
    have TB_13 : Hid (Tb8 v12) := Lib.hid (TB_12.out.below hb (Nat.le_refl _))
    have IA_13 : Hid (Iz v12 A xs) := Lib.hid (IA_12.out.below hb (Nat.le_refl _))
    have IB_13 : Hid (Iz v12 B ys) := Lib.hid (IB_12.out.below hb (Nat.le_refl _))
    have IC_13 : Hid (Iz v12 C zs) := Lib.hid (IC_12.out.below hb (Nat.le_refl _))
    have Im_13 : Hid (Iz v12 Am (di8 M)) := Lib.hid (Im_12.out.below hb (Nat.le_refl _))
    have In_13 : Hid (Iz v12 An (di8 N)) := Lib.hid (In_12.out.below hb (Nat.le_refl _))
    have Ik_13 : Hid (Iz v12 Ak (di8 K)) := Lib.hid (Ik_12.out.below hb (Nat.le_refl _))
    have Ip_13 : Hid (Iz v12 Ap (di8 M2)) := Lib.hid (Ip_12.out.below hb (Nat.le_refl _))
    have Iq_13 : Hid (Iz v12 Aq (di8 N2)) := Lib.hid Iq_12.out
    clear TB_12 IA_12 IB_12 IC_12 Im_12 In_12 Ik_12 Ip_12 Iq_12
    have HB_13 : Hid (Below w.heap.size w v12) := Lib.hid (HB_12.out.trans (hb.mono HB_12.out.size))
    clear hb HB_12
    clear hiq
    go_wp2_with fail
    refine (HFE.out Ap Aq cp cq _ Ip_13.out Iq_13.out).mono ?_
    rintro e v13 ⟨rfl, hb⟩
    have TB_14 : Hid (Tb8 v13) := Lib.hid (TB_13.out.below hb (Nat.le_refl _))
    have IA_14 : Hid (Iz v13 A xs) := Lib.hid (IA_13.out.below hb (Nat.le_refl _))
    have IB_14 : Hid (Iz v13 B ys) := Lib.hid (IB_13.out.below hb (Nat.le_refl _))
    have IC_14 : Hid (Iz v13 C zs) := Lib.hid (IC_13.out.below hb (Nat.le_refl _))
    have Im_14 : Hid (Iz v13 Am (di8 M)) := Lib.hid (Im_13.out.below hb (Nat.le_refl _))
    have In_14 : Hid (Iz v13 An (di8 N)) := Lib.hid (In_13.out.below hb (Nat.le_refl _))
    have Ik_14 : Hid (Iz v13 Ak (di8 K)) := Lib.hid (Ik_13.out.below hb (Nat.le_refl _))
    have Ip_14 : Hid (Iz v13 Ap (di8 M2)) := Lib.hid (Ip_13.out.below hb (Nat.le_refl _))
    have Iq_14 : Hid (Iz v13 Aq (di8 N2)) := Lib.hid (Iq_13.out.below hb (Nat.le_refl _))
    clear TB_13 IA_13 IB_13 IC_13 Im_13 In_13 Ik_13 Ip_13 Iq_13
    have HB_14 : Hid (Below w.heap.size w v13) := Lib.hid (HB_13.out.trans (hb.mono HB_13.out.size))
    clear hb HB_13
    obtain ⟨-, g2, g3, g4⟩ := G.out; obtain ⟨e2, e3⟩ := E2.out; obtain ⟨⟨e4, e5⟩, e6, e7⟩ := E3.out; obtain ⟨w6, w7⟩ := W6.out
    go_wp2_with fail
    all_goals (go_ret; exact ⟨rfl, HB_14.out⟩)
end Go.Proofs.YtmjcjaecaigahaaDoor
