
/- The statements' check of the chapter's examples. No conditions. -/
import Derived.Test.YtamogfcedkjmcaaSx5
namespace Go.Proofs.Ytamogfcedkjmcaa
open Go.RowKit Go.Lib Go.Shelf

theorem exway_any (A : Option Addr) (w : World) (h : Dz w A exds) : Calls Try.prog 16 #[.agg #[.int .i64 2, .int .i64 7, .slice A 5 5]] w fun e w' => e = .returned (.tuple #[.int .i64 200, .int .i64 0]) ∧ Below w.heap.size w w' := by
  have h2 := pway_yes 2 7 exds A 5 w h (by decide) ex_vd
  rwa [ex_way] at h2
theorem rints_same (l : List Int) (A A2 : Option Addr) (c c2 : Nat) (w : World) (hA : Iz w A l) (hA2 : Iz w A2 l) (hz : l.length ≤ 9000000000000000000) :
    Calls Try.prog 30 #[.slice A l.length c, .slice A2 l.length c2] w fun e w' => e = .returned (.bool true) ∧ Below w.heap.size w w' := by
  have h := rints_any l l A A2 c c2 w hA hA2 hz hz
  rwa [decide_eq_true rfl] at h
theorem exnear3 (w : World) : Calls Try.prog 37 #[.agg #[.int .i64 0, .int .i64 0], .agg #[.int .i64 100, .int .i64 0], .agg #[.int .i64 50, .int .i64 3], .int .i64 3] w fun e w' => e = .returned (.bool true) ∧ Below w.heap.size w w' := by
  have h := pnear_any 0 0 100 0 50 3 3 w
  rwa [decide_eq_true ex_near3] at h
theorem exnear2 (w : World) : Calls Try.prog 37 #[.agg #[.int .i64 0, .int .i64 0], .agg #[.int .i64 100, .int .i64 0], .agg #[.int .i64 50, .int .i64 3], .int .i64 2] w fun e w' => e = .returned (.bool false) ∧ Below w.heap.size w w' := by
  have h := pnear_any 0 0 100 0 50 3 2 w
  rwa [decide_eq_false ex_near2] at h
theorem excode (A : Option Addr) (w : World) (h : Dz w A exds) : Calls Try.prog 22 #[.agg #[.int .i64 2, .int .i64 7, .slice A 5 5]] w fun e w' => e = .returned (.int .i64 2007) ∧ Below w.heap.size w w' := pcode_yes 2 7 exds A 5 w h (by decide) ex_vd
theorem exwithin (A : Option Addr) (w : World) (h : Dz w A exds) : Calls Try.prog 31 #[.agg #[.int .i64 2, .int .i64 7, .slice A 5 5], .agg #[.int .i64 52, .int .i64 3], .int .i64 2] w fun e w' => e = .returned (.bool true) ∧ Below w.heap.size w w' := by
  have h := pwithin_any 2 7 exds A 5 52 3 2 w h (by decide)
  rwa [decide_eq_true ex_within] at h
theorem exsame (A : Option Addr) (w : World) (h : Dz w A exds) : Calls Try.prog 24 #[.agg #[.int .i64 2, .int .i64 7, .slice A 5 5], .agg #[.int .i64 2, .int .i64 7, .slice A 5 5]] w fun e w' => e = .returned (.bool true) ∧ Below w.heap.size w w' := by
  have h := psame_any 2 7 2 7 exds exds A A 5 5 w h h (by decide) (by decide)
  rwa [decide_eq_true (show SameS 2 7 2 7 exds exds from ⟨rfl, rfl, rfl⟩)] at h
set_option maxRecDepth 100000 in
set_option maxHeartbeats 16000000 in
theorem sane_any (w : World) : Calls Try.prog 10 #[] w fun e w' => e = .returned (.bool true) ∧ Below w.heap.size w w' := by
  have HB_0 : Hid (Below w.heap.size w w) := Lib.hid (Below.refl _ _)
  go_enter Try.func10, Try.ntmps10
  go_wp2_with fail
  refine (example_any _).mono ?_
  rintro e v0 ⟨A, rfl, hdz, hb⟩
  have DS_0 := Lib.hid hdz
  have DS_1 : Hid (Dz (v0.alloc (.cells #[.int .i64 2, .int .i64 7, .slice A 5 5] 27)) A exds) := Lib.hid (DS_0.out.below (allocs_below [(#[.int .i64 2, .int .i64 7, .slice A 5 5], 27)] _ (Below.refl _ _) (Nat.le_refl _)) (Nat.le_refl _))
  clear DS_0
  have HB_1 : Hid (Below w.heap.size w (v0.alloc (.cells #[.int .i64 2, .int .i64 7, .slice A 5 5] 27))) := Lib.hid (allocs_below [(#[.int .i64 2, .int .i64 7, .slice A 5 5], 27)] _ (HB_0.out.trans (hb.mono HB_0.out.size)) (HB_0.out.trans (hb.mono HB_0.out.size)).size)
  have S_1 : Hid (Blk (v0.alloc (.cells #[.int .i64 2, .int .i64 7, .slice A 5 5] 27)) v0.heap.size 27 #[.int .i64 2, .int .i64 7, .slice A 5 5]) := Lib.hid (allocs_blk [(#[.int .i64 2, .int .i64 7, .slice A 5 5], 27)] v0 0 _ rfl)
  clear hb HB_0
  have yy0 := S_1.out.cell (i := 0) (v := .int .i64 2) rfl; have yy1 := S_1.out.cell (i := 1) (v := .int .i64 7) rfl; have yy2 := S_1.out.cell (i := 2) (v := .slice A 5 5) rfl
  go_wp2_with fail
  refine (pbox_yes 2 7 exds A 5 _ DS_1.out (show exds.length ≤ 9000000000000000000 from by decide) ex_vd).mono ?_
  rintro e v1 ⟨x, y, ww, hh, hbx, rfl, hb⟩
  obtain ⟨rfl, rfl, rfl, rfl⟩ := IsBox.unique hbx ex_box; clear hbx
  clear yy0 yy1 yy2
  have DS_2 : Hid (Dz (v1.alloc (.cells #[.int .i64 0, .int .i64 0, .int .i64 101, .int .i64 100] 40)) A exds) := Lib.hid (DS_1.out.below (allocs_below [(#[.int .i64 0, .int .i64 0, .int .i64 101, .int .i64 100], 40)] _ hb hb.size) (Nat.le_refl _))
  clear DS_1
  have S_2 : Hid (Blk (v1.alloc (.cells #[.int .i64 0, .int .i64 0, .int .i64 101, .int .i64 100] 40)) v0.heap.size 27 #[.int .i64 2, .int .i64 7, .slice A 5 5]) := Lib.hid (allocs_keep [(#[.int .i64 0, .int .i64 0, .int .i64 101, .int .i64 100], 40)] _ (S_1.out.below hb S_1.out.lt))
  have HB_2 : Hid (Below w.heap.size w (v1.alloc (.cells #[.int .i64 0, .int .i64 0, .int .i64 101, .int .i64 100] 40))) := Lib.hid (allocs_below [(#[.int .i64 0, .int .i64 0, .int .i64 101, .int .i64 100], 40)] _ (HB_1.out.trans (hb.mono HB_1.out.size)) (HB_1.out.trans (hb.mono HB_1.out.size)).size)
  have R_2 : Hid (Blk (v1.alloc (.cells #[.int .i64 0, .int .i64 0, .int .i64 101, .int .i64 100] 40)) v1.heap.size 40 #[.int .i64 0, .int .i64 0, .int .i64 101, .int .i64 100]) := Lib.hid (allocs_blk [(#[.int .i64 0, .int .i64 0, .int .i64 101, .int .i64 100], 40)] v1 0 _ rfl)
  clear hb S_1 HB_1
  have yy0 := S_2.out.cell (i := 0) (v := .int .i64 2) rfl; have yy1 := S_2.out.cell (i := 1) (v := .int .i64 7) rfl; have yy2 := S_2.out.cell (i := 2) (v := .slice A 5 5) rfl
  go_wp2_with fail
  refine (exway_any A _ DS_2.out).mono ?_
  rintro e v2 ⟨rfl, hb⟩
  clear yy0 yy1 yy2
  have DS_3 : Hid (Dz v2 A exds) := Lib.hid (DS_2.out.below hb (Nat.le_refl _))
  clear DS_2
  have S_3 : Hid (Blk v2 v0.heap.size 27 #[.int .i64 2, .int .i64 7, .slice A 5 5]) := Lib.hid (S_2.out.below hb S_2.out.lt)
  have R_3 : Hid (Blk v2 v1.heap.size 40 #[.int .i64 0, .int .i64 0, .int .i64 101, .int .i64 100]) := Lib.hid (R_2.out.below hb R_2.out.lt)
  have HB_3 : Hid (Below w.heap.size w v2) := Lib.hid (HB_2.out.trans (hb.mono HB_2.out.size))
  clear hb S_2 R_2 HB_2
  have yy0 := S_3.out.cell (i := 0) (v := .int .i64 2) rfl; have yy1 := S_3.out.cell (i := 1) (v := .int .i64 7) rfl; have yy2 := S_3.out.cell (i := 2) (v := .slice A 5 5) rfl
  go_wp2_with fail
  refine (pthin_any 2 7 exds A 5 (2) _ DS_3.out (show exds.length ≤ 9000000000000000000 from by decide) (Nat.le_refl _)).mono ?_
  rintro e v3 ⟨h, hb⟩
  rcases h with ⟨-, Q, Ba, ca, rfl, hth, hiz, hcp⟩ | ⟨hno, -⟩
  rotate_left
  · exact absurd ⟨ex_vd, by omega, by omega⟩ hno
  obtain rfl : Q = [0, 2, 4] := hth.unique ex_thin2
  clear hth hcp
  clear yy0 yy1 yy2
  have Ia_3 := Lib.hid hiz
  have DS_4 : Hid (Dz v3 A exds) := Lib.hid (DS_3.out.below hb (Nat.le_refl _))
  have Ia_4 : Hid (Iz v3 Ba [0, 2, 4]) := Lib.hid Ia_3.out
  clear DS_3 Ia_3
  have S_4 : Hid (Blk v3 v0.heap.size 27 #[.int .i64 2, .int .i64 7, .slice A 5 5]) := Lib.hid (S_3.out.below hb S_3.out.lt)
  have R_4 : Hid (Blk v3 v1.heap.size 40 #[.int .i64 0, .int .i64 0, .int .i64 101, .int .i64 100]) := Lib.hid (R_3.out.below hb R_3.out.lt)
  have HB_4 : Hid (Below w.heap.size w v3) := Lib.hid (HB_3.out.trans (hb.mono HB_3.out.size))
  clear hb S_3 R_3 HB_3
  have yy0 := S_4.out.cell (i := 0) (v := .int .i64 2) rfl; have yy1 := S_4.out.cell (i := 1) (v := .int .i64 7) rfl; have yy2 := S_4.out.cell (i := 2) (v := .slice A 5 5) rfl
  go_wp2_with fail
  refine (pthin_any 2 7 exds A 5 (1) _ DS_4.out (show exds.length ≤ 9000000000000000000 from by decide) (Nat.le_refl _)).mono ?_
  rintro e v4 ⟨h, hb⟩
  rcases h with ⟨-, Q, Bb, cb, rfl, hth, hiz, hcp⟩ | ⟨hno, -⟩
  rotate_left
  · exact absurd ⟨ex_vd, by omega, by omega⟩ hno
  obtain rfl : Q = [0, 1, 2, 4] := hth.unique ex_thin1
  clear hth hcp
  clear yy0 yy1 yy2
  have Ib_4 := Lib.hid hiz
  have DS_5 : Hid (Dz v4 A exds) := Lib.hid (DS_4.out.below hb (Nat.le_refl _))
  have Ia_5 : Hid (Iz v4 Ba [0, 2, 4]) := Lib.hid (Ia_4.out.below hb (Nat.le_refl _))
  have Ib_5 : Hid (Iz v4 Bb [0, 1, 2, 4]) := Lib.hid Ib_4.out
  clear DS_4 Ia_4 Ib_4
  have S_5 : Hid (Blk v4 v0.heap.size 27 #[.int .i64 2, .int .i64 7, .slice A 5 5]) := Lib.hid (S_4.out.below hb S_4.out.lt)
  have R_5 : Hid (Blk v4 v1.heap.size 40 #[.int .i64 0, .int .i64 0, .int .i64 101, .int .i64 100]) := Lib.hid (R_4.out.below hb R_4.out.lt)
  have HB_5 : Hid (Below w.heap.size w v4) := Lib.hid (HB_4.out.trans (hb.mono HB_4.out.size))
  clear hb S_4 R_4 HB_4
  have yy0 := S_5.out.cell (i := 0) (v := .int .i64 2) rfl; have yy1 := S_5.out.cell (i := 1) (v := .int .i64 7) rfl; have yy2 := S_5.out.cell (i := 2) (v := .slice A 5 5) rfl
  go_wp2_with fail
  refine (pthin_any 2 7 exds A 5 (0) _ DS_5.out (show exds.length ≤ 9000000000000000000 from by decide) (Nat.le_refl _)).mono ?_
  rintro e v5 ⟨h, hb⟩
  rcases h with ⟨-, Q, Bc, cc, rfl, hth, hiz, hcp⟩ | ⟨hno, -⟩
  rotate_left
  · exact absurd ⟨ex_vd, by omega, by omega⟩ hno
  obtain rfl : Q = [0, 1, 2, 3, 4] := hth.unique ex_thin0
  clear hth hcp
  clear yy0 yy1 yy2
  have Ic_5 := Lib.hid hiz
  have DS_6 : Hid (Dz v5 A exds) := Lib.hid (DS_5.out.below hb (Nat.le_refl _))
  have Ia_6 : Hid (Iz v5 Ba [0, 2, 4]) := Lib.hid (Ia_5.out.below hb (Nat.le_refl _))
  have Ib_6 : Hid (Iz v5 Bb [0, 1, 2, 4]) := Lib.hid (Ib_5.out.below hb (Nat.le_refl _))
  have Ic_6 : Hid (Iz v5 Bc [0, 1, 2, 3, 4]) := Lib.hid Ic_5.out
  clear DS_5 Ia_5 Ib_5 Ic_5
  have S_6 : Hid (Blk v5 v0.heap.size 27 #[.int .i64 2, .int .i64 7, .slice A 5 5]) := Lib.hid (S_5.out.below hb S_5.out.lt)
  have R_6 : Hid (Blk v5 v1.heap.size 40 #[.int .i64 0, .int .i64 0, .int .i64 101, .int .i64 100]) := Lib.hid (R_5.out.below hb R_5.out.lt)
  have HB_6 : Hid (Below w.heap.size w v5) := Lib.hid (HB_5.out.trans (hb.mono HB_5.out.size))
  clear hb S_5 R_5 HB_5
  have yy0 := S_6.out.cell (i := 0) (v := .int .i64 2) rfl; have yy1 := S_6.out.cell (i := 1) (v := .int .i64 7) rfl; have yy2 := S_6.out.cell (i := 2) (v := .slice A 5 5) rfl
  go_wp2_with fail
  refine (pturned_any 2 7 exds A 5 1 _ DS_6.out (show exds.length ≤ 9000000000000000000 from by decide) (by omega)).mono ?_
  rintro e v6 ⟨h, hb⟩
  rcases h with ⟨-, A1, k1, he, hdz, -, -⟩ | ⟨hno, -⟩
  rotate_left
  · exact absurd ex_vd hno
  rw [ex_turned] at he hdz
  obtain rfl : e = .returned (.tuple #[.agg #[.int .i64 2, .int .i64 7, .slice A1 5 k1], .int .i64 0]) := he
  clear yy0 yy1 yy2
  have DT_6 := Lib.hid hdz
  have DS_7 : Hid (Dz (v6.alloc (.cells #[.int .i64 2, .int .i64 7, .slice A1 5 k1] 27)) A exds) := Lib.hid (DS_6.out.below (allocs_below [(#[.int .i64 2, .int .i64 7, .slice A1 5 k1], 27)] _ hb hb.size) (Nat.le_refl _))
  have Ia_7 : Hid (Iz (v6.alloc (.cells #[.int .i64 2, .int .i64 7, .slice A1 5 k1] 27)) Ba [0, 2, 4]) := Lib.hid (Ia_6.out.below (allocs_below [(#[.int .i64 2, .int .i64 7, .slice A1 5 k1], 27)] _ hb hb.size) (Nat.le_refl _))
  have Ib_7 : Hid (Iz (v6.alloc (.cells #[.int .i64 2, .int .i64 7, .slice A1 5 k1] 27)) Bb [0, 1, 2, 4]) := Lib.hid (Ib_6.out.below (allocs_below [(#[.int .i64 2, .int .i64 7, .slice A1 5 k1], 27)] _ hb hb.size) (Nat.le_refl _))
  have Ic_7 : Hid (Iz (v6.alloc (.cells #[.int .i64 2, .int .i64 7, .slice A1 5 k1] 27)) Bc [0, 1, 2, 3, 4]) := Lib.hid (Ic_6.out.below (allocs_below [(#[.int .i64 2, .int .i64 7, .slice A1 5 k1], 27)] _ hb hb.size) (Nat.le_refl _))
  have DT_7 : Hid (Dz (v6.alloc (.cells #[.int .i64 2, .int .i64 7, .slice A1 5 k1] 27)) A1 [⟨4095, 0, 0, 0⟩, ⟨4093, 50, 0, 0⟩, ⟨4095, 100, 0, 0⟩, ⟨4035, 100, 0, 0⟩, ⟨3995, 101, 0, 0⟩]) := Lib.hid (DT_6.out.below (allocs_below [(#[.int .i64 2, .int .i64 7, .slice A1 5 k1], 27)] _ (Below.refl _ _) (Nat.le_refl _)) (Nat.le_refl _))
  clear DS_6 Ia_6 Ib_6 Ic_6 DT_6
  have S_7 : Hid (Blk (v6.alloc (.cells #[.int .i64 2, .int .i64 7, .slice A1 5 k1] 27)) v0.heap.size 27 #[.int .i64 2, .int .i64 7, .slice A 5 5]) := Lib.hid (allocs_keep [(#[.int .i64 2, .int .i64 7, .slice A1 5 k1], 27)] _ (S_6.out.below hb S_6.out.lt))
  have R_7 : Hid (Blk (v6.alloc (.cells #[.int .i64 2, .int .i64 7, .slice A1 5 k1] 27)) v1.heap.size 40 #[.int .i64 0, .int .i64 0, .int .i64 101, .int .i64 100]) := Lib.hid (allocs_keep [(#[.int .i64 2, .int .i64 7, .slice A1 5 k1], 27)] _ (R_6.out.below hb R_6.out.lt))
  have HB_7 : Hid (Below w.heap.size w (v6.alloc (.cells #[.int .i64 2, .int .i64 7, .slice A1 5 k1] 27))) := Lib.hid (allocs_below [(#[.int .i64 2, .int .i64 7, .slice A1 5 k1], 27)] _ (HB_6.out.trans (hb.mono HB_6.out.size)) (HB_6.out.trans (hb.mono HB_6.out.size)).size)
  have T_7 : Hid (Blk (v6.alloc (.cells #[.int .i64 2, .int .i64 7, .slice A1 5 k1] 27)) v6.heap.size 27 #[.int .i64 2, .int .i64 7, .slice A1 5 k1]) := Lib.hid (allocs_blk [(#[.int .i64 2, .int .i64 7, .slice A1 5 k1], 27)] v6 0 _ rfl)
  clear hb S_6 R_6 HB_6
  have hvt : Vd 2 7 [⟨4095, 0, 0, 0⟩, ⟨4093, 50, 0, 0⟩, ⟨4095, 100, 0, 0⟩, ⟨4035, 100, 0, 0⟩, ⟨3995, 101, 0, 0⟩] := by have h := vd_turned (qrt 1) ex_vd; rwa [ex_turned] at h
  have HVT := Lib.hid hvt; clear hvt
  have yy0 := T_7.out.cell (i := 0) (v := .int .i64 2) rfl; have yy1 := T_7.out.cell (i := 1) (v := .int .i64 7) rfl; have yy2 := T_7.out.cell (i := 2) (v := .slice A1 5 k1) rfl
  go_wp2_with fail
  refine (pends_yes 2 7 [⟨4095, 0, 0, 0⟩, ⟨4093, 50, 0, 0⟩, ⟨4095, 100, 0, 0⟩, ⟨4035, 100, 0, 0⟩, ⟨3995, 101, 0, 0⟩] A1 k1 _ DT_7.out (show ([⟨4095, 0, 0, 0⟩, ⟨4093, 50, 0, 0⟩, ⟨4095, 100, 0, 0⟩, ⟨4035, 100, 0, 0⟩, ⟨3995, 101, 0, 0⟩] : List Dt).length ≤ 9000000000000000000 from by decide) HVT.out).mono ?_
  rintro e v7 ⟨d0, f0, hd0, hf0, rfl, hb⟩
  obtain rfl : ⟨4095, 0, 0, 0⟩ = d0 := by simpa using hd0
  obtain rfl : ⟨3995, 101, 0, 0⟩ = f0 := by simpa using hf0
  clear hd0 hf0
  clear yy0 yy1 yy2
  have DS_8 : Hid (Dz ((v7.alloc (.cells #[.int .i64 4095, .int .i64 0] 29)).alloc (.cells #[.int .i64 3995, .int .i64 101] 29)) A exds) := Lib.hid (DS_7.out.below (allocs_below [(#[.int .i64 4095, .int .i64 0], 29), (#[.int .i64 3995, .int .i64 101], 29)] _ hb hb.size) (Nat.le_refl _))
  have Ia_8 : Hid (Iz ((v7.alloc (.cells #[.int .i64 4095, .int .i64 0] 29)).alloc (.cells #[.int .i64 3995, .int .i64 101] 29)) Ba [0, 2, 4]) := Lib.hid (Ia_7.out.below (allocs_below [(#[.int .i64 4095, .int .i64 0], 29), (#[.int .i64 3995, .int .i64 101], 29)] _ hb hb.size) (Nat.le_refl _))
  have Ib_8 : Hid (Iz ((v7.alloc (.cells #[.int .i64 4095, .int .i64 0] 29)).alloc (.cells #[.int .i64 3995, .int .i64 101] 29)) Bb [0, 1, 2, 4]) := Lib.hid (Ib_7.out.below (allocs_below [(#[.int .i64 4095, .int .i64 0], 29), (#[.int .i64 3995, .int .i64 101], 29)] _ hb hb.size) (Nat.le_refl _))
  have Ic_8 : Hid (Iz ((v7.alloc (.cells #[.int .i64 4095, .int .i64 0] 29)).alloc (.cells #[.int .i64 3995, .int .i64 101] 29)) Bc [0, 1, 2, 3, 4]) := Lib.hid (Ic_7.out.below (allocs_below [(#[.int .i64 4095, .int .i64 0], 29), (#[.int .i64 3995, .int .i64 101], 29)] _ hb hb.size) (Nat.le_refl _))
  have DT_8 : Hid (Dz ((v7.alloc (.cells #[.int .i64 4095, .int .i64 0] 29)).alloc (.cells #[.int .i64 3995, .int .i64 101] 29)) A1 [⟨4095, 0, 0, 0⟩, ⟨4093, 50, 0, 0⟩, ⟨4095, 100, 0, 0⟩, ⟨4035, 100, 0, 0⟩, ⟨3995, 101, 0, 0⟩]) := Lib.hid (DT_7.out.below (allocs_below [(#[.int .i64 4095, .int .i64 0], 29), (#[.int .i64 3995, .int .i64 101], 29)] _ hb hb.size) (Nat.le_refl _))
  clear DS_7 Ia_7 Ib_7 Ic_7 DT_7
  have S_8 : Hid (Blk ((v7.alloc (.cells #[.int .i64 4095, .int .i64 0] 29)).alloc (.cells #[.int .i64 3995, .int .i64 101] 29)) v0.heap.size 27 #[.int .i64 2, .int .i64 7, .slice A 5 5]) := Lib.hid (allocs_keep [(#[.int .i64 4095, .int .i64 0], 29), (#[.int .i64 3995, .int .i64 101], 29)] _ (S_7.out.below hb S_7.out.lt))
  have R_8 : Hid (Blk ((v7.alloc (.cells #[.int .i64 4095, .int .i64 0] 29)).alloc (.cells #[.int .i64 3995, .int .i64 101] 29)) v1.heap.size 40 #[.int .i64 0, .int .i64 0, .int .i64 101, .int .i64 100]) := Lib.hid (allocs_keep [(#[.int .i64 4095, .int .i64 0], 29), (#[.int .i64 3995, .int .i64 101], 29)] _ (R_7.out.below hb R_7.out.lt))
  have T_8 : Hid (Blk ((v7.alloc (.cells #[.int .i64 4095, .int .i64 0] 29)).alloc (.cells #[.int .i64 3995, .int .i64 101] 29)) v6.heap.size 27 #[.int .i64 2, .int .i64 7, .slice A1 5 k1]) := Lib.hid (allocs_keep [(#[.int .i64 4095, .int .i64 0], 29), (#[.int .i64 3995, .int .i64 101], 29)] _ (T_7.out.below hb T_7.out.lt))
  have HB_8 : Hid (Below w.heap.size w ((v7.alloc (.cells #[.int .i64 4095, .int .i64 0] 29)).alloc (.cells #[.int .i64 3995, .int .i64 101] 29))) := Lib.hid (allocs_below [(#[.int .i64 4095, .int .i64 0], 29), (#[.int .i64 3995, .int .i64 101], 29)] _ (HB_7.out.trans (hb.mono HB_7.out.size)) (HB_7.out.trans (hb.mono HB_7.out.size)).size)
  have E_8 : Hid (Blk ((v7.alloc (.cells #[.int .i64 4095, .int .i64 0] 29)).alloc (.cells #[.int .i64 3995, .int .i64 101] 29)) v7.heap.size 29 #[.int .i64 4095, .int .i64 0]) := Lib.hid (allocs_blk [(#[.int .i64 4095, .int .i64 0], 29), (#[.int .i64 3995, .int .i64 101], 29)] v7 0 _ rfl)
  have F_8 : Hid (Blk ((v7.alloc (.cells #[.int .i64 4095, .int .i64 0] 29)).alloc (.cells #[.int .i64 3995, .int .i64 101] 29)) (v7.heap.size + 1) 29 #[.int .i64 3995, .int .i64 101]) := Lib.hid (allocs_blk [(#[.int .i64 4095, .int .i64 0], 29), (#[.int .i64 3995, .int .i64 101], 29)] v7 1 _ rfl)
  clear hb S_7 R_7 T_7 HB_7
  have yy0 := S_8.out.cell (i := 0) (v := .int .i64 2) rfl; have yy1 := S_8.out.cell (i := 1) (v := .int .i64 7) rfl; have yy2 := S_8.out.cell (i := 2) (v := .slice A 5 5) rfl
  go_wp2_with fail
  refine (pkept_any 2 7 exds [0, 2, 4] A Ba 5 ca _ DS_8.out Ia_8.out (show exds.length ≤ 9000000000000000000 from by decide) (by decide)).mono ?_
  rintro e v8 ⟨h, hb⟩
  rcases h with ⟨-, Az2, k2, he, hdz, -, -⟩ | ⟨hno, -⟩
  rotate_left
  · exact absurd ex_keptP hno
  rw [ex_kept] at he hdz
  obtain ⟨b2, o2, rfl⟩ := Dz.some hdz (by decide)
  obtain rfl : e = .returned (.tuple #[.agg #[.int .i64 2, .int .i64 7, .slice (some ⟨b2, o2, none⟩) 3 k2], .int .i64 0]) := he
  clear yy0 yy1 yy2
  have DC_8 := Lib.hid hdz
  have DS_9 : Hid (Dz (v8.alloc (.cells #[.int .i64 2, .int .i64 7, .slice (some ⟨b2, o2, none⟩) 3 k2] 27)) A exds) := Lib.hid (DS_8.out.below (allocs_below [(#[.int .i64 2, .int .i64 7, .slice (some ⟨b2, o2, none⟩) 3 k2], 27)] _ hb hb.size) (Nat.le_refl _))
  have Ia_9 : Hid (Iz (v8.alloc (.cells #[.int .i64 2, .int .i64 7, .slice (some ⟨b2, o2, none⟩) 3 k2] 27)) Ba [0, 2, 4]) := Lib.hid (Ia_8.out.below (allocs_below [(#[.int .i64 2, .int .i64 7, .slice (some ⟨b2, o2, none⟩) 3 k2], 27)] _ hb hb.size) (Nat.le_refl _))
  have Ib_9 : Hid (Iz (v8.alloc (.cells #[.int .i64 2, .int .i64 7, .slice (some ⟨b2, o2, none⟩) 3 k2] 27)) Bb [0, 1, 2, 4]) := Lib.hid (Ib_8.out.below (allocs_below [(#[.int .i64 2, .int .i64 7, .slice (some ⟨b2, o2, none⟩) 3 k2], 27)] _ hb hb.size) (Nat.le_refl _))
  have Ic_9 : Hid (Iz (v8.alloc (.cells #[.int .i64 2, .int .i64 7, .slice (some ⟨b2, o2, none⟩) 3 k2] 27)) Bc [0, 1, 2, 3, 4]) := Lib.hid (Ic_8.out.below (allocs_below [(#[.int .i64 2, .int .i64 7, .slice (some ⟨b2, o2, none⟩) 3 k2], 27)] _ hb hb.size) (Nat.le_refl _))
  have DT_9 : Hid (Dz (v8.alloc (.cells #[.int .i64 2, .int .i64 7, .slice (some ⟨b2, o2, none⟩) 3 k2] 27)) A1 [⟨4095, 0, 0, 0⟩, ⟨4093, 50, 0, 0⟩, ⟨4095, 100, 0, 0⟩, ⟨4035, 100, 0, 0⟩, ⟨3995, 101, 0, 0⟩]) := Lib.hid (DT_8.out.below (allocs_below [(#[.int .i64 2, .int .i64 7, .slice (some ⟨b2, o2, none⟩) 3 k2], 27)] _ hb hb.size) (Nat.le_refl _))
  have DC_9 : Hid (Dz (v8.alloc (.cells #[.int .i64 2, .int .i64 7, .slice (some ⟨b2, o2, none⟩) 3 k2] 27)) (some ⟨b2, o2, none⟩) [⟨0, 0, 0, 0⟩, ⟨100, 0, 0, 0⟩, ⟨101, 100, 0, 0⟩]) := Lib.hid (DC_8.out.below (allocs_below [(#[.int .i64 2, .int .i64 7, .slice (some ⟨b2, o2, none⟩) 3 k2], 27)] _ (Below.refl _ _) (Nat.le_refl _)) (Nat.le_refl _))
  clear DS_8 Ia_8 Ib_8 Ic_8 DT_8 DC_8
  have S_9 : Hid (Blk (v8.alloc (.cells #[.int .i64 2, .int .i64 7, .slice (some ⟨b2, o2, none⟩) 3 k2] 27)) v0.heap.size 27 #[.int .i64 2, .int .i64 7, .slice A 5 5]) := Lib.hid (allocs_keep [(#[.int .i64 2, .int .i64 7, .slice (some ⟨b2, o2, none⟩) 3 k2], 27)] _ (S_8.out.below hb S_8.out.lt))
  have R_9 : Hid (Blk (v8.alloc (.cells #[.int .i64 2, .int .i64 7, .slice (some ⟨b2, o2, none⟩) 3 k2] 27)) v1.heap.size 40 #[.int .i64 0, .int .i64 0, .int .i64 101, .int .i64 100]) := Lib.hid (allocs_keep [(#[.int .i64 2, .int .i64 7, .slice (some ⟨b2, o2, none⟩) 3 k2], 27)] _ (R_8.out.below hb R_8.out.lt))
  have T_9 : Hid (Blk (v8.alloc (.cells #[.int .i64 2, .int .i64 7, .slice (some ⟨b2, o2, none⟩) 3 k2] 27)) v6.heap.size 27 #[.int .i64 2, .int .i64 7, .slice A1 5 k1]) := Lib.hid (allocs_keep [(#[.int .i64 2, .int .i64 7, .slice (some ⟨b2, o2, none⟩) 3 k2], 27)] _ (T_8.out.below hb T_8.out.lt))
  have E_9 : Hid (Blk (v8.alloc (.cells #[.int .i64 2, .int .i64 7, .slice (some ⟨b2, o2, none⟩) 3 k2] 27)) v7.heap.size 29 #[.int .i64 4095, .int .i64 0]) := Lib.hid (allocs_keep [(#[.int .i64 2, .int .i64 7, .slice (some ⟨b2, o2, none⟩) 3 k2], 27)] _ (E_8.out.below hb E_8.out.lt))
  have F_9 : Hid (Blk (v8.alloc (.cells #[.int .i64 2, .int .i64 7, .slice (some ⟨b2, o2, none⟩) 3 k2] 27)) (v7.heap.size + 1) 29 #[.int .i64 3995, .int .i64 101]) := Lib.hid (allocs_keep [(#[.int .i64 2, .int .i64 7, .slice (some ⟨b2, o2, none⟩) 3 k2], 27)] _ (F_8.out.below hb F_8.out.lt))
  have HB_9 : Hid (Below w.heap.size w (v8.alloc (.cells #[.int .i64 2, .int .i64 7, .slice (some ⟨b2, o2, none⟩) 3 k2] 27))) := Lib.hid (allocs_below [(#[.int .i64 2, .int .i64 7, .slice (some ⟨b2, o2, none⟩) 3 k2], 27)] _ (HB_8.out.trans (hb.mono HB_8.out.size)) (HB_8.out.trans (hb.mono HB_8.out.size)).size)
  have C_9 : Hid (Blk (v8.alloc (.cells #[.int .i64 2, .int .i64 7, .slice (some ⟨b2, o2, none⟩) 3 k2] 27)) v8.heap.size 27 #[.int .i64 2, .int .i64 7, .slice (some ⟨b2, o2, none⟩) 3 k2]) := Lib.hid (allocs_blk [(#[.int .i64 2, .int .i64 7, .slice (some ⟨b2, o2, none⟩) 3 k2], 27)] v8 0 _ rfl)
  clear hb S_8 R_8 T_8 E_8 F_8 HB_8
  have yy0 := S_9.out.cell (i := 0) (v := .int .i64 2) rfl; have yy1 := S_9.out.cell (i := 1) (v := .int .i64 7) rfl; have yy2 := S_9.out.cell (i := 2) (v := .slice A 5 5) rfl
  go_wp2_with fail
  refine (pmoved_any 2 7 exds A 5 1 2 _ DS_9.out (show exds.length ≤ 9000000000000000000 from by decide)).mono ?_
  rintro e v9 ⟨h, hb⟩
  rcases h with ⟨-, Az3, k3, he, hdz, -, -⟩ | ⟨hno, -⟩
  rotate_left
  · exact absurd ex_movP hno
  rw [ex_moved] at he hdz
  obtain ⟨b3, o3, rfl⟩ := Dz.some hdz (by decide)
  obtain rfl : e = .returned (.tuple #[.agg #[.int .i64 2, .int .i64 7, .slice (some ⟨b3, o3, none⟩) 5 k3], .int .i64 0]) := he
  clear yy0 yy1 yy2
  have DM_9 := Lib.hid hdz
  have DS_10 : Hid (Dz (v9.alloc (.cells #[.int .i64 2, .int .i64 7, .slice (some ⟨b3, o3, none⟩) 5 k3] 27)) A exds) := Lib.hid (DS_9.out.below (allocs_below [(#[.int .i64 2, .int .i64 7, .slice (some ⟨b3, o3, none⟩) 5 k3], 27)] _ hb hb.size) (Nat.le_refl _))
  have Ia_10 : Hid (Iz (v9.alloc (.cells #[.int .i64 2, .int .i64 7, .slice (some ⟨b3, o3, none⟩) 5 k3] 27)) Ba [0, 2, 4]) := Lib.hid (Ia_9.out.below (allocs_below [(#[.int .i64 2, .int .i64 7, .slice (some ⟨b3, o3, none⟩) 5 k3], 27)] _ hb hb.size) (Nat.le_refl _))
  have Ib_10 : Hid (Iz (v9.alloc (.cells #[.int .i64 2, .int .i64 7, .slice (some ⟨b3, o3, none⟩) 5 k3] 27)) Bb [0, 1, 2, 4]) := Lib.hid (Ib_9.out.below (allocs_below [(#[.int .i64 2, .int .i64 7, .slice (some ⟨b3, o3, none⟩) 5 k3], 27)] _ hb hb.size) (Nat.le_refl _))
  have Ic_10 : Hid (Iz (v9.alloc (.cells #[.int .i64 2, .int .i64 7, .slice (some ⟨b3, o3, none⟩) 5 k3] 27)) Bc [0, 1, 2, 3, 4]) := Lib.hid (Ic_9.out.below (allocs_below [(#[.int .i64 2, .int .i64 7, .slice (some ⟨b3, o3, none⟩) 5 k3], 27)] _ hb hb.size) (Nat.le_refl _))
  have DT_10 : Hid (Dz (v9.alloc (.cells #[.int .i64 2, .int .i64 7, .slice (some ⟨b3, o3, none⟩) 5 k3] 27)) A1 [⟨4095, 0, 0, 0⟩, ⟨4093, 50, 0, 0⟩, ⟨4095, 100, 0, 0⟩, ⟨4035, 100, 0, 0⟩, ⟨3995, 101, 0, 0⟩]) := Lib.hid (DT_9.out.below (allocs_below [(#[.int .i64 2, .int .i64 7, .slice (some ⟨b3, o3, none⟩) 5 k3], 27)] _ hb hb.size) (Nat.le_refl _))
  have DC_10 : Hid (Dz (v9.alloc (.cells #[.int .i64 2, .int .i64 7, .slice (some ⟨b3, o3, none⟩) 5 k3] 27)) (some ⟨b2, o2, none⟩) [⟨0, 0, 0, 0⟩, ⟨100, 0, 0, 0⟩, ⟨101, 100, 0, 0⟩]) := Lib.hid (DC_9.out.below (allocs_below [(#[.int .i64 2, .int .i64 7, .slice (some ⟨b3, o3, none⟩) 5 k3], 27)] _ hb hb.size) (Nat.le_refl _))
  have DM_10 : Hid (Dz (v9.alloc (.cells #[.int .i64 2, .int .i64 7, .slice (some ⟨b3, o3, none⟩) 5 k3] 27)) (some ⟨b3, o3, none⟩) [⟨1, 2, 0, 0⟩, ⟨51, 4, 0, 0⟩, ⟨101, 2, 0, 0⟩, ⟨101, 62, 0, 0⟩, ⟨102, 102, 0, 0⟩]) := Lib.hid (DM_9.out.below (allocs_below [(#[.int .i64 2, .int .i64 7, .slice (some ⟨b3, o3, none⟩) 5 k3], 27)] _ (Below.refl _ _) (Nat.le_refl _)) (Nat.le_refl _))
  clear DS_9 Ia_9 Ib_9 Ic_9 DT_9 DC_9 DM_9
  have S_10 : Hid (Blk (v9.alloc (.cells #[.int .i64 2, .int .i64 7, .slice (some ⟨b3, o3, none⟩) 5 k3] 27)) v0.heap.size 27 #[.int .i64 2, .int .i64 7, .slice A 5 5]) := Lib.hid (allocs_keep [(#[.int .i64 2, .int .i64 7, .slice (some ⟨b3, o3, none⟩) 5 k3], 27)] _ (S_9.out.below hb S_9.out.lt))
  have R_10 : Hid (Blk (v9.alloc (.cells #[.int .i64 2, .int .i64 7, .slice (some ⟨b3, o3, none⟩) 5 k3] 27)) v1.heap.size 40 #[.int .i64 0, .int .i64 0, .int .i64 101, .int .i64 100]) := Lib.hid (allocs_keep [(#[.int .i64 2, .int .i64 7, .slice (some ⟨b3, o3, none⟩) 5 k3], 27)] _ (R_9.out.below hb R_9.out.lt))
  have T_10 : Hid (Blk (v9.alloc (.cells #[.int .i64 2, .int .i64 7, .slice (some ⟨b3, o3, none⟩) 5 k3] 27)) v6.heap.size 27 #[.int .i64 2, .int .i64 7, .slice A1 5 k1]) := Lib.hid (allocs_keep [(#[.int .i64 2, .int .i64 7, .slice (some ⟨b3, o3, none⟩) 5 k3], 27)] _ (T_9.out.below hb T_9.out.lt))
  have E_10 : Hid (Blk (v9.alloc (.cells #[.int .i64 2, .int .i64 7, .slice (some ⟨b3, o3, none⟩) 5 k3] 27)) v7.heap.size 29 #[.int .i64 4095, .int .i64 0]) := Lib.hid (allocs_keep [(#[.int .i64 2, .int .i64 7, .slice (some ⟨b3, o3, none⟩) 5 k3], 27)] _ (E_9.out.below hb E_9.out.lt))
  have F_10 : Hid (Blk (v9.alloc (.cells #[.int .i64 2, .int .i64 7, .slice (some ⟨b3, o3, none⟩) 5 k3] 27)) (v7.heap.size + 1) 29 #[.int .i64 3995, .int .i64 101]) := Lib.hid (allocs_keep [(#[.int .i64 2, .int .i64 7, .slice (some ⟨b3, o3, none⟩) 5 k3], 27)] _ (F_9.out.below hb F_9.out.lt))
  have C_10 : Hid (Blk (v9.alloc (.cells #[.int .i64 2, .int .i64 7, .slice (some ⟨b3, o3, none⟩) 5 k3] 27)) v8.heap.size 27 #[.int .i64 2, .int .i64 7, .slice (some ⟨b2, o2, none⟩) 3 k2]) := Lib.hid (allocs_keep [(#[.int .i64 2, .int .i64 7, .slice (some ⟨b3, o3, none⟩) 5 k3], 27)] _ (C_9.out.below hb C_9.out.lt))
  have HB_10 : Hid (Below w.heap.size w (v9.alloc (.cells #[.int .i64 2, .int .i64 7, .slice (some ⟨b3, o3, none⟩) 5 k3] 27))) := Lib.hid (allocs_below [(#[.int .i64 2, .int .i64 7, .slice (some ⟨b3, o3, none⟩) 5 k3], 27)] _ (HB_9.out.trans (hb.mono HB_9.out.size)) (HB_9.out.trans (hb.mono HB_9.out.size)).size)
  have M_10 : Hid (Blk (v9.alloc (.cells #[.int .i64 2, .int .i64 7, .slice (some ⟨b3, o3, none⟩) 5 k3] 27)) v9.heap.size 27 #[.int .i64 2, .int .i64 7, .slice (some ⟨b3, o3, none⟩) 5 k3]) := Lib.hid (allocs_blk [(#[.int .i64 2, .int .i64 7, .slice (some ⟨b3, o3, none⟩) 5 k3], 27)] v9 0 _ rfl)
  clear hb S_9 R_9 T_9 E_9 F_9 C_9 HB_9
  have yy0 := S_10.out.cell (i := 0) (v := .int .i64 2) rfl; have yy1 := S_10.out.cell (i := 1) (v := .int .i64 7) rfl; have yy2 := S_10.out.cell (i := 2) (v := .slice A 5 5) rfl
  go_wp2_with fail
  refine (pthin_any 2 7 exds A 5 (-1) _ DS_10.out (show exds.length ≤ 9000000000000000000 from by decide) (Nat.le_refl _)).mono ?_
  rintro e v10 ⟨h, hb⟩
  rcases h with ⟨hyes, -⟩ | ⟨-, rfl⟩
  · exact absurd hyes.2.1 (by omega)
  clear yy0 yy1 yy2
  have DS_11 : Hid (Dz v10 A exds) := Lib.hid (DS_10.out.below hb (Nat.le_refl _))
  have Ia_11 : Hid (Iz v10 Ba [0, 2, 4]) := Lib.hid (Ia_10.out.below hb (Nat.le_refl _))
  have Ib_11 : Hid (Iz v10 Bb [0, 1, 2, 4]) := Lib.hid (Ib_10.out.below hb (Nat.le_refl _))
  have Ic_11 : Hid (Iz v10 Bc [0, 1, 2, 3, 4]) := Lib.hid (Ic_10.out.below hb (Nat.le_refl _))
  have DT_11 : Hid (Dz v10 A1 [⟨4095, 0, 0, 0⟩, ⟨4093, 50, 0, 0⟩, ⟨4095, 100, 0, 0⟩, ⟨4035, 100, 0, 0⟩, ⟨3995, 101, 0, 0⟩]) := Lib.hid (DT_10.out.below hb (Nat.le_refl _))
  have DC_11 : Hid (Dz v10 (some ⟨b2, o2, none⟩) [⟨0, 0, 0, 0⟩, ⟨100, 0, 0, 0⟩, ⟨101, 100, 0, 0⟩]) := Lib.hid (DC_10.out.below hb (Nat.le_refl _))
  have DM_11 : Hid (Dz v10 (some ⟨b3, o3, none⟩) [⟨1, 2, 0, 0⟩, ⟨51, 4, 0, 0⟩, ⟨101, 2, 0, 0⟩, ⟨101, 62, 0, 0⟩, ⟨102, 102, 0, 0⟩]) := Lib.hid (DM_10.out.below hb (Nat.le_refl _))
  clear DS_10 Ia_10 Ib_10 Ic_10 DT_10 DC_10 DM_10
  have S_11 : Hid (Blk v10 v0.heap.size 27 #[.int .i64 2, .int .i64 7, .slice A 5 5]) := Lib.hid (S_10.out.below hb S_10.out.lt)
  have R_11 : Hid (Blk v10 v1.heap.size 40 #[.int .i64 0, .int .i64 0, .int .i64 101, .int .i64 100]) := Lib.hid (R_10.out.below hb R_10.out.lt)
  have T_11 : Hid (Blk v10 v6.heap.size 27 #[.int .i64 2, .int .i64 7, .slice A1 5 k1]) := Lib.hid (T_10.out.below hb T_10.out.lt)
  have E_11 : Hid (Blk v10 v7.heap.size 29 #[.int .i64 4095, .int .i64 0]) := Lib.hid (E_10.out.below hb E_10.out.lt)
  have F_11 : Hid (Blk v10 (v7.heap.size + 1) 29 #[.int .i64 3995, .int .i64 101]) := Lib.hid (F_10.out.below hb F_10.out.lt)
  have C_11 : Hid (Blk v10 v8.heap.size 27 #[.int .i64 2, .int .i64 7, .slice (some ⟨b2, o2, none⟩) 3 k2]) := Lib.hid (C_10.out.below hb C_10.out.lt)
  have M_11 : Hid (Blk v10 v9.heap.size 27 #[.int .i64 2, .int .i64 7, .slice (some ⟨b3, o3, none⟩) 5 k3]) := Lib.hid (M_10.out.below hb M_10.out.lt)
  have HB_11 : Hid (Below w.heap.size w v10) := Lib.hid (HB_10.out.trans (hb.mono HB_10.out.size))
  clear hb S_10 R_10 T_10 E_10 F_10 C_10 M_10 HB_10
  have yy0 := S_11.out.cell (i := 0) (v := .int .i64 2) rfl; have yy1 := S_11.out.cell (i := 1) (v := .int .i64 7) rfl; have yy2 := S_11.out.cell (i := 2) (v := .slice A 5 5) rfl
  go_wp2_with fail
  refine (pkept_any 2 7 exds [] A none 5 0 _ DS_11.out (fun h => absurd h (by simp)) (show exds.length ≤ 9000000000000000000 from by decide) (by decide)).mono ?_
  rintro e v11 ⟨h, hb⟩
  rcases h with ⟨hyes, -⟩ | ⟨-, rfl⟩
  · exact absurd hyes ex_keptN
  clear yy0 yy1 yy2
  have DS_12 : Hid (Dz (v11.alloc (.cells #[.int .i64 0, .int .i64 0, .slice none 0 0] 27)) A exds) := Lib.hid (DS_11.out.below (allocs_below [(#[.int .i64 0, .int .i64 0, .slice none 0 0], 27)] _ hb hb.size) (Nat.le_refl _))
  have Ia_12 : Hid (Iz (v11.alloc (.cells #[.int .i64 0, .int .i64 0, .slice none 0 0] 27)) Ba [0, 2, 4]) := Lib.hid (Ia_11.out.below (allocs_below [(#[.int .i64 0, .int .i64 0, .slice none 0 0], 27)] _ hb hb.size) (Nat.le_refl _))
  have Ib_12 : Hid (Iz (v11.alloc (.cells #[.int .i64 0, .int .i64 0, .slice none 0 0] 27)) Bb [0, 1, 2, 4]) := Lib.hid (Ib_11.out.below (allocs_below [(#[.int .i64 0, .int .i64 0, .slice none 0 0], 27)] _ hb hb.size) (Nat.le_refl _))
  have Ic_12 : Hid (Iz (v11.alloc (.cells #[.int .i64 0, .int .i64 0, .slice none 0 0] 27)) Bc [0, 1, 2, 3, 4]) := Lib.hid (Ic_11.out.below (allocs_below [(#[.int .i64 0, .int .i64 0, .slice none 0 0], 27)] _ hb hb.size) (Nat.le_refl _))
  have DT_12 : Hid (Dz (v11.alloc (.cells #[.int .i64 0, .int .i64 0, .slice none 0 0] 27)) A1 [⟨4095, 0, 0, 0⟩, ⟨4093, 50, 0, 0⟩, ⟨4095, 100, 0, 0⟩, ⟨4035, 100, 0, 0⟩, ⟨3995, 101, 0, 0⟩]) := Lib.hid (DT_11.out.below (allocs_below [(#[.int .i64 0, .int .i64 0, .slice none 0 0], 27)] _ hb hb.size) (Nat.le_refl _))
  have DC_12 : Hid (Dz (v11.alloc (.cells #[.int .i64 0, .int .i64 0, .slice none 0 0] 27)) (some ⟨b2, o2, none⟩) [⟨0, 0, 0, 0⟩, ⟨100, 0, 0, 0⟩, ⟨101, 100, 0, 0⟩]) := Lib.hid (DC_11.out.below (allocs_below [(#[.int .i64 0, .int .i64 0, .slice none 0 0], 27)] _ hb hb.size) (Nat.le_refl _))
  have DM_12 : Hid (Dz (v11.alloc (.cells #[.int .i64 0, .int .i64 0, .slice none 0 0] 27)) (some ⟨b3, o3, none⟩) [⟨1, 2, 0, 0⟩, ⟨51, 4, 0, 0⟩, ⟨101, 2, 0, 0⟩, ⟨101, 62, 0, 0⟩, ⟨102, 102, 0, 0⟩]) := Lib.hid (DM_11.out.below (allocs_below [(#[.int .i64 0, .int .i64 0, .slice none 0 0], 27)] _ hb hb.size) (Nat.le_refl _))
  clear DS_11 Ia_11 Ib_11 Ic_11 DT_11 DC_11 DM_11
  have S_12 : Hid (Blk (v11.alloc (.cells #[.int .i64 0, .int .i64 0, .slice none 0 0] 27)) v0.heap.size 27 #[.int .i64 2, .int .i64 7, .slice A 5 5]) := Lib.hid (allocs_keep [(#[.int .i64 0, .int .i64 0, .slice none 0 0], 27)] _ (S_11.out.below hb S_11.out.lt))
  have R_12 : Hid (Blk (v11.alloc (.cells #[.int .i64 0, .int .i64 0, .slice none 0 0] 27)) v1.heap.size 40 #[.int .i64 0, .int .i64 0, .int .i64 101, .int .i64 100]) := Lib.hid (allocs_keep [(#[.int .i64 0, .int .i64 0, .slice none 0 0], 27)] _ (R_11.out.below hb R_11.out.lt))
  have T_12 : Hid (Blk (v11.alloc (.cells #[.int .i64 0, .int .i64 0, .slice none 0 0] 27)) v6.heap.size 27 #[.int .i64 2, .int .i64 7, .slice A1 5 k1]) := Lib.hid (allocs_keep [(#[.int .i64 0, .int .i64 0, .slice none 0 0], 27)] _ (T_11.out.below hb T_11.out.lt))
  have E_12 : Hid (Blk (v11.alloc (.cells #[.int .i64 0, .int .i64 0, .slice none 0 0] 27)) v7.heap.size 29 #[.int .i64 4095, .int .i64 0]) := Lib.hid (allocs_keep [(#[.int .i64 0, .int .i64 0, .slice none 0 0], 27)] _ (E_11.out.below hb E_11.out.lt))
  have F_12 : Hid (Blk (v11.alloc (.cells #[.int .i64 0, .int .i64 0, .slice none 0 0] 27)) (v7.heap.size + 1) 29 #[.int .i64 3995, .int .i64 101]) := Lib.hid (allocs_keep [(#[.int .i64 0, .int .i64 0, .slice none 0 0], 27)] _ (F_11.out.below hb F_11.out.lt))
  have C_12 : Hid (Blk (v11.alloc (.cells #[.int .i64 0, .int .i64 0, .slice none 0 0] 27)) v8.heap.size 27 #[.int .i64 2, .int .i64 7, .slice (some ⟨b2, o2, none⟩) 3 k2]) := Lib.hid (allocs_keep [(#[.int .i64 0, .int .i64 0, .slice none 0 0], 27)] _ (C_11.out.below hb C_11.out.lt))
  have M_12 : Hid (Blk (v11.alloc (.cells #[.int .i64 0, .int .i64 0, .slice none 0 0] 27)) v9.heap.size 27 #[.int .i64 2, .int .i64 7, .slice (some ⟨b3, o3, none⟩) 5 k3]) := Lib.hid (allocs_keep [(#[.int .i64 0, .int .i64 0, .slice none 0 0], 27)] _ (M_11.out.below hb M_11.out.lt))
  have HB_12 : Hid (Below w.heap.size w (v11.alloc (.cells #[.int .i64 0, .int .i64 0, .slice none 0 0] 27))) := Lib.hid (allocs_below [(#[.int .i64 0, .int .i64 0, .slice none 0 0], 27)] _ (HB_11.out.trans (hb.mono HB_11.out.size)) (HB_11.out.trans (hb.mono HB_11.out.size)).size)
  have X_12 : Hid (Blk (v11.alloc (.cells #[.int .i64 0, .int .i64 0, .slice none 0 0] 27)) v11.heap.size 27 #[.int .i64 0, .int .i64 0, .slice none 0 0]) := Lib.hid (allocs_blk [(#[.int .i64 0, .int .i64 0, .slice none 0 0], 27)] v11 0 _ rfl)
  clear hb S_11 R_11 T_11 E_11 F_11 C_11 M_11 HB_11
  have yy0 := C_12.out.cell (i := 2) (v := .slice (some ⟨b2, o2, none⟩) 3 k2) rfl
  have yy1 := M_12.out.cell (i := 2) (v := .slice (some ⟨b3, o3, none⟩) 5 k3) rfl
  go_upto_region 15 with fail
  clear yy0 yy1
  -- lists
  have hbk : Blk ((v11.alloc (.cells #[.int .i64 0, .int .i64 0, .slice none 0 0] 27)).alloc (.cells #[.int .i64 0, .int .i64 2, .int .i64 4] 3)) (v11.heap.size + 1) 3 (([0, 2, 4] : List Int).map iv).toArray := by have h := Blk.new (v11.alloc (.cells #[.int .i64 0, .int .i64 0, .slice none 0 0] 27)) 3 #[.int .i64 0, .int .i64 2, .int .i64 4]; rw [World.size_alloc] at h; exact h
  have hlz : Iz ((v11.alloc (.cells #[.int .i64 0, .int .i64 0, .slice none 0 0] 27)).alloc (.cells #[.int .i64 0, .int .i64 2, .int .i64 4] 3)) (some ⟨(v11.heap.size + 1), 0, none⟩) [0, 2, 4] := Iz.of_blk hbk
  clear hbk
  have HLZ := Lib.hid hlz; clear hlz
  have hal : Below (v11.alloc (.cells #[.int .i64 0, .int .i64 0, .slice none 0 0] 27)).heap.size (v11.alloc (.cells #[.int .i64 0, .int .i64 0, .slice none 0 0] 27)) ((v11.alloc (.cells #[.int .i64 0, .int .i64 0, .slice none 0 0] 27)).alloc (.cells #[.int .i64 0, .int .i64 2, .int .i64 4] 3)) := (Below.refl _ _).alloc (Nat.le_refl _) _
  have HAL := Lib.hid hal; clear hal
  go_wp2_with fail
  refine (rints_same [0, 2, 4] Ba _ ca 3 _ (Ia_12.out.below HAL.out (Nat.le_refl _)) HLZ.out (by decide)).mono ?_
  rintro e v12 ⟨rfl, hbq⟩
  have hb := HAL.out.trans (hbq.mono HAL.out.size); clear hbq HLZ HAL
  have DS_13 : Hid (Dz v12 A exds) := Lib.hid (DS_12.out.below hb (Nat.le_refl _))
  have Ia_13 : Hid (Iz v12 Ba [0, 2, 4]) := Lib.hid (Ia_12.out.below hb (Nat.le_refl _))
  have Ib_13 : Hid (Iz v12 Bb [0, 1, 2, 4]) := Lib.hid (Ib_12.out.below hb (Nat.le_refl _))
  have Ic_13 : Hid (Iz v12 Bc [0, 1, 2, 3, 4]) := Lib.hid (Ic_12.out.below hb (Nat.le_refl _))
  have DT_13 : Hid (Dz v12 A1 [⟨4095, 0, 0, 0⟩, ⟨4093, 50, 0, 0⟩, ⟨4095, 100, 0, 0⟩, ⟨4035, 100, 0, 0⟩, ⟨3995, 101, 0, 0⟩]) := Lib.hid (DT_12.out.below hb (Nat.le_refl _))
  have DC_13 : Hid (Dz v12 (some ⟨b2, o2, none⟩) [⟨0, 0, 0, 0⟩, ⟨100, 0, 0, 0⟩, ⟨101, 100, 0, 0⟩]) := Lib.hid (DC_12.out.below hb (Nat.le_refl _))
  have DM_13 : Hid (Dz v12 (some ⟨b3, o3, none⟩) [⟨1, 2, 0, 0⟩, ⟨51, 4, 0, 0⟩, ⟨101, 2, 0, 0⟩, ⟨101, 62, 0, 0⟩, ⟨102, 102, 0, 0⟩]) := Lib.hid (DM_12.out.below hb (Nat.le_refl _))
  clear DS_12 Ia_12 Ib_12 Ic_12 DT_12 DC_12 DM_12
  have S_13 : Hid (Blk v12 v0.heap.size 27 #[.int .i64 2, .int .i64 7, .slice A 5 5]) := Lib.hid (S_12.out.below hb S_12.out.lt)
  have R_13 : Hid (Blk v12 v1.heap.size 40 #[.int .i64 0, .int .i64 0, .int .i64 101, .int .i64 100]) := Lib.hid (R_12.out.below hb R_12.out.lt)
  have T_13 : Hid (Blk v12 v6.heap.size 27 #[.int .i64 2, .int .i64 7, .slice A1 5 k1]) := Lib.hid (T_12.out.below hb T_12.out.lt)
  have E_13 : Hid (Blk v12 v7.heap.size 29 #[.int .i64 4095, .int .i64 0]) := Lib.hid (E_12.out.below hb E_12.out.lt)
  have F_13 : Hid (Blk v12 (v7.heap.size + 1) 29 #[.int .i64 3995, .int .i64 101]) := Lib.hid (F_12.out.below hb F_12.out.lt)
  have C_13 : Hid (Blk v12 v8.heap.size 27 #[.int .i64 2, .int .i64 7, .slice (some ⟨b2, o2, none⟩) 3 k2]) := Lib.hid (C_12.out.below hb C_12.out.lt)
  have M_13 : Hid (Blk v12 v9.heap.size 27 #[.int .i64 2, .int .i64 7, .slice (some ⟨b3, o3, none⟩) 5 k3]) := Lib.hid (M_12.out.below hb M_12.out.lt)
  have X_13 : Hid (Blk v12 v11.heap.size 27 #[.int .i64 0, .int .i64 0, .slice none 0 0]) := Lib.hid (X_12.out.below hb X_12.out.lt)
  have HB_13 : Hid (Below w.heap.size w v12) := Lib.hid (HB_12.out.trans (hb.mono HB_12.out.size))
  clear hb S_12 R_12 T_12 E_12 F_12 C_12 M_12 X_12 HB_12
  have hbk : Blk (v12.alloc (.cells #[.int .i64 0, .int .i64 1, .int .i64 2, .int .i64 4] 3)) v12.heap.size 3 (([0, 1, 2, 4] : List Int).map iv).toArray := by have h := Blk.new v12 3 #[.int .i64 0, .int .i64 1, .int .i64 2, .int .i64 4]; exact h
  have hlz : Iz (v12.alloc (.cells #[.int .i64 0, .int .i64 1, .int .i64 2, .int .i64 4] 3)) (some ⟨v12.heap.size, 0, none⟩) [0, 1, 2, 4] := Iz.of_blk hbk
  clear hbk
  have HLZ := Lib.hid hlz; clear hlz
  have hal : Below v12.heap.size v12 (v12.alloc (.cells #[.int .i64 0, .int .i64 1, .int .i64 2, .int .i64 4] 3)) := (Below.refl _ _).alloc (Nat.le_refl _) _
  have HAL := Lib.hid hal; clear hal
  go_wp2_with fail
  refine (rints_same [0, 1, 2, 4] Bb _ cb 4 _ (Ib_13.out.below HAL.out (Nat.le_refl _)) HLZ.out (by decide)).mono ?_
  rintro e v13 ⟨rfl, hbq⟩
  have hb := HAL.out.trans (hbq.mono HAL.out.size); clear hbq HLZ HAL
  have DS_14 : Hid (Dz v13 A exds) := Lib.hid (DS_13.out.below hb (Nat.le_refl _))
  have Ia_14 : Hid (Iz v13 Ba [0, 2, 4]) := Lib.hid (Ia_13.out.below hb (Nat.le_refl _))
  have Ib_14 : Hid (Iz v13 Bb [0, 1, 2, 4]) := Lib.hid (Ib_13.out.below hb (Nat.le_refl _))
  have Ic_14 : Hid (Iz v13 Bc [0, 1, 2, 3, 4]) := Lib.hid (Ic_13.out.below hb (Nat.le_refl _))
  have DT_14 : Hid (Dz v13 A1 [⟨4095, 0, 0, 0⟩, ⟨4093, 50, 0, 0⟩, ⟨4095, 100, 0, 0⟩, ⟨4035, 100, 0, 0⟩, ⟨3995, 101, 0, 0⟩]) := Lib.hid (DT_13.out.below hb (Nat.le_refl _))
  have DC_14 : Hid (Dz v13 (some ⟨b2, o2, none⟩) [⟨0, 0, 0, 0⟩, ⟨100, 0, 0, 0⟩, ⟨101, 100, 0, 0⟩]) := Lib.hid (DC_13.out.below hb (Nat.le_refl _))
  have DM_14 : Hid (Dz v13 (some ⟨b3, o3, none⟩) [⟨1, 2, 0, 0⟩, ⟨51, 4, 0, 0⟩, ⟨101, 2, 0, 0⟩, ⟨101, 62, 0, 0⟩, ⟨102, 102, 0, 0⟩]) := Lib.hid (DM_13.out.below hb (Nat.le_refl _))
  clear DS_13 Ia_13 Ib_13 Ic_13 DT_13 DC_13 DM_13
  have S_14 : Hid (Blk v13 v0.heap.size 27 #[.int .i64 2, .int .i64 7, .slice A 5 5]) := Lib.hid (S_13.out.below hb S_13.out.lt)
  have R_14 : Hid (Blk v13 v1.heap.size 40 #[.int .i64 0, .int .i64 0, .int .i64 101, .int .i64 100]) := Lib.hid (R_13.out.below hb R_13.out.lt)
  have T_14 : Hid (Blk v13 v6.heap.size 27 #[.int .i64 2, .int .i64 7, .slice A1 5 k1]) := Lib.hid (T_13.out.below hb T_13.out.lt)
  have E_14 : Hid (Blk v13 v7.heap.size 29 #[.int .i64 4095, .int .i64 0]) := Lib.hid (E_13.out.below hb E_13.out.lt)
  have F_14 : Hid (Blk v13 (v7.heap.size + 1) 29 #[.int .i64 3995, .int .i64 101]) := Lib.hid (F_13.out.below hb F_13.out.lt)
  have C_14 : Hid (Blk v13 v8.heap.size 27 #[.int .i64 2, .int .i64 7, .slice (some ⟨b2, o2, none⟩) 3 k2]) := Lib.hid (C_13.out.below hb C_13.out.lt)
  have M_14 : Hid (Blk v13 v9.heap.size 27 #[.int .i64 2, .int .i64 7, .slice (some ⟨b3, o3, none⟩) 5 k3]) := Lib.hid (M_13.out.below hb M_13.out.lt)
  have X_14 : Hid (Blk v13 v11.heap.size 27 #[.int .i64 0, .int .i64 0, .slice none 0 0]) := Lib.hid (X_13.out.below hb X_13.out.lt)
  have HB_14 : Hid (Below w.heap.size w v13) := Lib.hid (HB_13.out.trans (hb.mono HB_13.out.size))
  clear hb S_13 R_13 T_13 E_13 F_13 C_13 M_13 X_13 HB_13
  have hbk : Blk (v13.alloc (.cells #[.int .i64 0, .int .i64 1, .int .i64 2, .int .i64 3, .int .i64 4] 3)) v13.heap.size 3 (([0, 1, 2, 3, 4] : List Int).map iv).toArray := by have h := Blk.new v13 3 #[.int .i64 0, .int .i64 1, .int .i64 2, .int .i64 3, .int .i64 4]; exact h
  have hlz : Iz (v13.alloc (.cells #[.int .i64 0, .int .i64 1, .int .i64 2, .int .i64 3, .int .i64 4] 3)) (some ⟨v13.heap.size, 0, none⟩) [0, 1, 2, 3, 4] := Iz.of_blk hbk
  clear hbk
  have HLZ := Lib.hid hlz; clear hlz
  have hal : Below v13.heap.size v13 (v13.alloc (.cells #[.int .i64 0, .int .i64 1, .int .i64 2, .int .i64 3, .int .i64 4] 3)) := (Below.refl _ _).alloc (Nat.le_refl _) _
  have HAL := Lib.hid hal; clear hal
  go_wp2_with fail
  refine (rints_same [0, 1, 2, 3, 4] Bc _ cc 5 _ (Ic_14.out.below HAL.out (Nat.le_refl _)) HLZ.out (by decide)).mono ?_
  rintro e v14 ⟨rfl, hbq⟩
  have hb := HAL.out.trans (hbq.mono HAL.out.size); clear hbq HLZ HAL
  have DS_15 : Hid (Dz v14 A exds) := Lib.hid (DS_14.out.below hb (Nat.le_refl _))
  have Ia_15 : Hid (Iz v14 Ba [0, 2, 4]) := Lib.hid (Ia_14.out.below hb (Nat.le_refl _))
  have Ib_15 : Hid (Iz v14 Bb [0, 1, 2, 4]) := Lib.hid (Ib_14.out.below hb (Nat.le_refl _))
  have Ic_15 : Hid (Iz v14 Bc [0, 1, 2, 3, 4]) := Lib.hid (Ic_14.out.below hb (Nat.le_refl _))
  have DT_15 : Hid (Dz v14 A1 [⟨4095, 0, 0, 0⟩, ⟨4093, 50, 0, 0⟩, ⟨4095, 100, 0, 0⟩, ⟨4035, 100, 0, 0⟩, ⟨3995, 101, 0, 0⟩]) := Lib.hid (DT_14.out.below hb (Nat.le_refl _))
  have DC_15 : Hid (Dz v14 (some ⟨b2, o2, none⟩) [⟨0, 0, 0, 0⟩, ⟨100, 0, 0, 0⟩, ⟨101, 100, 0, 0⟩]) := Lib.hid (DC_14.out.below hb (Nat.le_refl _))
  have DM_15 : Hid (Dz v14 (some ⟨b3, o3, none⟩) [⟨1, 2, 0, 0⟩, ⟨51, 4, 0, 0⟩, ⟨101, 2, 0, 0⟩, ⟨101, 62, 0, 0⟩, ⟨102, 102, 0, 0⟩]) := Lib.hid (DM_14.out.below hb (Nat.le_refl _))
  clear DS_14 Ia_14 Ib_14 Ic_14 DT_14 DC_14 DM_14
  have S_15 : Hid (Blk v14 v0.heap.size 27 #[.int .i64 2, .int .i64 7, .slice A 5 5]) := Lib.hid (S_14.out.below hb S_14.out.lt)
  have R_15 : Hid (Blk v14 v1.heap.size 40 #[.int .i64 0, .int .i64 0, .int .i64 101, .int .i64 100]) := Lib.hid (R_14.out.below hb R_14.out.lt)
  have T_15 : Hid (Blk v14 v6.heap.size 27 #[.int .i64 2, .int .i64 7, .slice A1 5 k1]) := Lib.hid (T_14.out.below hb T_14.out.lt)
  have E_15 : Hid (Blk v14 v7.heap.size 29 #[.int .i64 4095, .int .i64 0]) := Lib.hid (E_14.out.below hb E_14.out.lt)
  have F_15 : Hid (Blk v14 (v7.heap.size + 1) 29 #[.int .i64 3995, .int .i64 101]) := Lib.hid (F_14.out.below hb F_14.out.lt)
  have C_15 : Hid (Blk v14 v8.heap.size 27 #[.int .i64 2, .int .i64 7, .slice (some ⟨b2, o2, none⟩) 3 k2]) := Lib.hid (C_14.out.below hb C_14.out.lt)
  have M_15 : Hid (Blk v14 v9.heap.size 27 #[.int .i64 2, .int .i64 7, .slice (some ⟨b3, o3, none⟩) 5 k3]) := Lib.hid (M_14.out.below hb M_14.out.lt)
  have X_15 : Hid (Blk v14 v11.heap.size 27 #[.int .i64 0, .int .i64 0, .slice none 0 0]) := Lib.hid (X_14.out.below hb X_14.out.lt)
  have HB_15 : Hid (Below w.heap.size w v14) := Lib.hid (HB_14.out.trans (hb.mono HB_14.out.size))
  clear hb S_14 R_14 T_14 E_14 F_14 C_14 M_14 X_14 HB_14
  go_wp2_with fail
  refine (exnear3 _).mono ?_
  rintro e v15 ⟨rfl, hb⟩
  have DS_16 : Hid (Dz v15 A exds) := Lib.hid (DS_15.out.below hb (Nat.le_refl _))
  have Ia_16 : Hid (Iz v15 Ba [0, 2, 4]) := Lib.hid (Ia_15.out.below hb (Nat.le_refl _))
  have Ib_16 : Hid (Iz v15 Bb [0, 1, 2, 4]) := Lib.hid (Ib_15.out.below hb (Nat.le_refl _))
  have Ic_16 : Hid (Iz v15 Bc [0, 1, 2, 3, 4]) := Lib.hid (Ic_15.out.below hb (Nat.le_refl _))
  have DT_16 : Hid (Dz v15 A1 [⟨4095, 0, 0, 0⟩, ⟨4093, 50, 0, 0⟩, ⟨4095, 100, 0, 0⟩, ⟨4035, 100, 0, 0⟩, ⟨3995, 101, 0, 0⟩]) := Lib.hid (DT_15.out.below hb (Nat.le_refl _))
  have DC_16 : Hid (Dz v15 (some ⟨b2, o2, none⟩) [⟨0, 0, 0, 0⟩, ⟨100, 0, 0, 0⟩, ⟨101, 100, 0, 0⟩]) := Lib.hid (DC_15.out.below hb (Nat.le_refl _))
  have DM_16 : Hid (Dz v15 (some ⟨b3, o3, none⟩) [⟨1, 2, 0, 0⟩, ⟨51, 4, 0, 0⟩, ⟨101, 2, 0, 0⟩, ⟨101, 62, 0, 0⟩, ⟨102, 102, 0, 0⟩]) := Lib.hid (DM_15.out.below hb (Nat.le_refl _))
  clear DS_15 Ia_15 Ib_15 Ic_15 DT_15 DC_15 DM_15
  have S_16 : Hid (Blk v15 v0.heap.size 27 #[.int .i64 2, .int .i64 7, .slice A 5 5]) := Lib.hid (S_15.out.below hb S_15.out.lt)
  have R_16 : Hid (Blk v15 v1.heap.size 40 #[.int .i64 0, .int .i64 0, .int .i64 101, .int .i64 100]) := Lib.hid (R_15.out.below hb R_15.out.lt)
  have T_16 : Hid (Blk v15 v6.heap.size 27 #[.int .i64 2, .int .i64 7, .slice A1 5 k1]) := Lib.hid (T_15.out.below hb T_15.out.lt)
  have E_16 : Hid (Blk v15 v7.heap.size 29 #[.int .i64 4095, .int .i64 0]) := Lib.hid (E_15.out.below hb E_15.out.lt)
  have F_16 : Hid (Blk v15 (v7.heap.size + 1) 29 #[.int .i64 3995, .int .i64 101]) := Lib.hid (F_15.out.below hb F_15.out.lt)
  have C_16 : Hid (Blk v15 v8.heap.size 27 #[.int .i64 2, .int .i64 7, .slice (some ⟨b2, o2, none⟩) 3 k2]) := Lib.hid (C_15.out.below hb C_15.out.lt)
  have M_16 : Hid (Blk v15 v9.heap.size 27 #[.int .i64 2, .int .i64 7, .slice (some ⟨b3, o3, none⟩) 5 k3]) := Lib.hid (M_15.out.below hb M_15.out.lt)
  have X_16 : Hid (Blk v15 v11.heap.size 27 #[.int .i64 0, .int .i64 0, .slice none 0 0]) := Lib.hid (X_15.out.below hb X_15.out.lt)
  have HB_16 : Hid (Below w.heap.size w v15) := Lib.hid (HB_15.out.trans (hb.mono HB_15.out.size))
  clear hb S_15 R_15 T_15 E_15 F_15 C_15 M_15 X_15 HB_15
  go_wp2_with fail
  refine (exnear2 _).mono ?_
  rintro e v16 ⟨rfl, hb⟩
  have DS_17 : Hid (Dz v16 A exds) := Lib.hid (DS_16.out.below hb (Nat.le_refl _))
  have Ia_17 : Hid (Iz v16 Ba [0, 2, 4]) := Lib.hid (Ia_16.out.below hb (Nat.le_refl _))
  have Ib_17 : Hid (Iz v16 Bb [0, 1, 2, 4]) := Lib.hid (Ib_16.out.below hb (Nat.le_refl _))
  have Ic_17 : Hid (Iz v16 Bc [0, 1, 2, 3, 4]) := Lib.hid (Ic_16.out.below hb (Nat.le_refl _))
  have DT_17 : Hid (Dz v16 A1 [⟨4095, 0, 0, 0⟩, ⟨4093, 50, 0, 0⟩, ⟨4095, 100, 0, 0⟩, ⟨4035, 100, 0, 0⟩, ⟨3995, 101, 0, 0⟩]) := Lib.hid (DT_16.out.below hb (Nat.le_refl _))
  have DC_17 : Hid (Dz v16 (some ⟨b2, o2, none⟩) [⟨0, 0, 0, 0⟩, ⟨100, 0, 0, 0⟩, ⟨101, 100, 0, 0⟩]) := Lib.hid (DC_16.out.below hb (Nat.le_refl _))
  have DM_17 : Hid (Dz v16 (some ⟨b3, o3, none⟩) [⟨1, 2, 0, 0⟩, ⟨51, 4, 0, 0⟩, ⟨101, 2, 0, 0⟩, ⟨101, 62, 0, 0⟩, ⟨102, 102, 0, 0⟩]) := Lib.hid (DM_16.out.below hb (Nat.le_refl _))
  clear DS_16 Ia_16 Ib_16 Ic_16 DT_16 DC_16 DM_16
  have S_17 : Hid (Blk v16 v0.heap.size 27 #[.int .i64 2, .int .i64 7, .slice A 5 5]) := Lib.hid (S_16.out.below hb S_16.out.lt)
  have R_17 : Hid (Blk v16 v1.heap.size 40 #[.int .i64 0, .int .i64 0, .int .i64 101, .int .i64 100]) := Lib.hid (R_16.out.below hb R_16.out.lt)
  have T_17 : Hid (Blk v16 v6.heap.size 27 #[.int .i64 2, .int .i64 7, .slice A1 5 k1]) := Lib.hid (T_16.out.below hb T_16.out.lt)
  have E_17 : Hid (Blk v16 v7.heap.size 29 #[.int .i64 4095, .int .i64 0]) := Lib.hid (E_16.out.below hb E_16.out.lt)
  have F_17 : Hid (Blk v16 (v7.heap.size + 1) 29 #[.int .i64 3995, .int .i64 101]) := Lib.hid (F_16.out.below hb F_16.out.lt)
  have C_17 : Hid (Blk v16 v8.heap.size 27 #[.int .i64 2, .int .i64 7, .slice (some ⟨b2, o2, none⟩) 3 k2]) := Lib.hid (C_16.out.below hb C_16.out.lt)
  have M_17 : Hid (Blk v16 v9.heap.size 27 #[.int .i64 2, .int .i64 7, .slice (some ⟨b3, o3, none⟩) 5 k3]) := Lib.hid (M_16.out.below hb M_16.out.lt)
  have X_17 : Hid (Blk v16 v11.heap.size 27 #[.int .i64 0, .int .i64 0, .slice none 0 0]) := Lib.hid (X_16.out.below hb X_16.out.lt)
  have HB_17 : Hid (Below w.heap.size w v16) := Lib.hid (HB_16.out.trans (hb.mono HB_16.out.size))
  clear hb S_16 R_16 T_16 E_16 F_16 C_16 M_16 X_16 HB_16
  have yy0 := S_17.out.cell (i := 0) (v := .int .i64 2) rfl; have yy1 := S_17.out.cell (i := 1) (v := .int .i64 7) rfl; have yy2 := S_17.out.cell (i := 2) (v := .slice A 5 5) rfl
  go_wp2_with fail
  refine (excode A _ DS_17.out).mono ?_
  rintro e v17 ⟨rfl, hb⟩
  clear yy0 yy1 yy2
  have DS_18 : Hid (Dz v17 A exds) := Lib.hid (DS_17.out.below hb (Nat.le_refl _))
  have Ia_18 : Hid (Iz v17 Ba [0, 2, 4]) := Lib.hid (Ia_17.out.below hb (Nat.le_refl _))
  have Ib_18 : Hid (Iz v17 Bb [0, 1, 2, 4]) := Lib.hid (Ib_17.out.below hb (Nat.le_refl _))
  have Ic_18 : Hid (Iz v17 Bc [0, 1, 2, 3, 4]) := Lib.hid (Ic_17.out.below hb (Nat.le_refl _))
  have DT_18 : Hid (Dz v17 A1 [⟨4095, 0, 0, 0⟩, ⟨4093, 50, 0, 0⟩, ⟨4095, 100, 0, 0⟩, ⟨4035, 100, 0, 0⟩, ⟨3995, 101, 0, 0⟩]) := Lib.hid (DT_17.out.below hb (Nat.le_refl _))
  have DC_18 : Hid (Dz v17 (some ⟨b2, o2, none⟩) [⟨0, 0, 0, 0⟩, ⟨100, 0, 0, 0⟩, ⟨101, 100, 0, 0⟩]) := Lib.hid (DC_17.out.below hb (Nat.le_refl _))
  have DM_18 : Hid (Dz v17 (some ⟨b3, o3, none⟩) [⟨1, 2, 0, 0⟩, ⟨51, 4, 0, 0⟩, ⟨101, 2, 0, 0⟩, ⟨101, 62, 0, 0⟩, ⟨102, 102, 0, 0⟩]) := Lib.hid (DM_17.out.below hb (Nat.le_refl _))
  clear DS_17 Ia_17 Ib_17 Ic_17 DT_17 DC_17 DM_17
  have S_18 : Hid (Blk v17 v0.heap.size 27 #[.int .i64 2, .int .i64 7, .slice A 5 5]) := Lib.hid (S_17.out.below hb S_17.out.lt)
  have R_18 : Hid (Blk v17 v1.heap.size 40 #[.int .i64 0, .int .i64 0, .int .i64 101, .int .i64 100]) := Lib.hid (R_17.out.below hb R_17.out.lt)
  have T_18 : Hid (Blk v17 v6.heap.size 27 #[.int .i64 2, .int .i64 7, .slice A1 5 k1]) := Lib.hid (T_17.out.below hb T_17.out.lt)
  have E_18 : Hid (Blk v17 v7.heap.size 29 #[.int .i64 4095, .int .i64 0]) := Lib.hid (E_17.out.below hb E_17.out.lt)
  have F_18 : Hid (Blk v17 (v7.heap.size + 1) 29 #[.int .i64 3995, .int .i64 101]) := Lib.hid (F_17.out.below hb F_17.out.lt)
  have C_18 : Hid (Blk v17 v8.heap.size 27 #[.int .i64 2, .int .i64 7, .slice (some ⟨b2, o2, none⟩) 3 k2]) := Lib.hid (C_17.out.below hb C_17.out.lt)
  have M_18 : Hid (Blk v17 v9.heap.size 27 #[.int .i64 2, .int .i64 7, .slice (some ⟨b3, o3, none⟩) 5 k3]) := Lib.hid (M_17.out.below hb M_17.out.lt)
  have X_18 : Hid (Blk v17 v11.heap.size 27 #[.int .i64 0, .int .i64 0, .slice none 0 0]) := Lib.hid (X_17.out.below hb X_17.out.lt)
  have HB_18 : Hid (Below w.heap.size w v17) := Lib.hid (HB_17.out.trans (hb.mono HB_17.out.size))
  clear hb S_17 R_17 T_17 E_17 F_17 C_17 M_17 X_17 HB_17
  obtain ⟨bz, oz, hez, -, hcz⟩ := DC_18.out (by decide)
  obtain ⟨rfl, rfl, -⟩ : b2 = bz ∧ o2 = oz ∧ True := by simpa using hez
  have hc4 := hcz 1 (by decide); clear hcz hez
  have m0 : v17.cell? ⟨b2, o2 + 4, none⟩ = some (.int .i64 100) := by have h := hc4.1; exact h
  have m1 : v17.cell? ⟨b2, o2 + 5, none⟩ = some (.int .i64 0) := by have h := hc4.2.1; exact h
  have m2 : v17.cell? ⟨b2, o2 + 6, none⟩ = some (.int .i64 0) := by have h := hc4.2.2.1; exact h
  have m3 : v17.cell? ⟨b2, o2 + 7, none⟩ = some (.int .i64 0) := by have h := hc4.2.2.2; exact h
  clear hc4
  obtain ⟨bz, oz, hez, -, hcz⟩ := DM_18.out (by decide)
  obtain ⟨rfl, rfl, -⟩ : b3 = bz ∧ o3 = oz ∧ True := by simpa using hez
  have hc4 := hcz 4 (by decide); clear hcz hez
  have n0 : v17.cell? ⟨b3, o3 + 16, none⟩ = some (.int .i64 102) := by have h := hc4.1; exact h
  have n1 : v17.cell? ⟨b3, o3 + 17, none⟩ = some (.int .i64 102) := by have h := hc4.2.1; exact h
  have n2 : v17.cell? ⟨b3, o3 + 18, none⟩ = some (.int .i64 0) := by have h := hc4.2.2.1; exact h
  have n3 : v17.cell? ⟨b3, o3 + 19, none⟩ = some (.int .i64 0) := by have h := hc4.2.2.2; exact h
  clear hc4
  have yy0 := R_18.out.cell (i := 0) (v := .int .i64 0) rfl; have yy1 := R_18.out.cell (i := 1) (v := .int .i64 0) rfl; have yy2 := R_18.out.cell (i := 2) (v := .int .i64 101) rfl; have yy3 := R_18.out.cell (i := 3) (v := .int .i64 100) rfl
  have yy4 := E_18.out.cell (i := 0) (v := .int .i64 4095) rfl; have yy5 := E_18.out.cell (i := 1) (v := .int .i64 0) rfl
  have yy6 := F_18.out.cell (i := 0) (v := .int .i64 3995) rfl; have yy7 := F_18.out.cell (i := 1) (v := .int .i64 101) rfl
  have yy8 := C_18.out.cell (i := 2) (v := .slice (some ⟨b2, o2, none⟩) 3 k2) rfl
  have yy9 := M_18.out.cell (i := 2) (v := .slice (some ⟨b3, o3, none⟩) 5 k3) rfl
  have yy10 := S_18.out.cell (i := 0) (v := .int .i64 2) rfl; have yy11 := S_18.out.cell (i := 1) (v := .int .i64 7) rfl; have yy12 := S_18.out.cell (i := 2) (v := .slice A 5 5) rfl
  go_wp2_with fail
  refine (exwithin A _ DS_18.out).mono ?_
  rintro e v18 ⟨rfl, hb⟩
  clear m0 n0 m1 n1 m2 n2 m3 n3
  clear yy0 yy1 yy2 yy3 yy4 yy5 yy6 yy7 yy8 yy9 yy10 yy11 yy12
  have DS_19 : Hid (Dz v18 A exds) := Lib.hid (DS_18.out.below hb (Nat.le_refl _))
  have Ia_19 : Hid (Iz v18 Ba [0, 2, 4]) := Lib.hid (Ia_18.out.below hb (Nat.le_refl _))
  have Ib_19 : Hid (Iz v18 Bb [0, 1, 2, 4]) := Lib.hid (Ib_18.out.below hb (Nat.le_refl _))
  have Ic_19 : Hid (Iz v18 Bc [0, 1, 2, 3, 4]) := Lib.hid (Ic_18.out.below hb (Nat.le_refl _))
  have DT_19 : Hid (Dz v18 A1 [⟨4095, 0, 0, 0⟩, ⟨4093, 50, 0, 0⟩, ⟨4095, 100, 0, 0⟩, ⟨4035, 100, 0, 0⟩, ⟨3995, 101, 0, 0⟩]) := Lib.hid (DT_18.out.below hb (Nat.le_refl _))
  have DC_19 : Hid (Dz v18 (some ⟨b2, o2, none⟩) [⟨0, 0, 0, 0⟩, ⟨100, 0, 0, 0⟩, ⟨101, 100, 0, 0⟩]) := Lib.hid (DC_18.out.below hb (Nat.le_refl _))
  have DM_19 : Hid (Dz v18 (some ⟨b3, o3, none⟩) [⟨1, 2, 0, 0⟩, ⟨51, 4, 0, 0⟩, ⟨101, 2, 0, 0⟩, ⟨101, 62, 0, 0⟩, ⟨102, 102, 0, 0⟩]) := Lib.hid (DM_18.out.below hb (Nat.le_refl _))
  clear DS_18 Ia_18 Ib_18 Ic_18 DT_18 DC_18 DM_18
  have S_19 : Hid (Blk v18 v0.heap.size 27 #[.int .i64 2, .int .i64 7, .slice A 5 5]) := Lib.hid (S_18.out.below hb S_18.out.lt)
  have R_19 : Hid (Blk v18 v1.heap.size 40 #[.int .i64 0, .int .i64 0, .int .i64 101, .int .i64 100]) := Lib.hid (R_18.out.below hb R_18.out.lt)
  have T_19 : Hid (Blk v18 v6.heap.size 27 #[.int .i64 2, .int .i64 7, .slice A1 5 k1]) := Lib.hid (T_18.out.below hb T_18.out.lt)
  have E_19 : Hid (Blk v18 v7.heap.size 29 #[.int .i64 4095, .int .i64 0]) := Lib.hid (E_18.out.below hb E_18.out.lt)
  have F_19 : Hid (Blk v18 (v7.heap.size + 1) 29 #[.int .i64 3995, .int .i64 101]) := Lib.hid (F_18.out.below hb F_18.out.lt)
  have C_19 : Hid (Blk v18 v8.heap.size 27 #[.int .i64 2, .int .i64 7, .slice (some ⟨b2, o2, none⟩) 3 k2]) := Lib.hid (C_18.out.below hb C_18.out.lt)
  have M_19 : Hid (Blk v18 v9.heap.size 27 #[.int .i64 2, .int .i64 7, .slice (some ⟨b3, o3, none⟩) 5 k3]) := Lib.hid (M_18.out.below hb M_18.out.lt)
  have X_19 : Hid (Blk v18 v11.heap.size 27 #[.int .i64 0, .int .i64 0, .slice none 0 0]) := Lib.hid (X_18.out.below hb X_18.out.lt)
  have HB_19 : Hid (Below w.heap.size w v18) := Lib.hid (HB_18.out.trans (hb.mono HB_18.out.size))
  clear hb S_18 R_18 T_18 E_18 F_18 C_18 M_18 X_18 HB_18
  have yy0 := S_19.out.cell (i := 0) (v := .int .i64 2) rfl; have yy1 := S_19.out.cell (i := 1) (v := .int .i64 7) rfl; have yy2 := S_19.out.cell (i := 2) (v := .slice A 5 5) rfl
  go_wp2_with fail
  refine (pvalid_yes 2 7 exds A 5 _ DS_19.out (show exds.length ≤ 9000000000000000000 from by decide) ex_vd).mono ?_
  rintro e v19 ⟨rfl, hb⟩
  clear yy0 yy1 yy2
  have DS_20 : Hid (Dz v19 A exds) := Lib.hid (DS_19.out.below hb (Nat.le_refl _))
  have Ia_20 : Hid (Iz v19 Ba [0, 2, 4]) := Lib.hid (Ia_19.out.below hb (Nat.le_refl _))
  have Ib_20 : Hid (Iz v19 Bb [0, 1, 2, 4]) := Lib.hid (Ib_19.out.below hb (Nat.le_refl _))
  have Ic_20 : Hid (Iz v19 Bc [0, 1, 2, 3, 4]) := Lib.hid (Ic_19.out.below hb (Nat.le_refl _))
  have DT_20 : Hid (Dz v19 A1 [⟨4095, 0, 0, 0⟩, ⟨4093, 50, 0, 0⟩, ⟨4095, 100, 0, 0⟩, ⟨4035, 100, 0, 0⟩, ⟨3995, 101, 0, 0⟩]) := Lib.hid (DT_19.out.below hb (Nat.le_refl _))
  have DC_20 : Hid (Dz v19 (some ⟨b2, o2, none⟩) [⟨0, 0, 0, 0⟩, ⟨100, 0, 0, 0⟩, ⟨101, 100, 0, 0⟩]) := Lib.hid (DC_19.out.below hb (Nat.le_refl _))
  have DM_20 : Hid (Dz v19 (some ⟨b3, o3, none⟩) [⟨1, 2, 0, 0⟩, ⟨51, 4, 0, 0⟩, ⟨101, 2, 0, 0⟩, ⟨101, 62, 0, 0⟩, ⟨102, 102, 0, 0⟩]) := Lib.hid (DM_19.out.below hb (Nat.le_refl _))
  clear DS_19 Ia_19 Ib_19 Ic_19 DT_19 DC_19 DM_19
  have S_20 : Hid (Blk v19 v0.heap.size 27 #[.int .i64 2, .int .i64 7, .slice A 5 5]) := Lib.hid (S_19.out.below hb S_19.out.lt)
  have R_20 : Hid (Blk v19 v1.heap.size 40 #[.int .i64 0, .int .i64 0, .int .i64 101, .int .i64 100]) := Lib.hid (R_19.out.below hb R_19.out.lt)
  have T_20 : Hid (Blk v19 v6.heap.size 27 #[.int .i64 2, .int .i64 7, .slice A1 5 k1]) := Lib.hid (T_19.out.below hb T_19.out.lt)
  have E_20 : Hid (Blk v19 v7.heap.size 29 #[.int .i64 4095, .int .i64 0]) := Lib.hid (E_19.out.below hb E_19.out.lt)
  have F_20 : Hid (Blk v19 (v7.heap.size + 1) 29 #[.int .i64 3995, .int .i64 101]) := Lib.hid (F_19.out.below hb F_19.out.lt)
  have C_20 : Hid (Blk v19 v8.heap.size 27 #[.int .i64 2, .int .i64 7, .slice (some ⟨b2, o2, none⟩) 3 k2]) := Lib.hid (C_19.out.below hb C_19.out.lt)
  have M_20 : Hid (Blk v19 v9.heap.size 27 #[.int .i64 2, .int .i64 7, .slice (some ⟨b3, o3, none⟩) 5 k3]) := Lib.hid (M_19.out.below hb M_19.out.lt)
  have X_20 : Hid (Blk v19 v11.heap.size 27 #[.int .i64 0, .int .i64 0, .slice none 0 0]) := Lib.hid (X_19.out.below hb X_19.out.lt)
  have HB_20 : Hid (Below w.heap.size w v19) := Lib.hid (HB_19.out.trans (hb.mono HB_19.out.size))
  clear hb S_19 R_19 T_19 E_19 F_19 C_19 M_19 X_19 HB_19
  go_wp2_with fail
  refine (pvalid_not 0 0 [] none 0 _ (fun h => absurd h (by decide)) (by decide) (fun h => absurd h.2.1.1 (by omega))).mono ?_
  rintro e v20 ⟨rfl, hb⟩
  have DS_21 : Hid (Dz v20 A exds) := Lib.hid (DS_20.out.below hb (Nat.le_refl _))
  have Ia_21 : Hid (Iz v20 Ba [0, 2, 4]) := Lib.hid (Ia_20.out.below hb (Nat.le_refl _))
  have Ib_21 : Hid (Iz v20 Bb [0, 1, 2, 4]) := Lib.hid (Ib_20.out.below hb (Nat.le_refl _))
  have Ic_21 : Hid (Iz v20 Bc [0, 1, 2, 3, 4]) := Lib.hid (Ic_20.out.below hb (Nat.le_refl _))
  have DT_21 : Hid (Dz v20 A1 [⟨4095, 0, 0, 0⟩, ⟨4093, 50, 0, 0⟩, ⟨4095, 100, 0, 0⟩, ⟨4035, 100, 0, 0⟩, ⟨3995, 101, 0, 0⟩]) := Lib.hid (DT_20.out.below hb (Nat.le_refl _))
  have DC_21 : Hid (Dz v20 (some ⟨b2, o2, none⟩) [⟨0, 0, 0, 0⟩, ⟨100, 0, 0, 0⟩, ⟨101, 100, 0, 0⟩]) := Lib.hid (DC_20.out.below hb (Nat.le_refl _))
  have DM_21 : Hid (Dz v20 (some ⟨b3, o3, none⟩) [⟨1, 2, 0, 0⟩, ⟨51, 4, 0, 0⟩, ⟨101, 2, 0, 0⟩, ⟨101, 62, 0, 0⟩, ⟨102, 102, 0, 0⟩]) := Lib.hid (DM_20.out.below hb (Nat.le_refl _))
  clear DS_20 Ia_20 Ib_20 Ic_20 DT_20 DC_20 DM_20
  have S_21 : Hid (Blk v20 v0.heap.size 27 #[.int .i64 2, .int .i64 7, .slice A 5 5]) := Lib.hid (S_20.out.below hb S_20.out.lt)
  have R_21 : Hid (Blk v20 v1.heap.size 40 #[.int .i64 0, .int .i64 0, .int .i64 101, .int .i64 100]) := Lib.hid (R_20.out.below hb R_20.out.lt)
  have T_21 : Hid (Blk v20 v6.heap.size 27 #[.int .i64 2, .int .i64 7, .slice A1 5 k1]) := Lib.hid (T_20.out.below hb T_20.out.lt)
  have E_21 : Hid (Blk v20 v7.heap.size 29 #[.int .i64 4095, .int .i64 0]) := Lib.hid (E_20.out.below hb E_20.out.lt)
  have F_21 : Hid (Blk v20 (v7.heap.size + 1) 29 #[.int .i64 3995, .int .i64 101]) := Lib.hid (F_20.out.below hb F_20.out.lt)
  have C_21 : Hid (Blk v20 v8.heap.size 27 #[.int .i64 2, .int .i64 7, .slice (some ⟨b2, o2, none⟩) 3 k2]) := Lib.hid (C_20.out.below hb C_20.out.lt)
  have M_21 : Hid (Blk v20 v9.heap.size 27 #[.int .i64 2, .int .i64 7, .slice (some ⟨b3, o3, none⟩) 5 k3]) := Lib.hid (M_20.out.below hb M_20.out.lt)
  have X_21 : Hid (Blk v20 v11.heap.size 27 #[.int .i64 0, .int .i64 0, .slice none 0 0]) := Lib.hid (X_20.out.below hb X_20.out.lt)
  have HB_21 : Hid (Below w.heap.size w v20) := Lib.hid (HB_20.out.trans (hb.mono HB_20.out.size))
  clear hb S_20 R_20 T_20 E_20 F_20 C_20 M_20 X_20 HB_20
  have yy0 := S_21.out.cell (i := 0) (v := .int .i64 2) rfl; have yy1 := S_21.out.cell (i := 1) (v := .int .i64 7) rfl; have yy2 := S_21.out.cell (i := 2) (v := .slice A 5 5) rfl
  go_wp2_with fail
  refine (exsame A _ DS_21.out).mono ?_
  rintro e v21 ⟨rfl, hb⟩
  clear yy0 yy1 yy2
  have DS_22 : Hid (Dz v21 A exds) := Lib.hid (DS_21.out.below hb (Nat.le_refl _))
  have Ia_22 : Hid (Iz v21 Ba [0, 2, 4]) := Lib.hid (Ia_21.out.below hb (Nat.le_refl _))
  have Ib_22 : Hid (Iz v21 Bb [0, 1, 2, 4]) := Lib.hid (Ib_21.out.below hb (Nat.le_refl _))
  have Ic_22 : Hid (Iz v21 Bc [0, 1, 2, 3, 4]) := Lib.hid (Ic_21.out.below hb (Nat.le_refl _))
  have DT_22 : Hid (Dz v21 A1 [⟨4095, 0, 0, 0⟩, ⟨4093, 50, 0, 0⟩, ⟨4095, 100, 0, 0⟩, ⟨4035, 100, 0, 0⟩, ⟨3995, 101, 0, 0⟩]) := Lib.hid (DT_21.out.below hb (Nat.le_refl _))
  have DC_22 : Hid (Dz v21 (some ⟨b2, o2, none⟩) [⟨0, 0, 0, 0⟩, ⟨100, 0, 0, 0⟩, ⟨101, 100, 0, 0⟩]) := Lib.hid (DC_21.out.below hb (Nat.le_refl _))
  have DM_22 : Hid (Dz v21 (some ⟨b3, o3, none⟩) [⟨1, 2, 0, 0⟩, ⟨51, 4, 0, 0⟩, ⟨101, 2, 0, 0⟩, ⟨101, 62, 0, 0⟩, ⟨102, 102, 0, 0⟩]) := Lib.hid (DM_21.out.below hb (Nat.le_refl _))
  clear DS_21 Ia_21 Ib_21 Ic_21 DT_21 DC_21 DM_21
  have S_22 : Hid (Blk v21 v0.heap.size 27 #[.int .i64 2, .int .i64 7, .slice A 5 5]) := Lib.hid (S_21.out.below hb S_21.out.lt)
  have R_22 : Hid (Blk v21 v1.heap.size 40 #[.int .i64 0, .int .i64 0, .int .i64 101, .int .i64 100]) := Lib.hid (R_21.out.below hb R_21.out.lt)
  have T_22 : Hid (Blk v21 v6.heap.size 27 #[.int .i64 2, .int .i64 7, .slice A1 5 k1]) := Lib.hid (T_21.out.below hb T_21.out.lt)
  have E_22 : Hid (Blk v21 v7.heap.size 29 #[.int .i64 4095, .int .i64 0]) := Lib.hid (E_21.out.below hb E_21.out.lt)
  have F_22 : Hid (Blk v21 (v7.heap.size + 1) 29 #[.int .i64 3995, .int .i64 101]) := Lib.hid (F_21.out.below hb F_21.out.lt)
  have C_22 : Hid (Blk v21 v8.heap.size 27 #[.int .i64 2, .int .i64 7, .slice (some ⟨b2, o2, none⟩) 3 k2]) := Lib.hid (C_21.out.below hb C_21.out.lt)
  have M_22 : Hid (Blk v21 v9.heap.size 27 #[.int .i64 2, .int .i64 7, .slice (some ⟨b3, o3, none⟩) 5 k3]) := Lib.hid (M_21.out.below hb M_21.out.lt)
  have X_22 : Hid (Blk v21 v11.heap.size 27 #[.int .i64 0, .int .i64 0, .slice none 0 0]) := Lib.hid (X_21.out.below hb X_21.out.lt)
  have HB_22 : Hid (Below w.heap.size w v21) := Lib.hid (HB_21.out.trans (hb.mono HB_21.out.size))
  clear hb S_21 R_21 T_21 E_21 F_21 C_21 M_21 X_21 HB_21
  have hns : ∀ W, Dz W A exds → Dz W A1 [⟨4095, 0, 0, 0⟩, ⟨4093, 50, 0, 0⟩, ⟨4095, 100, 0, 0⟩, ⟨4035, 100, 0, 0⟩, ⟨3995, 101, 0, 0⟩] → Calls Try.prog 24 #[.agg #[.int .i64 2, .int .i64 7, .slice A 5 5], .agg #[.int .i64 2, .int .i64 7, .slice A1 5 k1]] W fun e w' => e = .returned (.bool false) ∧ Below W.heap.size W w' := fun W h1 h2 => by
    have h := psame_any 2 7 2 7 exds [⟨4095, 0, 0, 0⟩, ⟨4093, 50, 0, 0⟩, ⟨4095, 100, 0, 0⟩, ⟨4035, 100, 0, 0⟩, ⟨3995, 101, 0, 0⟩] A A1 5 k1 W h1 h2 (by decide) (by decide)
    rwa [decide_eq_false (show ¬ SameS 2 7 2 7 exds [⟨4095, 0, 0, 0⟩, ⟨4093, 50, 0, 0⟩, ⟨4095, 100, 0, 0⟩, ⟨4035, 100, 0, 0⟩, ⟨3995, 101, 0, 0⟩] from fun h => absurd h.2.2 (by decide))] at h
  have HNS := Lib.hid hns; clear hns
  have yy0 := S_22.out.cell (i := 0) (v := .int .i64 2) rfl; have yy1 := S_22.out.cell (i := 1) (v := .int .i64 7) rfl; have yy2 := S_22.out.cell (i := 2) (v := .slice A 5 5) rfl
  have yy3 := T_22.out.cell (i := 0) (v := .int .i64 2) rfl; have yy4 := T_22.out.cell (i := 1) (v := .int .i64 7) rfl; have yy5 := T_22.out.cell (i := 2) (v := .slice A1 5 k1) rfl
  go_wp2_with fail
  refine (HNS.out _ DS_22.out DT_22.out).mono ?_
  rintro e v22 ⟨rfl, hb⟩
  clear yy0 yy1 yy2 yy3 yy4 yy5
  have DS_23 : Hid (Dz v22 A exds) := Lib.hid (DS_22.out.below hb (Nat.le_refl _))
  have Ia_23 : Hid (Iz v22 Ba [0, 2, 4]) := Lib.hid (Ia_22.out.below hb (Nat.le_refl _))
  have Ib_23 : Hid (Iz v22 Bb [0, 1, 2, 4]) := Lib.hid (Ib_22.out.below hb (Nat.le_refl _))
  have Ic_23 : Hid (Iz v22 Bc [0, 1, 2, 3, 4]) := Lib.hid (Ic_22.out.below hb (Nat.le_refl _))
  have DT_23 : Hid (Dz v22 A1 [⟨4095, 0, 0, 0⟩, ⟨4093, 50, 0, 0⟩, ⟨4095, 100, 0, 0⟩, ⟨4035, 100, 0, 0⟩, ⟨3995, 101, 0, 0⟩]) := Lib.hid (DT_22.out.below hb (Nat.le_refl _))
  have DC_23 : Hid (Dz v22 (some ⟨b2, o2, none⟩) [⟨0, 0, 0, 0⟩, ⟨100, 0, 0, 0⟩, ⟨101, 100, 0, 0⟩]) := Lib.hid (DC_22.out.below hb (Nat.le_refl _))
  have DM_23 : Hid (Dz v22 (some ⟨b3, o3, none⟩) [⟨1, 2, 0, 0⟩, ⟨51, 4, 0, 0⟩, ⟨101, 2, 0, 0⟩, ⟨101, 62, 0, 0⟩, ⟨102, 102, 0, 0⟩]) := Lib.hid (DM_22.out.below hb (Nat.le_refl _))
  clear DS_22 Ia_22 Ib_22 Ic_22 DT_22 DC_22 DM_22
  have S_23 : Hid (Blk v22 v0.heap.size 27 #[.int .i64 2, .int .i64 7, .slice A 5 5]) := Lib.hid (S_22.out.below hb S_22.out.lt)
  have R_23 : Hid (Blk v22 v1.heap.size 40 #[.int .i64 0, .int .i64 0, .int .i64 101, .int .i64 100]) := Lib.hid (R_22.out.below hb R_22.out.lt)
  have T_23 : Hid (Blk v22 v6.heap.size 27 #[.int .i64 2, .int .i64 7, .slice A1 5 k1]) := Lib.hid (T_22.out.below hb T_22.out.lt)
  have E_23 : Hid (Blk v22 v7.heap.size 29 #[.int .i64 4095, .int .i64 0]) := Lib.hid (E_22.out.below hb E_22.out.lt)
  have F_23 : Hid (Blk v22 (v7.heap.size + 1) 29 #[.int .i64 3995, .int .i64 101]) := Lib.hid (F_22.out.below hb F_22.out.lt)
  have C_23 : Hid (Blk v22 v8.heap.size 27 #[.int .i64 2, .int .i64 7, .slice (some ⟨b2, o2, none⟩) 3 k2]) := Lib.hid (C_22.out.below hb C_22.out.lt)
  have M_23 : Hid (Blk v22 v9.heap.size 27 #[.int .i64 2, .int .i64 7, .slice (some ⟨b3, o3, none⟩) 5 k3]) := Lib.hid (M_22.out.below hb M_22.out.lt)
  have X_23 : Hid (Blk v22 v11.heap.size 27 #[.int .i64 0, .int .i64 0, .slice none 0 0]) := Lib.hid (X_22.out.below hb X_22.out.lt)
  have HB_23 : Hid (Below w.heap.size w v22) := Lib.hid (HB_22.out.trans (hb.mono HB_22.out.size))
  clear hb S_22 R_22 T_22 E_22 F_22 C_22 M_22 X_22 HB_22
  go_wp2_with fail
  go_ret
  exact ⟨rfl, HB_23.out⟩
end Go.Proofs.Ytamogfcedkjmcaa
