
/- The walk of StrokeMoved. Conditions: the slice reads. -/
import Derived.Test.YtamogfcedkjmcaaLm5
namespace Go.Proofs.Ytamogfcedkjmcaa
open Go.RowKit Go.Lib Go.Shelf

theorem movP_back {P N : Int} {ds : List Dt} {x y : Int} (h : MovP P N ds x y) : MovP P N (ds.map (mvd x y)) (-x) (-y) :=
  ⟨vd_moved h, by have := h.2.1; omega, fun e he => by
    obtain ⟨d, hd, rfl⟩ := List.mem_map.1 he
    have := (h.1.mem d hd).1
    unfold mvd
    simp only []
    unfold OnP at *
    omega⟩
set_option maxRecDepth 100000 in
set_option maxHeartbeats 16000000 in
theorem moved_law (p0 q0 n0 n1 t : Int) (A0 : Option Addr) (n c : Nat) (w : World) (hA : Tz w A0 n) (hz : n ≤ 9223372036854775807) (hp0 : (-9223372036854775808 ≤ p0 ∧ p0 ≤ 9223372036854775807)) (hq0 : (-9223372036854775808 ≤ q0 ∧ q0 ≤ 9223372036854775807)) (hn0 : (-9223372036854775808 ≤ n0 ∧ n0 ≤ 9223372036854775807)) (hn1 : (-9223372036854775808 ≤ n1 ∧ n1 ≤ 9223372036854775807)) (ht : (-9223372036854775808 ≤ t ∧ t ≤ 9223372036854775807)) :
    Calls Try.prog 7 #[.int .i64 p0, .int .i64 q0, .slice A0 n c, .agg #[.int .i64 n0, .int .i64 n1], .int .i64 t] w fun e w' => e = .returned (.bool true) ∧ Below w.heap.size w w' := by
  obtain ⟨z, hz_, Hz⟩ := lpick_one t 400 ht (by omega)
  obtain ⟨r0, hr0, HR⟩ := lpick_one n0 3000 hn0 (by omega)
  obtain ⟨d0, hd0, HD⟩ := lpick_one n1 3000 hn1 (by omega)
  obtain ⟨r, hr⟩ : ∃ r, r = r0 - 1500 := ⟨_, rfl⟩
  obtain ⟨d, hd⟩ : ∃ d, d = d0 - 1500 := ⟨_, rfl⟩
  have e1 : IntKind.i64.wrap (r0 - 1500) = r := by rw [IntWalk.i64_in _ (by omega)]; exact hr.symm
  have e2 : IntKind.i64.wrap (d0 - 1500) = d := by rw [IntWalk.i64_in _ (by omega)]; exact hd.symm
  have hrd : (-4095 ≤ r ∧ r ≤ 4095) ∧ (-4095 ≤ d ∧ d ≤ 4095) := by omega
  have hzz : 0 ≤ z ∧ z ≤ 1000 := by omega
  clear hr hd hr0 hd0 hz_ hn0 hn1 ht
  have HRD := Lib.hid hrd; have HZZ := Lib.hid hzz; have HE1 := Lib.hid e1; have HE2 := Lib.hid e2; clear hrd hzz e1 e2
  have hz0 := Lib.hid Hz; have HR0 := Lib.hid HR; have HD0 := Lib.hid HD; clear Hz HR HD
  have X_0 : Hid (Blk (w.alloc (.cells #[.int .i64 n0, .int .i64 n1] 31)) w.heap.size 31 #[.int .i64 n0, .int .i64 n1]) := allocs_blk [(#[.int .i64 n0, .int .i64 n1], 31)] w 0 _ rfl
  have HB_0 : Hid (Below w.heap.size w (w.alloc (.cells #[.int .i64 n0, .int .i64 n1] 31))) := allocs_below [(#[.int .i64 n0, .int .i64 n1], 31)] w (Below.refl w.heap.size w) (Nat.le_refl _)
  have TZ_0 : Hid (Tz (w.alloc (.cells #[.int .i64 n0, .int .i64 n1] 31)) A0 n) := Lib.hid (hA.below HB_0.out (Nat.le_refl _))
  clear hA
  go_enter Try.func7, Try.ntmps7
  go_wp2_with fail
  refine (sane_any _).mono ?_
  rintro e v0 ⟨rfl, hb⟩
  have TZ_1 : Hid (Tz v0 A0 n) := Lib.hid (TZ_0.out.below hb (Nat.le_refl _))
  clear TZ_0
  have X_1 : Hid (Blk v0 w.heap.size 31 #[.int .i64 n0, .int .i64 n1]) := Lib.hid (X_0.out.below hb X_0.out.lt)
  have HB_1 : Hid (Below w.heap.size w v0) := Lib.hid (HB_0.out.trans (hb.mono HB_0.out.size))
  clear hb X_0 HB_0
  go_wp2_with fail
  refine (lmade_any p0 q0 A0 n c _ TZ_1.out hz hp0 hq0).mono ?_
  rintro e v1 ⟨P, N, ds, A1, k1, rfl, hvd, hl24, hdz, hk1, -, hb⟩
  have HVD := Lib.hid hvd; clear hvd
  have hzl : ds.length ≤ 9000000000000000000 := by omega
  have HZL := Lib.hid hzl; have HK1 := Lib.hid hk1; clear hl24 hzl hk1
  have DS_1 := Lib.hid hdz
  have TZ_2 : Hid (Tz (v1.alloc (.cells #[.int .i64 P, .int .i64 N, .slice A1 ds.length k1] 27)) A0 n) := Lib.hid (TZ_1.out.below (allocs_below [(#[.int .i64 P, .int .i64 N, .slice A1 ds.length k1], 27)] _ hb hb.size) (Nat.le_refl _))
  have DS_2 : Hid (Dz (v1.alloc (.cells #[.int .i64 P, .int .i64 N, .slice A1 ds.length k1] 27)) A1 ds) := Lib.hid (DS_1.out.below (allocs_below [(#[.int .i64 P, .int .i64 N, .slice A1 ds.length k1], 27)] _ (Below.refl _ _) (Nat.le_refl _)) (Nat.le_refl _))
  clear TZ_1 DS_1
  have X_2 : Hid (Blk (v1.alloc (.cells #[.int .i64 P, .int .i64 N, .slice A1 ds.length k1] 27)) w.heap.size 31 #[.int .i64 n0, .int .i64 n1]) := Lib.hid (allocs_keep [(#[.int .i64 P, .int .i64 N, .slice A1 ds.length k1], 27)] _ (X_1.out.below hb X_1.out.lt))
  have HB_2 : Hid (Below w.heap.size w (v1.alloc (.cells #[.int .i64 P, .int .i64 N, .slice A1 ds.length k1] 27))) := Lib.hid (allocs_below [(#[.int .i64 P, .int .i64 N, .slice A1 ds.length k1], 27)] _ (HB_1.out.trans (hb.mono HB_1.out.size)) (HB_1.out.trans (hb.mono HB_1.out.size)).size)
  have S_2 : Hid (Blk (v1.alloc (.cells #[.int .i64 P, .int .i64 N, .slice A1 ds.length k1] 27)) v1.heap.size 27 #[.int .i64 P, .int .i64 N, .slice A1 ds.length k1]) := Lib.hid (allocs_blk [(#[.int .i64 P, .int .i64 N, .slice A1 ds.length k1], 27)] v1 0 _ rfl)
  clear hb X_1 HB_1
  go_wp2_with fail
  refine (hz0.out _).mono ?_
  rintro e v2 ⟨rfl, hb⟩
  have TZ_3 : Hid (Tz v2 A0 n) := Lib.hid (TZ_2.out.below hb (Nat.le_refl _))
  have DS_3 : Hid (Dz v2 A1 ds) := Lib.hid (DS_2.out.below hb (Nat.le_refl _))
  clear TZ_2 DS_2
  have X_3 : Hid (Blk v2 w.heap.size 31 #[.int .i64 n0, .int .i64 n1]) := Lib.hid (X_2.out.below hb X_2.out.lt)
  have S_3 : Hid (Blk v2 v1.heap.size 27 #[.int .i64 P, .int .i64 N, .slice A1 ds.length k1]) := Lib.hid (S_2.out.below hb S_2.out.lt)
  have HB_3 : Hid (Below w.heap.size w v2) := Lib.hid (HB_2.out.trans (hb.mono HB_2.out.size))
  clear hb X_2 S_2 HB_2
  have yy0 := X_3.out.cell (i := 0) (v := .int .i64 n0) rfl; have yy1 := X_3.out.cell (i := 1) (v := .int .i64 n1) rfl
  go_wp2_with fail
  refine (HR0.out _).mono ?_
  rintro e v3 ⟨rfl, hb⟩
  clear yy0 yy1
  have TZ_4 : Hid (Tz v3 A0 n) := Lib.hid (TZ_3.out.below hb (Nat.le_refl _))
  have DS_4 : Hid (Dz v3 A1 ds) := Lib.hid (DS_3.out.below hb (Nat.le_refl _))
  clear TZ_3 DS_3
  have X_4 : Hid (Blk v3 w.heap.size 31 #[.int .i64 n0, .int .i64 n1]) := Lib.hid (X_3.out.below hb X_3.out.lt)
  have S_4 : Hid (Blk v3 v1.heap.size 27 #[.int .i64 P, .int .i64 N, .slice A1 ds.length k1]) := Lib.hid (S_3.out.below hb S_3.out.lt)
  have HB_4 : Hid (Below w.heap.size w v3) := Lib.hid (HB_3.out.trans (hb.mono HB_3.out.size))
  clear hb X_3 S_3 HB_3
  have e1 := HE1.out
  have yy0 := X_4.out.cell (i := 0) (v := .int .i64 n0) rfl; have yy1 := X_4.out.cell (i := 1) (v := .int .i64 n1) rfl
  go_wp2_with fail
  refine (HD0.out _).mono ?_
  rintro e v4 ⟨rfl, hb⟩
  clear yy0 yy1
  have TZ_5 : Hid (Tz v4 A0 n) := Lib.hid (TZ_4.out.below hb (Nat.le_refl _))
  have DS_5 : Hid (Dz v4 A1 ds) := Lib.hid (DS_4.out.below hb (Nat.le_refl _))
  clear TZ_4 DS_4
  have X_5 : Hid (Blk v4 w.heap.size 31 #[.int .i64 n0, .int .i64 n1]) := Lib.hid (X_4.out.below hb X_4.out.lt)
  have S_5 : Hid (Blk v4 v1.heap.size 27 #[.int .i64 P, .int .i64 N, .slice A1 ds.length k1]) := Lib.hid (S_4.out.below hb S_4.out.lt)
  have HB_5 : Hid (Below w.heap.size w v4) := Lib.hid (HB_4.out.trans (hb.mono HB_4.out.size))
  clear hb X_4 S_4 HB_4
  have e2 := HE2.out
  have yy0 := S_5.out.cell (i := 0) (v := .int .i64 P) rfl; have yy1 := S_5.out.cell (i := 1) (v := .int .i64 N) rfl; have yy2 := S_5.out.cell (i := 2) (v := .slice A1 ds.length k1) rfl
  go_wp2_with fail
  refine (pbox_yes P N ds A1 k1 _ DS_5.out HZL.out HVD.out).mono ?_
  rintro e v5 ⟨x, y, ww, hh, hbx, rfl, hb⟩
  have HBX := Lib.hid hbx; clear hbx
  clear yy0 yy1 yy2
  have TZ_6 : Hid (Tz (v5.alloc (.cells #[.int .i64 x, .int .i64 y, .int .i64 ww, .int .i64 hh] 40)) A0 n) := Lib.hid (TZ_5.out.below (allocs_below [(#[.int .i64 x, .int .i64 y, .int .i64 ww, .int .i64 hh], 40)] _ hb hb.size) (Nat.le_refl _))
  have DS_6 : Hid (Dz (v5.alloc (.cells #[.int .i64 x, .int .i64 y, .int .i64 ww, .int .i64 hh] 40)) A1 ds) := Lib.hid (DS_5.out.below (allocs_below [(#[.int .i64 x, .int .i64 y, .int .i64 ww, .int .i64 hh], 40)] _ hb hb.size) (Nat.le_refl _))
  clear TZ_5 DS_5
  have X_6 : Hid (Blk (v5.alloc (.cells #[.int .i64 x, .int .i64 y, .int .i64 ww, .int .i64 hh] 40)) w.heap.size 31 #[.int .i64 n0, .int .i64 n1]) := Lib.hid (allocs_keep [(#[.int .i64 x, .int .i64 y, .int .i64 ww, .int .i64 hh], 40)] _ (X_5.out.below hb X_5.out.lt))
  have S_6 : Hid (Blk (v5.alloc (.cells #[.int .i64 x, .int .i64 y, .int .i64 ww, .int .i64 hh] 40)) v1.heap.size 27 #[.int .i64 P, .int .i64 N, .slice A1 ds.length k1]) := Lib.hid (allocs_keep [(#[.int .i64 x, .int .i64 y, .int .i64 ww, .int .i64 hh], 40)] _ (S_5.out.below hb S_5.out.lt))
  have HB_6 : Hid (Below w.heap.size w (v5.alloc (.cells #[.int .i64 x, .int .i64 y, .int .i64 ww, .int .i64 hh] 40))) := Lib.hid (allocs_below [(#[.int .i64 x, .int .i64 y, .int .i64 ww, .int .i64 hh], 40)] _ (HB_5.out.trans (hb.mono HB_5.out.size)) (HB_5.out.trans (hb.mono HB_5.out.size)).size)
  have R_6 : Hid (Blk (v5.alloc (.cells #[.int .i64 x, .int .i64 y, .int .i64 ww, .int .i64 hh] 40)) v5.heap.size 40 #[.int .i64 x, .int .i64 y, .int .i64 ww, .int .i64 hh]) := Lib.hid (allocs_blk [(#[.int .i64 x, .int .i64 y, .int .i64 ww, .int .i64 hh], 40)] v5 0 _ rfl)
  clear hb X_5 S_5 HB_5
  clear e1 e2
  have hon := box_on HVD.out HBX.out
  have hrd := HRD.out
  have hfit := mov_fits HVD.out HBX.out HRD.out
  have ew0 : IntKind.i64.wrap (x + r) = x + r := IntWalk.i64_in _ (by omega)
  have ew1 : IntKind.i64.wrap (y + d) = y + d := IntWalk.i64_in _ (by omega)
  have ew2 : IntKind.i64.wrap (x + ww) = x + ww := IntWalk.i64_in _ (by omega)
  have ew3 : IntKind.i64.wrap (y + hh) = y + hh := IntWalk.i64_in _ (by omega)
  have ew4 : IntKind.i64.wrap (x + ww + r) = x + ww + r := IntWalk.i64_in _ (by omega)
  have ew5 : IntKind.i64.wrap (y + hh + d) = y + hh + d := IntWalk.i64_in _ (by omega)
  have ew6 : IntKind.i64.wrap (-r) = -r := IntWalk.i64_in _ (by omega)
  have ew7 : IntKind.i64.wrap (-d) = -d := IntWalk.i64_in _ (by omega)
  have HW := Lib.hid (And.intro ew0 <| And.intro ew1 <| And.intro ew2 <| And.intro ew3 <| And.intro ew4 <| And.intro ew5 <| And.intro ew6 <| ew7); clear ew0 ew1 ew2 ew3 ew4 ew5 ew6 ew7
  have HON := Lib.hid hon; clear hon hrd
  by_cases hM : MovP P N ds r d
  case neg =>
    have hnf : ¬ (0 ≤ x + r ∧ x + ww + r ≤ 4095 ∧ 0 ≤ y + d ∧ y + hh + d ≤ 4095) := fun h => hM (hfit.2 h)
    have HNF := Lib.hid hnf; have HM := Lib.hid hM; clear hfit hnf hM
    have yy0 := S_6.out.cell (i := 0) (v := .int .i64 P) rfl; have yy1 := S_6.out.cell (i := 1) (v := .int .i64 N) rfl; have yy2 := S_6.out.cell (i := 2) (v := .slice A1 ds.length k1) rfl
    go_wp2_with fail
    refine (no_of (pmoved_any P N ds A1 k1 r d _ DS_6.out HZL.out) HM.out).mono ?_
    rintro e v6 ⟨rfl, hb⟩
    clear yy0 yy1 yy2
    have TZ_7 : Hid (Tz (v6.alloc (.cells #[.int .i64 0, .int .i64 0, .slice none 0 0] 27)) A0 n) := Lib.hid (TZ_6.out.below (allocs_below [(#[.int .i64 0, .int .i64 0, .slice none 0 0], 27)] _ hb hb.size) (Nat.le_refl _))
    have DS_7 : Hid (Dz (v6.alloc (.cells #[.int .i64 0, .int .i64 0, .slice none 0 0] 27)) A1 ds) := Lib.hid (DS_6.out.below (allocs_below [(#[.int .i64 0, .int .i64 0, .slice none 0 0], 27)] _ hb hb.size) (Nat.le_refl _))
    clear TZ_6 DS_6
    have X_7 : Hid (Blk (v6.alloc (.cells #[.int .i64 0, .int .i64 0, .slice none 0 0] 27)) w.heap.size 31 #[.int .i64 n0, .int .i64 n1]) := Lib.hid (allocs_keep [(#[.int .i64 0, .int .i64 0, .slice none 0 0], 27)] _ (X_6.out.below hb X_6.out.lt))
    have S_7 : Hid (Blk (v6.alloc (.cells #[.int .i64 0, .int .i64 0, .slice none 0 0] 27)) v1.heap.size 27 #[.int .i64 P, .int .i64 N, .slice A1 ds.length k1]) := Lib.hid (allocs_keep [(#[.int .i64 0, .int .i64 0, .slice none 0 0], 27)] _ (S_6.out.below hb S_6.out.lt))
    have R_7 : Hid (Blk (v6.alloc (.cells #[.int .i64 0, .int .i64 0, .slice none 0 0] 27)) v5.heap.size 40 #[.int .i64 x, .int .i64 y, .int .i64 ww, .int .i64 hh]) := Lib.hid (allocs_keep [(#[.int .i64 0, .int .i64 0, .slice none 0 0], 27)] _ (R_6.out.below hb R_6.out.lt))
    have HB_7 : Hid (Below w.heap.size w (v6.alloc (.cells #[.int .i64 0, .int .i64 0, .slice none 0 0] 27))) := Lib.hid (allocs_below [(#[.int .i64 0, .int .i64 0, .slice none 0 0], 27)] _ (HB_6.out.trans (hb.mono HB_6.out.size)) (HB_6.out.trans (hb.mono HB_6.out.size)).size)
    have T_7 : Hid (Blk (v6.alloc (.cells #[.int .i64 0, .int .i64 0, .slice none 0 0] 27)) v6.heap.size 27 #[.int .i64 0, .int .i64 0, .slice none 0 0]) := Lib.hid (allocs_blk [(#[.int .i64 0, .int .i64 0, .slice none 0 0], 27)] v6 0 _ rfl)
    clear hb X_6 S_6 R_6 HB_6
    have yy0 := R_7.out.cell (i := 0) (v := .int .i64 x) rfl; have yy1 := R_7.out.cell (i := 1) (v := .int .i64 y) rfl; have yy2 := R_7.out.cell (i := 2) (v := .int .i64 ww) rfl; have yy3 := R_7.out.cell (i := 3) (v := .int .i64 hh) rfl
    go_upto_region 10 with fail
    go_cut [20] from 68 to 99 (fun v wx => v = .bool false ∧ (v6.alloc (.cells #[.int .i64 0, .int .i64 0, .slice none 0 0] 27)) = wx)
    case first =>
      obtain ⟨ew0, ew1, ew2, ew3, ew4, ew5, ew6, ew7⟩ := HW.out
      have hnf := HNF.out
      by_cases t0 : 0 ≤ x + r
      case neg =>
        clear hnf
        go_wp2_with fail
        go_meet
        exact ⟨rfl, rfl⟩
      case pos =>
        by_cases t1 : x + ww + r ≤ 4095
        case neg =>
          clear hnf
          go_wp2_with fail
          go_meet
          exact ⟨rfl, rfl⟩
        case pos =>
          by_cases t2 : 0 ≤ y + d
          case neg =>
            clear hnf
            go_wp2_with fail
            go_meet
            exact ⟨rfl, rfl⟩
          case pos =>
            by_cases t3 : y + hh + d ≤ 4095
            case neg =>
              clear hnf
              go_wp2_with fail
              go_meet
              exact ⟨rfl, rfl⟩
            case pos =>
              exact absurd ⟨t0, t1, t2, t3⟩ hnf
    case rest =>
      obtain ⟨rfl, rfl⟩ := hcut
      clear yy0 yy1 yy2 yy3
      go_wp2_with fail
      go_ret
      exact ⟨rfl, HB_7.out⟩
  case pos =>
    have HF := Lib.hid (hfit.1 hM); have HM := Lib.hid hM; have HVM := Lib.hid (vd_moved hM); have HMB := Lib.hid (movP_back hM); clear hfit hM
    obtain ⟨es, hes⟩ : ∃ es, (ds.map (mvd r d)) = es := ⟨_, rfl⟩
    have hel : es.length = ds.length := by rw [← hes]; simp
    have HEL := Lib.hid hel; have HES := Lib.hid hes; clear hel hes
    have yy0 := S_6.out.cell (i := 0) (v := .int .i64 P) rfl; have yy1 := S_6.out.cell (i := 1) (v := .int .i64 N) rfl; have yy2 := S_6.out.cell (i := 2) (v := .slice A1 ds.length k1) rfl
    go_wp2_with fail
    refine (yes_of (pmoved_any P N ds A1 k1 r d _ DS_6.out HZL.out) HM.out).mono ?_
    rintro e v6 ⟨A2, k2, rfl, hdz, hk2, hb⟩
    rw [HES.out] at hdz hk2 ⊢
    have HK2 := Lib.hid hk2; clear hk2
    clear yy0 yy1 yy2
    have DT_6 := Lib.hid hdz
    have TZ_7 : Hid (Tz (v6.alloc (.cells #[.int .i64 P, .int .i64 N, .slice A2 es.length k2] 27)) A0 n) := Lib.hid (TZ_6.out.below (allocs_below [(#[.int .i64 P, .int .i64 N, .slice A2 es.length k2], 27)] _ hb hb.size) (Nat.le_refl _))
    have DS_7 : Hid (Dz (v6.alloc (.cells #[.int .i64 P, .int .i64 N, .slice A2 es.length k2] 27)) A1 ds) := Lib.hid (DS_6.out.below (allocs_below [(#[.int .i64 P, .int .i64 N, .slice A2 es.length k2], 27)] _ hb hb.size) (Nat.le_refl _))
    have DT_7 : Hid (Dz (v6.alloc (.cells #[.int .i64 P, .int .i64 N, .slice A2 es.length k2] 27)) A2 es) := Lib.hid (DT_6.out.below (allocs_below [(#[.int .i64 P, .int .i64 N, .slice A2 es.length k2], 27)] _ (Below.refl _ _) (Nat.le_refl _)) (Nat.le_refl _))
    clear TZ_6 DS_6 DT_6
    have X_7 : Hid (Blk (v6.alloc (.cells #[.int .i64 P, .int .i64 N, .slice A2 es.length k2] 27)) w.heap.size 31 #[.int .i64 n0, .int .i64 n1]) := Lib.hid (allocs_keep [(#[.int .i64 P, .int .i64 N, .slice A2 es.length k2], 27)] _ (X_6.out.below hb X_6.out.lt))
    have S_7 : Hid (Blk (v6.alloc (.cells #[.int .i64 P, .int .i64 N, .slice A2 es.length k2] 27)) v1.heap.size 27 #[.int .i64 P, .int .i64 N, .slice A1 ds.length k1]) := Lib.hid (allocs_keep [(#[.int .i64 P, .int .i64 N, .slice A2 es.length k2], 27)] _ (S_6.out.below hb S_6.out.lt))
    have R_7 : Hid (Blk (v6.alloc (.cells #[.int .i64 P, .int .i64 N, .slice A2 es.length k2] 27)) v5.heap.size 40 #[.int .i64 x, .int .i64 y, .int .i64 ww, .int .i64 hh]) := Lib.hid (allocs_keep [(#[.int .i64 P, .int .i64 N, .slice A2 es.length k2], 27)] _ (R_6.out.below hb R_6.out.lt))
    have HB_7 : Hid (Below w.heap.size w (v6.alloc (.cells #[.int .i64 P, .int .i64 N, .slice A2 es.length k2] 27))) := Lib.hid (allocs_below [(#[.int .i64 P, .int .i64 N, .slice A2 es.length k2], 27)] _ (HB_6.out.trans (hb.mono HB_6.out.size)) (HB_6.out.trans (hb.mono HB_6.out.size)).size)
    have T_7 : Hid (Blk (v6.alloc (.cells #[.int .i64 P, .int .i64 N, .slice A2 es.length k2] 27)) v6.heap.size 27 #[.int .i64 P, .int .i64 N, .slice A2 es.length k2]) := Lib.hid (allocs_blk [(#[.int .i64 P, .int .i64 N, .slice A2 es.length k2], 27)] v6 0 _ rfl)
    clear hb X_6 S_6 R_6 HB_6
    simp only [HES.out] at HVM HMB
    have hze : es.length ≤ 9000000000000000000 := by have h1 := HZL.out; have h2 := HEL.out; omega
    have HZE := Lib.hid hze; clear hze
    have HMX : Hid (es.map (mvd (-r) (-d)) = ds) := Lib.hid (by rw [← HES.out]; exact map_mvd_back r d ds)
    obtain ⟨ew0, ew1, ew2, ew3, ew4, ew5, ew6, ew7⟩ := HW.out
    obtain ⟨t1, t2, t3, t4⟩ := HF.out
    have yy0 := R_7.out.cell (i := 0) (v := .int .i64 x) rfl; have yy1 := R_7.out.cell (i := 1) (v := .int .i64 y) rfl; have yy2 := R_7.out.cell (i := 2) (v := .int .i64 ww) rfl; have yy3 := R_7.out.cell (i := 3) (v := .int .i64 hh) rfl
    have yy4 := T_7.out.cell (i := 0) (v := .int .i64 P) rfl; have yy5 := T_7.out.cell (i := 1) (v := .int .i64 N) rfl; have yy6 := T_7.out.cell (i := 2) (v := .slice A2 es.length k2) rfl
    go_wp2_with fail
    refine (pbox_yes P N es A2 k2 _ DT_7.out HZE.out HVM.out).mono ?_
    rintro e v7 ⟨x2, y2, ww2, hh2, hbx, rfl, hb⟩
    have hb2 := HBX.out.moved r d
    rw [HES.out] at hb2
    obtain ⟨rfl, rfl, rfl, rfl⟩ := IsBox.unique hb2 hbx
    clear hbx hb2
    clear yy0 yy1 yy2 yy3 yy4 yy5 yy6
    have TZ_8 : Hid (Tz (v7.alloc (.cells #[.int .i64 (x + r), .int .i64 (y + d), .int .i64 ww, .int .i64 hh] 40)) A0 n) := Lib.hid (TZ_7.out.below (allocs_below [(#[.int .i64 (x + r), .int .i64 (y + d), .int .i64 ww, .int .i64 hh], 40)] _ hb hb.size) (Nat.le_refl _))
    have DS_8 : Hid (Dz (v7.alloc (.cells #[.int .i64 (x + r), .int .i64 (y + d), .int .i64 ww, .int .i64 hh] 40)) A1 ds) := Lib.hid (DS_7.out.below (allocs_below [(#[.int .i64 (x + r), .int .i64 (y + d), .int .i64 ww, .int .i64 hh], 40)] _ hb hb.size) (Nat.le_refl _))
    have DT_8 : Hid (Dz (v7.alloc (.cells #[.int .i64 (x + r), .int .i64 (y + d), .int .i64 ww, .int .i64 hh] 40)) A2 es) := Lib.hid (DT_7.out.below (allocs_below [(#[.int .i64 (x + r), .int .i64 (y + d), .int .i64 ww, .int .i64 hh], 40)] _ hb hb.size) (Nat.le_refl _))
    clear TZ_7 DS_7 DT_7
    have X_8 : Hid (Blk (v7.alloc (.cells #[.int .i64 (x + r), .int .i64 (y + d), .int .i64 ww, .int .i64 hh] 40)) w.heap.size 31 #[.int .i64 n0, .int .i64 n1]) := Lib.hid (allocs_keep [(#[.int .i64 (x + r), .int .i64 (y + d), .int .i64 ww, .int .i64 hh], 40)] _ (X_7.out.below hb X_7.out.lt))
    have S_8 : Hid (Blk (v7.alloc (.cells #[.int .i64 (x + r), .int .i64 (y + d), .int .i64 ww, .int .i64 hh] 40)) v1.heap.size 27 #[.int .i64 P, .int .i64 N, .slice A1 ds.length k1]) := Lib.hid (allocs_keep [(#[.int .i64 (x + r), .int .i64 (y + d), .int .i64 ww, .int .i64 hh], 40)] _ (S_7.out.below hb S_7.out.lt))
    have R_8 : Hid (Blk (v7.alloc (.cells #[.int .i64 (x + r), .int .i64 (y + d), .int .i64 ww, .int .i64 hh] 40)) v5.heap.size 40 #[.int .i64 x, .int .i64 y, .int .i64 ww, .int .i64 hh]) := Lib.hid (allocs_keep [(#[.int .i64 (x + r), .int .i64 (y + d), .int .i64 ww, .int .i64 hh], 40)] _ (R_7.out.below hb R_7.out.lt))
    have T_8 : Hid (Blk (v7.alloc (.cells #[.int .i64 (x + r), .int .i64 (y + d), .int .i64 ww, .int .i64 hh] 40)) v6.heap.size 27 #[.int .i64 P, .int .i64 N, .slice A2 es.length k2]) := Lib.hid (allocs_keep [(#[.int .i64 (x + r), .int .i64 (y + d), .int .i64 ww, .int .i64 hh], 40)] _ (T_7.out.below hb T_7.out.lt))
    have HB_8 : Hid (Below w.heap.size w (v7.alloc (.cells #[.int .i64 (x + r), .int .i64 (y + d), .int .i64 ww, .int .i64 hh] 40))) := Lib.hid (allocs_below [(#[.int .i64 (x + r), .int .i64 (y + d), .int .i64 ww, .int .i64 hh], 40)] _ (HB_7.out.trans (hb.mono HB_7.out.size)) (HB_7.out.trans (hb.mono HB_7.out.size)).size)
    have Q_8 : Hid (Blk (v7.alloc (.cells #[.int .i64 (x + r), .int .i64 (y + d), .int .i64 ww, .int .i64 hh] 40)) v7.heap.size 40 #[.int .i64 (x + r), .int .i64 (y + d), .int .i64 ww, .int .i64 hh]) := Lib.hid (allocs_blk [(#[.int .i64 (x + r), .int .i64 (y + d), .int .i64 ww, .int .i64 hh], 40)] v7 0 _ rfl)
    clear hb X_7 S_7 R_7 T_7 HB_7
    clear t1 t2 t3 t4
    have yy0 := S_8.out.cell (i := 0) (v := .int .i64 P) rfl; have yy1 := S_8.out.cell (i := 1) (v := .int .i64 N) rfl; have yy2 := S_8.out.cell (i := 2) (v := .slice A1 ds.length k1) rfl
    go_wp2_with fail
    refine (pway_yes P N ds A1 k1 _ DS_8.out HZL.out HVD.out).mono ?_
    rintro e v8 ⟨rfl, hb⟩
    clear yy0 yy1 yy2
    have TZ_9 : Hid (Tz v8 A0 n) := Lib.hid (TZ_8.out.below hb (Nat.le_refl _))
    have DS_9 : Hid (Dz v8 A1 ds) := Lib.hid (DS_8.out.below hb (Nat.le_refl _))
    have DT_9 : Hid (Dz v8 A2 es) := Lib.hid (DT_8.out.below hb (Nat.le_refl _))
    clear TZ_8 DS_8 DT_8
    have X_9 : Hid (Blk v8 w.heap.size 31 #[.int .i64 n0, .int .i64 n1]) := Lib.hid (X_8.out.below hb X_8.out.lt)
    have S_9 : Hid (Blk v8 v1.heap.size 27 #[.int .i64 P, .int .i64 N, .slice A1 ds.length k1]) := Lib.hid (S_8.out.below hb S_8.out.lt)
    have R_9 : Hid (Blk v8 v5.heap.size 40 #[.int .i64 x, .int .i64 y, .int .i64 ww, .int .i64 hh]) := Lib.hid (R_8.out.below hb R_8.out.lt)
    have T_9 : Hid (Blk v8 v6.heap.size 27 #[.int .i64 P, .int .i64 N, .slice A2 es.length k2]) := Lib.hid (T_8.out.below hb T_8.out.lt)
    have Q_9 : Hid (Blk v8 v7.heap.size 40 #[.int .i64 (x + r), .int .i64 (y + d), .int .i64 ww, .int .i64 hh]) := Lib.hid (Q_8.out.below hb Q_8.out.lt)
    have HB_9 : Hid (Below w.heap.size w v8) := Lib.hid (HB_8.out.trans (hb.mono HB_8.out.size))
    clear hb X_8 S_8 R_8 T_8 Q_8 HB_8
    have yy0 := T_9.out.cell (i := 0) (v := .int .i64 P) rfl; have yy1 := T_9.out.cell (i := 1) (v := .int .i64 N) rfl; have yy2 := T_9.out.cell (i := 2) (v := .slice A2 es.length k2) rfl
    go_wp2_with fail
    refine (pway_yes P N es A2 k2 _ DT_9.out HZE.out HVM.out).mono ?_
    rintro e v9 ⟨rfl, hb⟩
    have hww : wayL es = wayL ds := by rw [← HES.out]; exact wayL_map (stepD_moved r d) ds
    rw [hww]
    clear hww
    clear yy0 yy1 yy2
    have TZ_10 : Hid (Tz v9 A0 n) := Lib.hid (TZ_9.out.below hb (Nat.le_refl _))
    have DS_10 : Hid (Dz v9 A1 ds) := Lib.hid (DS_9.out.below hb (Nat.le_refl _))
    have DT_10 : Hid (Dz v9 A2 es) := Lib.hid (DT_9.out.below hb (Nat.le_refl _))
    clear TZ_9 DS_9 DT_9
    have X_10 : Hid (Blk v9 w.heap.size 31 #[.int .i64 n0, .int .i64 n1]) := Lib.hid (X_9.out.below hb X_9.out.lt)
    have S_10 : Hid (Blk v9 v1.heap.size 27 #[.int .i64 P, .int .i64 N, .slice A1 ds.length k1]) := Lib.hid (S_9.out.below hb S_9.out.lt)
    have R_10 : Hid (Blk v9 v5.heap.size 40 #[.int .i64 x, .int .i64 y, .int .i64 ww, .int .i64 hh]) := Lib.hid (R_9.out.below hb R_9.out.lt)
    have T_10 : Hid (Blk v9 v6.heap.size 27 #[.int .i64 P, .int .i64 N, .slice A2 es.length k2]) := Lib.hid (T_9.out.below hb T_9.out.lt)
    have Q_10 : Hid (Blk v9 v7.heap.size 40 #[.int .i64 (x + r), .int .i64 (y + d), .int .i64 ww, .int .i64 hh]) := Lib.hid (Q_9.out.below hb Q_9.out.lt)
    have HB_10 : Hid (Below w.heap.size w v9) := Lib.hid (HB_9.out.trans (hb.mono HB_9.out.size))
    clear hb X_9 S_9 R_9 T_9 Q_9 HB_9
    have yy0 := S_10.out.cell (i := 0) (v := .int .i64 P) rfl; have yy1 := S_10.out.cell (i := 1) (v := .int .i64 N) rfl; have yy2 := S_10.out.cell (i := 2) (v := .slice A1 ds.length k1) rfl
    go_wp2_with fail
    refine (pthin_yes P N ds A1 k1 z _ DS_10.out HZL.out HK1.out HVD.out HZZ.out).mono ?_
    rintro e v10 ⟨Q1, B1, c1, rfl, hth, hiz, hb⟩
    have HTH := Lib.hid hth; clear hth
    clear yy0 yy1 yy2
    have IA_10 := Lib.hid hiz
    have TZ_11 : Hid (Tz v10 A0 n) := Lib.hid (TZ_10.out.below hb (Nat.le_refl _))
    have DS_11 : Hid (Dz v10 A1 ds) := Lib.hid (DS_10.out.below hb (Nat.le_refl _))
    have DT_11 : Hid (Dz v10 A2 es) := Lib.hid (DT_10.out.below hb (Nat.le_refl _))
    have IA_11 : Hid (Iz v10 B1 (Q1.map Int.ofNat)) := Lib.hid IA_10.out
    clear TZ_10 DS_10 DT_10 IA_10
    have X_11 : Hid (Blk v10 w.heap.size 31 #[.int .i64 n0, .int .i64 n1]) := Lib.hid (X_10.out.below hb X_10.out.lt)
    have S_11 : Hid (Blk v10 v1.heap.size 27 #[.int .i64 P, .int .i64 N, .slice A1 ds.length k1]) := Lib.hid (S_10.out.below hb S_10.out.lt)
    have R_11 : Hid (Blk v10 v5.heap.size 40 #[.int .i64 x, .int .i64 y, .int .i64 ww, .int .i64 hh]) := Lib.hid (R_10.out.below hb R_10.out.lt)
    have T_11 : Hid (Blk v10 v6.heap.size 27 #[.int .i64 P, .int .i64 N, .slice A2 es.length k2]) := Lib.hid (T_10.out.below hb T_10.out.lt)
    have Q_11 : Hid (Blk v10 v7.heap.size 40 #[.int .i64 (x + r), .int .i64 (y + d), .int .i64 ww, .int .i64 hh]) := Lib.hid (Q_10.out.below hb Q_10.out.lt)
    have HB_11 : Hid (Below w.heap.size w v10) := Lib.hid (HB_10.out.trans (hb.mono HB_10.out.size))
    clear hb X_10 S_10 R_10 T_10 Q_10 HB_10
    have yy0 := T_11.out.cell (i := 0) (v := .int .i64 P) rfl; have yy1 := T_11.out.cell (i := 1) (v := .int .i64 N) rfl; have yy2 := T_11.out.cell (i := 2) (v := .slice A2 es.length k2) rfl
    go_wp2_with fail
    refine (pthin_yes P N es A2 k2 z _ DT_11.out HZE.out HK2.out HVM.out HZZ.out).mono ?_
    rintro e v11 ⟨Q2, B2, c2, rfl, hth, hiz, hb⟩
    rw [HEL.out, ← HES.out] at hth
    have HTHL : Hid (Q1.length ≤ ds.length) := Lib.hid (by have h1 := HTH.out.1.len; have h2 := HVD.out.2.2.1; omega)
    obtain rfl : Q1 = Q2 := IsThin.unique HTH.out (hth.congr (betw_moved HM.out))
    clear hth HTH
    clear yy0 yy1 yy2
    have IB_11 := Lib.hid hiz
    have TZ_12 : Hid (Tz v11 A0 n) := Lib.hid (TZ_11.out.below hb (Nat.le_refl _))
    have DS_12 : Hid (Dz v11 A1 ds) := Lib.hid (DS_11.out.below hb (Nat.le_refl _))
    have DT_12 : Hid (Dz v11 A2 es) := Lib.hid (DT_11.out.below hb (Nat.le_refl _))
    have IA_12 : Hid (Iz v11 B1 (Q1.map Int.ofNat)) := Lib.hid (IA_11.out.below hb (Nat.le_refl _))
    have IB_12 : Hid (Iz v11 B2 (Q1.map Int.ofNat)) := Lib.hid IB_11.out
    clear TZ_11 DS_11 DT_11 IA_11 IB_11
    have X_12 : Hid (Blk v11 w.heap.size 31 #[.int .i64 n0, .int .i64 n1]) := Lib.hid (X_11.out.below hb X_11.out.lt)
    have S_12 : Hid (Blk v11 v1.heap.size 27 #[.int .i64 P, .int .i64 N, .slice A1 ds.length k1]) := Lib.hid (S_11.out.below hb S_11.out.lt)
    have R_12 : Hid (Blk v11 v5.heap.size 40 #[.int .i64 x, .int .i64 y, .int .i64 ww, .int .i64 hh]) := Lib.hid (R_11.out.below hb R_11.out.lt)
    have T_12 : Hid (Blk v11 v6.heap.size 27 #[.int .i64 P, .int .i64 N, .slice A2 es.length k2]) := Lib.hid (T_11.out.below hb T_11.out.lt)
    have Q_12 : Hid (Blk v11 v7.heap.size 40 #[.int .i64 (x + r), .int .i64 (y + d), .int .i64 ww, .int .i64 hh]) := Lib.hid (Q_11.out.below hb Q_11.out.lt)
    have HB_12 : Hid (Below w.heap.size w v11) := Lib.hid (HB_11.out.trans (hb.mono HB_11.out.size))
    clear hb X_11 S_11 R_11 T_11 Q_11 HB_11
    have yy0 := T_12.out.cell (i := 0) (v := .int .i64 P) rfl; have yy1 := T_12.out.cell (i := 1) (v := .int .i64 N) rfl; have yy2 := T_12.out.cell (i := 2) (v := .slice A2 es.length k2) rfl
    go_wp2_with fail
    refine (yes_of (pmoved_any P N es A2 k2 (-r) (-d) _ DT_12.out HZE.out) HMB.out).mono ?_
    rintro e v12 ⟨A3, k3, rfl, hdz, hk3, hb⟩
    rw [HMX.out] at hdz ⊢
    clear hk3
    clear yy0 yy1 yy2
    have DU_12 := Lib.hid hdz
    have TZ_13 : Hid (Tz (v12.alloc (.cells #[.int .i64 P, .int .i64 N, .slice A3 ds.length k3] 27)) A0 n) := Lib.hid (TZ_12.out.below (allocs_below [(#[.int .i64 P, .int .i64 N, .slice A3 ds.length k3], 27)] _ hb hb.size) (Nat.le_refl _))
    have DS_13 : Hid (Dz (v12.alloc (.cells #[.int .i64 P, .int .i64 N, .slice A3 ds.length k3] 27)) A1 ds) := Lib.hid (DS_12.out.below (allocs_below [(#[.int .i64 P, .int .i64 N, .slice A3 ds.length k3], 27)] _ hb hb.size) (Nat.le_refl _))
    have DT_13 : Hid (Dz (v12.alloc (.cells #[.int .i64 P, .int .i64 N, .slice A3 ds.length k3] 27)) A2 es) := Lib.hid (DT_12.out.below (allocs_below [(#[.int .i64 P, .int .i64 N, .slice A3 ds.length k3], 27)] _ hb hb.size) (Nat.le_refl _))
    have IA_13 : Hid (Iz (v12.alloc (.cells #[.int .i64 P, .int .i64 N, .slice A3 ds.length k3] 27)) B1 (Q1.map Int.ofNat)) := Lib.hid (IA_12.out.below (allocs_below [(#[.int .i64 P, .int .i64 N, .slice A3 ds.length k3], 27)] _ hb hb.size) (Nat.le_refl _))
    have IB_13 : Hid (Iz (v12.alloc (.cells #[.int .i64 P, .int .i64 N, .slice A3 ds.length k3] 27)) B2 (Q1.map Int.ofNat)) := Lib.hid (IB_12.out.below (allocs_below [(#[.int .i64 P, .int .i64 N, .slice A3 ds.length k3], 27)] _ hb hb.size) (Nat.le_refl _))
    have DU_13 : Hid (Dz (v12.alloc (.cells #[.int .i64 P, .int .i64 N, .slice A3 ds.length k3] 27)) A3 ds) := Lib.hid (DU_12.out.below (allocs_below [(#[.int .i64 P, .int .i64 N, .slice A3 ds.length k3], 27)] _ (Below.refl _ _) (Nat.le_refl _)) (Nat.le_refl _))
    clear TZ_12 DS_12 DT_12 IA_12 IB_12 DU_12
    have X_13 : Hid (Blk (v12.alloc (.cells #[.int .i64 P, .int .i64 N, .slice A3 ds.length k3] 27)) w.heap.size 31 #[.int .i64 n0, .int .i64 n1]) := Lib.hid (allocs_keep [(#[.int .i64 P, .int .i64 N, .slice A3 ds.length k3], 27)] _ (X_12.out.below hb X_12.out.lt))
    have S_13 : Hid (Blk (v12.alloc (.cells #[.int .i64 P, .int .i64 N, .slice A3 ds.length k3] 27)) v1.heap.size 27 #[.int .i64 P, .int .i64 N, .slice A1 ds.length k1]) := Lib.hid (allocs_keep [(#[.int .i64 P, .int .i64 N, .slice A3 ds.length k3], 27)] _ (S_12.out.below hb S_12.out.lt))
    have R_13 : Hid (Blk (v12.alloc (.cells #[.int .i64 P, .int .i64 N, .slice A3 ds.length k3] 27)) v5.heap.size 40 #[.int .i64 x, .int .i64 y, .int .i64 ww, .int .i64 hh]) := Lib.hid (allocs_keep [(#[.int .i64 P, .int .i64 N, .slice A3 ds.length k3], 27)] _ (R_12.out.below hb R_12.out.lt))
    have T_13 : Hid (Blk (v12.alloc (.cells #[.int .i64 P, .int .i64 N, .slice A3 ds.length k3] 27)) v6.heap.size 27 #[.int .i64 P, .int .i64 N, .slice A2 es.length k2]) := Lib.hid (allocs_keep [(#[.int .i64 P, .int .i64 N, .slice A3 ds.length k3], 27)] _ (T_12.out.below hb T_12.out.lt))
    have Q_13 : Hid (Blk (v12.alloc (.cells #[.int .i64 P, .int .i64 N, .slice A3 ds.length k3] 27)) v7.heap.size 40 #[.int .i64 (x + r), .int .i64 (y + d), .int .i64 ww, .int .i64 hh]) := Lib.hid (allocs_keep [(#[.int .i64 P, .int .i64 N, .slice A3 ds.length k3], 27)] _ (Q_12.out.below hb Q_12.out.lt))
    have HB_13 : Hid (Below w.heap.size w (v12.alloc (.cells #[.int .i64 P, .int .i64 N, .slice A3 ds.length k3] 27))) := Lib.hid (allocs_below [(#[.int .i64 P, .int .i64 N, .slice A3 ds.length k3], 27)] _ (HB_12.out.trans (hb.mono HB_12.out.size)) (HB_12.out.trans (hb.mono HB_12.out.size)).size)
    have U_13 : Hid (Blk (v12.alloc (.cells #[.int .i64 P, .int .i64 N, .slice A3 ds.length k3] 27)) v12.heap.size 27 #[.int .i64 P, .int .i64 N, .slice A3 ds.length k3]) := Lib.hid (allocs_blk [(#[.int .i64 P, .int .i64 N, .slice A3 ds.length k3], 27)] v12 0 _ rfl)
    clear hb X_12 S_12 R_12 T_12 Q_12 HB_12
    have yy0 := S_13.out.cell (i := 0) (v := .int .i64 P) rfl; have yy1 := S_13.out.cell (i := 1) (v := .int .i64 N) rfl; have yy2 := S_13.out.cell (i := 2) (v := .slice A1 ds.length k1) rfl
    go_wp2_with fail
    refine (pends_yes P N ds A1 k1 _ DS_13.out HZL.out HVD.out).mono ?_
    rintro e v13 ⟨f1, l1, hf1, hl1, rfl, hb⟩
    have HF1 := Lib.hid (And.intro hf1 hl1); clear hf1 hl1
    clear yy0 yy1 yy2
    have TZ_14 : Hid (Tz ((v13.alloc (.cells #[.int .i64 f1.x, .int .i64 f1.y] 29)).alloc (.cells #[.int .i64 l1.x, .int .i64 l1.y] 29)) A0 n) := Lib.hid (TZ_13.out.below (allocs_below [(#[.int .i64 f1.x, .int .i64 f1.y], 29), (#[.int .i64 l1.x, .int .i64 l1.y], 29)] _ hb hb.size) (Nat.le_refl _))
    have DS_14 : Hid (Dz ((v13.alloc (.cells #[.int .i64 f1.x, .int .i64 f1.y] 29)).alloc (.cells #[.int .i64 l1.x, .int .i64 l1.y] 29)) A1 ds) := Lib.hid (DS_13.out.below (allocs_below [(#[.int .i64 f1.x, .int .i64 f1.y], 29), (#[.int .i64 l1.x, .int .i64 l1.y], 29)] _ hb hb.size) (Nat.le_refl _))
    have DT_14 : Hid (Dz ((v13.alloc (.cells #[.int .i64 f1.x, .int .i64 f1.y] 29)).alloc (.cells #[.int .i64 l1.x, .int .i64 l1.y] 29)) A2 es) := Lib.hid (DT_13.out.below (allocs_below [(#[.int .i64 f1.x, .int .i64 f1.y], 29), (#[.int .i64 l1.x, .int .i64 l1.y], 29)] _ hb hb.size) (Nat.le_refl _))
    have IA_14 : Hid (Iz ((v13.alloc (.cells #[.int .i64 f1.x, .int .i64 f1.y] 29)).alloc (.cells #[.int .i64 l1.x, .int .i64 l1.y] 29)) B1 (Q1.map Int.ofNat)) := Lib.hid (IA_13.out.below (allocs_below [(#[.int .i64 f1.x, .int .i64 f1.y], 29), (#[.int .i64 l1.x, .int .i64 l1.y], 29)] _ hb hb.size) (Nat.le_refl _))
    have IB_14 : Hid (Iz ((v13.alloc (.cells #[.int .i64 f1.x, .int .i64 f1.y] 29)).alloc (.cells #[.int .i64 l1.x, .int .i64 l1.y] 29)) B2 (Q1.map Int.ofNat)) := Lib.hid (IB_13.out.below (allocs_below [(#[.int .i64 f1.x, .int .i64 f1.y], 29), (#[.int .i64 l1.x, .int .i64 l1.y], 29)] _ hb hb.size) (Nat.le_refl _))
    have DU_14 : Hid (Dz ((v13.alloc (.cells #[.int .i64 f1.x, .int .i64 f1.y] 29)).alloc (.cells #[.int .i64 l1.x, .int .i64 l1.y] 29)) A3 ds) := Lib.hid (DU_13.out.below (allocs_below [(#[.int .i64 f1.x, .int .i64 f1.y], 29), (#[.int .i64 l1.x, .int .i64 l1.y], 29)] _ hb hb.size) (Nat.le_refl _))
    clear TZ_13 DS_13 DT_13 IA_13 IB_13 DU_13
    have X_14 : Hid (Blk ((v13.alloc (.cells #[.int .i64 f1.x, .int .i64 f1.y] 29)).alloc (.cells #[.int .i64 l1.x, .int .i64 l1.y] 29)) w.heap.size 31 #[.int .i64 n0, .int .i64 n1]) := Lib.hid (allocs_keep [(#[.int .i64 f1.x, .int .i64 f1.y], 29), (#[.int .i64 l1.x, .int .i64 l1.y], 29)] _ (X_13.out.below hb X_13.out.lt))
    have S_14 : Hid (Blk ((v13.alloc (.cells #[.int .i64 f1.x, .int .i64 f1.y] 29)).alloc (.cells #[.int .i64 l1.x, .int .i64 l1.y] 29)) v1.heap.size 27 #[.int .i64 P, .int .i64 N, .slice A1 ds.length k1]) := Lib.hid (allocs_keep [(#[.int .i64 f1.x, .int .i64 f1.y], 29), (#[.int .i64 l1.x, .int .i64 l1.y], 29)] _ (S_13.out.below hb S_13.out.lt))
    have R_14 : Hid (Blk ((v13.alloc (.cells #[.int .i64 f1.x, .int .i64 f1.y] 29)).alloc (.cells #[.int .i64 l1.x, .int .i64 l1.y] 29)) v5.heap.size 40 #[.int .i64 x, .int .i64 y, .int .i64 ww, .int .i64 hh]) := Lib.hid (allocs_keep [(#[.int .i64 f1.x, .int .i64 f1.y], 29), (#[.int .i64 l1.x, .int .i64 l1.y], 29)] _ (R_13.out.below hb R_13.out.lt))
    have T_14 : Hid (Blk ((v13.alloc (.cells #[.int .i64 f1.x, .int .i64 f1.y] 29)).alloc (.cells #[.int .i64 l1.x, .int .i64 l1.y] 29)) v6.heap.size 27 #[.int .i64 P, .int .i64 N, .slice A2 es.length k2]) := Lib.hid (allocs_keep [(#[.int .i64 f1.x, .int .i64 f1.y], 29), (#[.int .i64 l1.x, .int .i64 l1.y], 29)] _ (T_13.out.below hb T_13.out.lt))
    have Q_14 : Hid (Blk ((v13.alloc (.cells #[.int .i64 f1.x, .int .i64 f1.y] 29)).alloc (.cells #[.int .i64 l1.x, .int .i64 l1.y] 29)) v7.heap.size 40 #[.int .i64 (x + r), .int .i64 (y + d), .int .i64 ww, .int .i64 hh]) := Lib.hid (allocs_keep [(#[.int .i64 f1.x, .int .i64 f1.y], 29), (#[.int .i64 l1.x, .int .i64 l1.y], 29)] _ (Q_13.out.below hb Q_13.out.lt))
    have U_14 : Hid (Blk ((v13.alloc (.cells #[.int .i64 f1.x, .int .i64 f1.y] 29)).alloc (.cells #[.int .i64 l1.x, .int .i64 l1.y] 29)) v12.heap.size 27 #[.int .i64 P, .int .i64 N, .slice A3 ds.length k3]) := Lib.hid (allocs_keep [(#[.int .i64 f1.x, .int .i64 f1.y], 29), (#[.int .i64 l1.x, .int .i64 l1.y], 29)] _ (U_13.out.below hb U_13.out.lt))
    have HB_14 : Hid (Below w.heap.size w ((v13.alloc (.cells #[.int .i64 f1.x, .int .i64 f1.y] 29)).alloc (.cells #[.int .i64 l1.x, .int .i64 l1.y] 29))) := Lib.hid (allocs_below [(#[.int .i64 f1.x, .int .i64 f1.y], 29), (#[.int .i64 l1.x, .int .i64 l1.y], 29)] _ (HB_13.out.trans (hb.mono HB_13.out.size)) (HB_13.out.trans (hb.mono HB_13.out.size)).size)
    have F1_14 : Hid (Blk ((v13.alloc (.cells #[.int .i64 f1.x, .int .i64 f1.y] 29)).alloc (.cells #[.int .i64 l1.x, .int .i64 l1.y] 29)) v13.heap.size 29 #[.int .i64 f1.x, .int .i64 f1.y]) := Lib.hid (allocs_blk [(#[.int .i64 f1.x, .int .i64 f1.y], 29), (#[.int .i64 l1.x, .int .i64 l1.y], 29)] v13 0 _ rfl)
    have L1_14 : Hid (Blk ((v13.alloc (.cells #[.int .i64 f1.x, .int .i64 f1.y] 29)).alloc (.cells #[.int .i64 l1.x, .int .i64 l1.y] 29)) (v13.heap.size + 1) 29 #[.int .i64 l1.x, .int .i64 l1.y]) := Lib.hid (allocs_blk [(#[.int .i64 f1.x, .int .i64 f1.y], 29), (#[.int .i64 l1.x, .int .i64 l1.y], 29)] v13 1 _ rfl)
    clear hb X_13 S_13 R_13 T_13 Q_13 U_13 HB_13
    have yy0 := T_14.out.cell (i := 0) (v := .int .i64 P) rfl; have yy1 := T_14.out.cell (i := 1) (v := .int .i64 N) rfl; have yy2 := T_14.out.cell (i := 2) (v := .slice A2 es.length k2) rfl
    go_wp2_with fail
    refine (pends_yes P N es A2 k2 _ DT_14.out HZE.out HVM.out).mono ?_
    rintro e v14 ⟨f2, l2, hf2, hl2, rfl, hb⟩
    rw [HEL.out, ← HES.out, List.getElem?_map, HF1.out.2] at hl2
    rw [← HES.out, List.getElem?_map, HF1.out.1] at hf2
    obtain rfl : mvd r d f1 = f2 := by simpa using hf2
    obtain rfl : mvd r d l1 = l2 := by simpa using hl2
    clear hf2 hl2
    rw [show (mvd r d f1).x = f1.x + r from rfl, show (mvd r d f1).y = f1.y + d from rfl, show (mvd r d l1).x = l1.x + r from rfl, show (mvd r d l1).y = l1.y + d from rfl]
    clear yy0 yy1 yy2
    have TZ_15 : Hid (Tz ((v14.alloc (.cells #[.int .i64 (f1.x + r), .int .i64 (f1.y + d)] 29)).alloc (.cells #[.int .i64 (l1.x + r), .int .i64 (l1.y + d)] 29)) A0 n) := Lib.hid (TZ_14.out.below (allocs_below [(#[.int .i64 (f1.x + r), .int .i64 (f1.y + d)], 29), (#[.int .i64 (l1.x + r), .int .i64 (l1.y + d)], 29)] _ hb hb.size) (Nat.le_refl _))
    have DS_15 : Hid (Dz ((v14.alloc (.cells #[.int .i64 (f1.x + r), .int .i64 (f1.y + d)] 29)).alloc (.cells #[.int .i64 (l1.x + r), .int .i64 (l1.y + d)] 29)) A1 ds) := Lib.hid (DS_14.out.below (allocs_below [(#[.int .i64 (f1.x + r), .int .i64 (f1.y + d)], 29), (#[.int .i64 (l1.x + r), .int .i64 (l1.y + d)], 29)] _ hb hb.size) (Nat.le_refl _))
    have DT_15 : Hid (Dz ((v14.alloc (.cells #[.int .i64 (f1.x + r), .int .i64 (f1.y + d)] 29)).alloc (.cells #[.int .i64 (l1.x + r), .int .i64 (l1.y + d)] 29)) A2 es) := Lib.hid (DT_14.out.below (allocs_below [(#[.int .i64 (f1.x + r), .int .i64 (f1.y + d)], 29), (#[.int .i64 (l1.x + r), .int .i64 (l1.y + d)], 29)] _ hb hb.size) (Nat.le_refl _))
    have IA_15 : Hid (Iz ((v14.alloc (.cells #[.int .i64 (f1.x + r), .int .i64 (f1.y + d)] 29)).alloc (.cells #[.int .i64 (l1.x + r), .int .i64 (l1.y + d)] 29)) B1 (Q1.map Int.ofNat)) := Lib.hid (IA_14.out.below (allocs_below [(#[.int .i64 (f1.x + r), .int .i64 (f1.y + d)], 29), (#[.int .i64 (l1.x + r), .int .i64 (l1.y + d)], 29)] _ hb hb.size) (Nat.le_refl _))
    have IB_15 : Hid (Iz ((v14.alloc (.cells #[.int .i64 (f1.x + r), .int .i64 (f1.y + d)] 29)).alloc (.cells #[.int .i64 (l1.x + r), .int .i64 (l1.y + d)] 29)) B2 (Q1.map Int.ofNat)) := Lib.hid (IB_14.out.below (allocs_below [(#[.int .i64 (f1.x + r), .int .i64 (f1.y + d)], 29), (#[.int .i64 (l1.x + r), .int .i64 (l1.y + d)], 29)] _ hb hb.size) (Nat.le_refl _))
    have DU_15 : Hid (Dz ((v14.alloc (.cells #[.int .i64 (f1.x + r), .int .i64 (f1.y + d)] 29)).alloc (.cells #[.int .i64 (l1.x + r), .int .i64 (l1.y + d)] 29)) A3 ds) := Lib.hid (DU_14.out.below (allocs_below [(#[.int .i64 (f1.x + r), .int .i64 (f1.y + d)], 29), (#[.int .i64 (l1.x + r), .int .i64 (l1.y + d)], 29)] _ hb hb.size) (Nat.le_refl _))
    clear TZ_14 DS_14 DT_14 IA_14 IB_14 DU_14
    have X_15 : Hid (Blk ((v14.alloc (.cells #[.int .i64 (f1.x + r), .int .i64 (f1.y + d)] 29)).alloc (.cells #[.int .i64 (l1.x + r), .int .i64 (l1.y + d)] 29)) w.heap.size 31 #[.int .i64 n0, .int .i64 n1]) := Lib.hid (allocs_keep [(#[.int .i64 (f1.x + r), .int .i64 (f1.y + d)], 29), (#[.int .i64 (l1.x + r), .int .i64 (l1.y + d)], 29)] _ (X_14.out.below hb X_14.out.lt))
    have S_15 : Hid (Blk ((v14.alloc (.cells #[.int .i64 (f1.x + r), .int .i64 (f1.y + d)] 29)).alloc (.cells #[.int .i64 (l1.x + r), .int .i64 (l1.y + d)] 29)) v1.heap.size 27 #[.int .i64 P, .int .i64 N, .slice A1 ds.length k1]) := Lib.hid (allocs_keep [(#[.int .i64 (f1.x + r), .int .i64 (f1.y + d)], 29), (#[.int .i64 (l1.x + r), .int .i64 (l1.y + d)], 29)] _ (S_14.out.below hb S_14.out.lt))
    have R_15 : Hid (Blk ((v14.alloc (.cells #[.int .i64 (f1.x + r), .int .i64 (f1.y + d)] 29)).alloc (.cells #[.int .i64 (l1.x + r), .int .i64 (l1.y + d)] 29)) v5.heap.size 40 #[.int .i64 x, .int .i64 y, .int .i64 ww, .int .i64 hh]) := Lib.hid (allocs_keep [(#[.int .i64 (f1.x + r), .int .i64 (f1.y + d)], 29), (#[.int .i64 (l1.x + r), .int .i64 (l1.y + d)], 29)] _ (R_14.out.below hb R_14.out.lt))
    have T_15 : Hid (Blk ((v14.alloc (.cells #[.int .i64 (f1.x + r), .int .i64 (f1.y + d)] 29)).alloc (.cells #[.int .i64 (l1.x + r), .int .i64 (l1.y + d)] 29)) v6.heap.size 27 #[.int .i64 P, .int .i64 N, .slice A2 es.length k2]) := Lib.hid (allocs_keep [(#[.int .i64 (f1.x + r), .int .i64 (f1.y + d)], 29), (#[.int .i64 (l1.x + r), .int .i64 (l1.y + d)], 29)] _ (T_14.out.below hb T_14.out.lt))
    have Q_15 : Hid (Blk ((v14.alloc (.cells #[.int .i64 (f1.x + r), .int .i64 (f1.y + d)] 29)).alloc (.cells #[.int .i64 (l1.x + r), .int .i64 (l1.y + d)] 29)) v7.heap.size 40 #[.int .i64 (x + r), .int .i64 (y + d), .int .i64 ww, .int .i64 hh]) := Lib.hid (allocs_keep [(#[.int .i64 (f1.x + r), .int .i64 (f1.y + d)], 29), (#[.int .i64 (l1.x + r), .int .i64 (l1.y + d)], 29)] _ (Q_14.out.below hb Q_14.out.lt))
    have U_15 : Hid (Blk ((v14.alloc (.cells #[.int .i64 (f1.x + r), .int .i64 (f1.y + d)] 29)).alloc (.cells #[.int .i64 (l1.x + r), .int .i64 (l1.y + d)] 29)) v12.heap.size 27 #[.int .i64 P, .int .i64 N, .slice A3 ds.length k3]) := Lib.hid (allocs_keep [(#[.int .i64 (f1.x + r), .int .i64 (f1.y + d)], 29), (#[.int .i64 (l1.x + r), .int .i64 (l1.y + d)], 29)] _ (U_14.out.below hb U_14.out.lt))
    have F1_15 : Hid (Blk ((v14.alloc (.cells #[.int .i64 (f1.x + r), .int .i64 (f1.y + d)] 29)).alloc (.cells #[.int .i64 (l1.x + r), .int .i64 (l1.y + d)] 29)) v13.heap.size 29 #[.int .i64 f1.x, .int .i64 f1.y]) := Lib.hid (allocs_keep [(#[.int .i64 (f1.x + r), .int .i64 (f1.y + d)], 29), (#[.int .i64 (l1.x + r), .int .i64 (l1.y + d)], 29)] _ (F1_14.out.below hb F1_14.out.lt))
    have L1_15 : Hid (Blk ((v14.alloc (.cells #[.int .i64 (f1.x + r), .int .i64 (f1.y + d)] 29)).alloc (.cells #[.int .i64 (l1.x + r), .int .i64 (l1.y + d)] 29)) (v13.heap.size + 1) 29 #[.int .i64 l1.x, .int .i64 l1.y]) := Lib.hid (allocs_keep [(#[.int .i64 (f1.x + r), .int .i64 (f1.y + d)], 29), (#[.int .i64 (l1.x + r), .int .i64 (l1.y + d)], 29)] _ (L1_14.out.below hb L1_14.out.lt))
    have HB_15 : Hid (Below w.heap.size w ((v14.alloc (.cells #[.int .i64 (f1.x + r), .int .i64 (f1.y + d)] 29)).alloc (.cells #[.int .i64 (l1.x + r), .int .i64 (l1.y + d)] 29))) := Lib.hid (allocs_below [(#[.int .i64 (f1.x + r), .int .i64 (f1.y + d)], 29), (#[.int .i64 (l1.x + r), .int .i64 (l1.y + d)], 29)] _ (HB_14.out.trans (hb.mono HB_14.out.size)) (HB_14.out.trans (hb.mono HB_14.out.size)).size)
    have F2_15 : Hid (Blk ((v14.alloc (.cells #[.int .i64 (f1.x + r), .int .i64 (f1.y + d)] 29)).alloc (.cells #[.int .i64 (l1.x + r), .int .i64 (l1.y + d)] 29)) v14.heap.size 29 #[.int .i64 (f1.x + r), .int .i64 (f1.y + d)]) := Lib.hid (allocs_blk [(#[.int .i64 (f1.x + r), .int .i64 (f1.y + d)], 29), (#[.int .i64 (l1.x + r), .int .i64 (l1.y + d)], 29)] v14 0 _ rfl)
    have L2_15 : Hid (Blk ((v14.alloc (.cells #[.int .i64 (f1.x + r), .int .i64 (f1.y + d)] 29)).alloc (.cells #[.int .i64 (l1.x + r), .int .i64 (l1.y + d)] 29)) (v14.heap.size + 1) 29 #[.int .i64 (l1.x + r), .int .i64 (l1.y + d)]) := Lib.hid (allocs_blk [(#[.int .i64 (f1.x + r), .int .i64 (f1.y + d)], 29), (#[.int .i64 (l1.x + r), .int .i64 (l1.y + d)], 29)] v14 1 _ rfl)
    clear hb X_14 S_14 R_14 T_14 Q_14 U_14 F1_14 L1_14 HB_14
    have hof := (HVD.out.mem f1 (List.mem_of_getElem? HF1.out.1)).1
    have hol := (HVD.out.mem l1 (List.mem_of_getElem? HF1.out.2)).1
    have hrd := HRD.out
    unfold OnP at hof hol
    have ex0 : IntKind.i64.wrap (f1.x + r) = f1.x + r := IntWalk.i64_in _ (by omega)
    have ex1 : IntKind.i64.wrap (f1.y + d) = f1.y + d := IntWalk.i64_in _ (by omega)
    have ex2 : IntKind.i64.wrap (l1.x + r) = l1.x + r := IntWalk.i64_in _ (by omega)
    have ex3 : IntKind.i64.wrap (l1.y + d) = l1.y + d := IntWalk.i64_in _ (by omega)
    clear hof hol hrd
    have yy0 := Q_15.out.cell (i := 0) (v := .int .i64 (x + r)) rfl; have yy1 := Q_15.out.cell (i := 1) (v := .int .i64 (y + d)) rfl; have yy2 := Q_15.out.cell (i := 2) (v := .int .i64 ww) rfl; have yy3 := Q_15.out.cell (i := 3) (v := .int .i64 hh) rfl
    have yy4 := R_15.out.cell (i := 0) (v := .int .i64 x) rfl; have yy5 := R_15.out.cell (i := 1) (v := .int .i64 y) rfl; have yy6 := R_15.out.cell (i := 2) (v := .int .i64 ww) rfl; have yy7 := R_15.out.cell (i := 3) (v := .int .i64 hh) rfl
    go_wp2_with fail
    refine (rints_true Q1 B1 B2 c1 c2 _ IA_15.out IB_15.out (by have h := HTHL.out; have h2 := HZL.out; omega)).mono ?_
    rintro e v15 ⟨rfl, hb⟩
    clear yy0 yy1 yy2 yy3 yy4 yy5 yy6 yy7
    have TZ_16 : Hid (Tz v15 A0 n) := Lib.hid (TZ_15.out.below hb (Nat.le_refl _))
    have DS_16 : Hid (Dz v15 A1 ds) := Lib.hid (DS_15.out.below hb (Nat.le_refl _))
    have DT_16 : Hid (Dz v15 A2 es) := Lib.hid (DT_15.out.below hb (Nat.le_refl _))
    have IA_16 : Hid (Iz v15 B1 (Q1.map Int.ofNat)) := Lib.hid (IA_15.out.below hb (Nat.le_refl _))
    have IB_16 : Hid (Iz v15 B2 (Q1.map Int.ofNat)) := Lib.hid (IB_15.out.below hb (Nat.le_refl _))
    have DU_16 : Hid (Dz v15 A3 ds) := Lib.hid (DU_15.out.below hb (Nat.le_refl _))
    clear TZ_15 DS_15 DT_15 IA_15 IB_15 DU_15
    have X_16 : Hid (Blk v15 w.heap.size 31 #[.int .i64 n0, .int .i64 n1]) := Lib.hid (X_15.out.below hb X_15.out.lt)
    have S_16 : Hid (Blk v15 v1.heap.size 27 #[.int .i64 P, .int .i64 N, .slice A1 ds.length k1]) := Lib.hid (S_15.out.below hb S_15.out.lt)
    have R_16 : Hid (Blk v15 v5.heap.size 40 #[.int .i64 x, .int .i64 y, .int .i64 ww, .int .i64 hh]) := Lib.hid (R_15.out.below hb R_15.out.lt)
    have T_16 : Hid (Blk v15 v6.heap.size 27 #[.int .i64 P, .int .i64 N, .slice A2 es.length k2]) := Lib.hid (T_15.out.below hb T_15.out.lt)
    have Q_16 : Hid (Blk v15 v7.heap.size 40 #[.int .i64 (x + r), .int .i64 (y + d), .int .i64 ww, .int .i64 hh]) := Lib.hid (Q_15.out.below hb Q_15.out.lt)
    have U_16 : Hid (Blk v15 v12.heap.size 27 #[.int .i64 P, .int .i64 N, .slice A3 ds.length k3]) := Lib.hid (U_15.out.below hb U_15.out.lt)
    have F1_16 : Hid (Blk v15 v13.heap.size 29 #[.int .i64 f1.x, .int .i64 f1.y]) := Lib.hid (F1_15.out.below hb F1_15.out.lt)
    have L1_16 : Hid (Blk v15 (v13.heap.size + 1) 29 #[.int .i64 l1.x, .int .i64 l1.y]) := Lib.hid (L1_15.out.below hb L1_15.out.lt)
    have F2_16 : Hid (Blk v15 v14.heap.size 29 #[.int .i64 (f1.x + r), .int .i64 (f1.y + d)]) := Lib.hid (F2_15.out.below hb F2_15.out.lt)
    have L2_16 : Hid (Blk v15 (v14.heap.size + 1) 29 #[.int .i64 (l1.x + r), .int .i64 (l1.y + d)]) := Lib.hid (L2_15.out.below hb L2_15.out.lt)
    have HB_16 : Hid (Below w.heap.size w v15) := Lib.hid (HB_15.out.trans (hb.mono HB_15.out.size))
    clear hb X_15 S_15 R_15 T_15 Q_15 U_15 F1_15 L1_15 F2_15 L2_15 HB_15
    have yy0 := U_16.out.cell (i := 0) (v := .int .i64 P) rfl; have yy1 := U_16.out.cell (i := 1) (v := .int .i64 N) rfl; have yy2 := U_16.out.cell (i := 2) (v := .slice A3 ds.length k3) rfl
    have yy3 := S_16.out.cell (i := 0) (v := .int .i64 P) rfl; have yy4 := S_16.out.cell (i := 1) (v := .int .i64 N) rfl; have yy5 := S_16.out.cell (i := 2) (v := .slice A1 ds.length k1) rfl
    go_wp2_with fail
    refine (psame_true P N ds A3 A1 k3 k1 _ DU_16.out DS_16.out HZL.out).mono ?_
    rintro e v16 ⟨rfl, hb⟩
    clear yy0 yy1 yy2 yy3 yy4 yy5
    have TZ_17 : Hid (Tz v16 A0 n) := Lib.hid (TZ_16.out.below hb (Nat.le_refl _))
    have DS_17 : Hid (Dz v16 A1 ds) := Lib.hid (DS_16.out.below hb (Nat.le_refl _))
    have DT_17 : Hid (Dz v16 A2 es) := Lib.hid (DT_16.out.below hb (Nat.le_refl _))
    have IA_17 : Hid (Iz v16 B1 (Q1.map Int.ofNat)) := Lib.hid (IA_16.out.below hb (Nat.le_refl _))
    have IB_17 : Hid (Iz v16 B2 (Q1.map Int.ofNat)) := Lib.hid (IB_16.out.below hb (Nat.le_refl _))
    have DU_17 : Hid (Dz v16 A3 ds) := Lib.hid (DU_16.out.below hb (Nat.le_refl _))
    clear TZ_16 DS_16 DT_16 IA_16 IB_16 DU_16
    have X_17 : Hid (Blk v16 w.heap.size 31 #[.int .i64 n0, .int .i64 n1]) := Lib.hid (X_16.out.below hb X_16.out.lt)
    have S_17 : Hid (Blk v16 v1.heap.size 27 #[.int .i64 P, .int .i64 N, .slice A1 ds.length k1]) := Lib.hid (S_16.out.below hb S_16.out.lt)
    have R_17 : Hid (Blk v16 v5.heap.size 40 #[.int .i64 x, .int .i64 y, .int .i64 ww, .int .i64 hh]) := Lib.hid (R_16.out.below hb R_16.out.lt)
    have T_17 : Hid (Blk v16 v6.heap.size 27 #[.int .i64 P, .int .i64 N, .slice A2 es.length k2]) := Lib.hid (T_16.out.below hb T_16.out.lt)
    have Q_17 : Hid (Blk v16 v7.heap.size 40 #[.int .i64 (x + r), .int .i64 (y + d), .int .i64 ww, .int .i64 hh]) := Lib.hid (Q_16.out.below hb Q_16.out.lt)
    have U_17 : Hid (Blk v16 v12.heap.size 27 #[.int .i64 P, .int .i64 N, .slice A3 ds.length k3]) := Lib.hid (U_16.out.below hb U_16.out.lt)
    have F1_17 : Hid (Blk v16 v13.heap.size 29 #[.int .i64 f1.x, .int .i64 f1.y]) := Lib.hid (F1_16.out.below hb F1_16.out.lt)
    have L1_17 : Hid (Blk v16 (v13.heap.size + 1) 29 #[.int .i64 l1.x, .int .i64 l1.y]) := Lib.hid (L1_16.out.below hb L1_16.out.lt)
    have F2_17 : Hid (Blk v16 v14.heap.size 29 #[.int .i64 (f1.x + r), .int .i64 (f1.y + d)]) := Lib.hid (F2_16.out.below hb F2_16.out.lt)
    have L2_17 : Hid (Blk v16 (v14.heap.size + 1) 29 #[.int .i64 (l1.x + r), .int .i64 (l1.y + d)]) := Lib.hid (L2_16.out.below hb L2_16.out.lt)
    have HB_17 : Hid (Below w.heap.size w v16) := Lib.hid (HB_16.out.trans (hb.mono HB_16.out.size))
    clear hb X_16 S_16 R_16 T_16 Q_16 U_16 F1_16 L1_16 F2_16 L2_16 HB_16
    have yy0 := F1_17.out.cell (i := 0) (v := .int .i64 f1.x) rfl; have yy1 := F1_17.out.cell (i := 1) (v := .int .i64 f1.y) rfl
    have yy2 := F2_17.out.cell (i := 0) (v := .int .i64 (f1.x + r)) rfl; have yy3 := F2_17.out.cell (i := 1) (v := .int .i64 (f1.y + d)) rfl
    have yy4 := L1_17.out.cell (i := 0) (v := .int .i64 l1.x) rfl; have yy5 := L1_17.out.cell (i := 1) (v := .int .i64 l1.y) rfl
    have yy6 := L2_17.out.cell (i := 0) (v := .int .i64 (l1.x + r)) rfl; have yy7 := L2_17.out.cell (i := 1) (v := .int .i64 (l1.y + d)) rfl
    go_wp2_with fail
    go_ret
    exact ⟨rfl, HB_17.out⟩
end Go.Proofs.Ytamogfcedkjmcaa
