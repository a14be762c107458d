/- PlaneCrosses answers true. Conditions: ints. -/
import Derived.Test.YtgimceikeedkoaaGreatHJ
namespace Go.Proofs.YtgimceikeedkoaaGreat
open Go.RowKit Go.Lib

set_option maxRecDepth 100000 in
set_option maxHeartbeats 16000000 in
theorem plane_crosses (a0 a1 a2 a3 a4 a5 a6 a7 : Int) (w : World) (h0 : I64 a0) (h1 : I64 a1) (h2 : I64 a2) (h3 : I64 a3) (h4 : I64 a4) (h5 : I64 a5) (h6 : I64 a6) (h7 : I64 a7) : Yl 5 #[.agg #[.int .i64 a0, .int .i64 a1, .int .i64 a2, .int .i64 a3, .int .i64 a4, .int .i64 a5, .int .i64 a6, .int .i64 a7]] w (.bool true) := by
  have HSN := Lib.hid sane7_any
  have HPA := Lib.hid (fun W => rplace7_any a0 a1 W h0 h1); have HPB := Lib.hid (fun W => rplace7_any a2 a3 W h2 h3); have HPC := Lib.hid (fun W => rplace7_any a4 a5 W h4 h5); have HPD := Lib.hid (fun W => rplace7_any a6 a7 W h6 h7)
  have ka := plc7_ok a0 a1; have kb := plc7_ok a2 a3; have kc := plc7_ok a4 a5; have kd := plc7_ok a6 a7
  generalize plc7 a0 a1 = a at *
  generalize plc7 a2 a3 = b at *
  generalize plc7 a4 a5 = c at *
  generalize plc7 a6 a7 = d at *
  have HX1 := Lib.hid (fun W => cross_any a b c d W); have HX2 := Lib.hid (fun W => cross_any c d a b W); have HX3 := Lib.hid (fun W => cross_any b a c d W); have HX4 := Lib.hid (fun W => cross_any a b d c W); have HX5 := Lib.hid (fun W => cross_any a b a d W); have HX6 := Lib.hid (fun W => cross_any a b b b W)
  rw [cr7_turned ka kb kc kd] at HX2; rw [cr7_back ka kb kc kd] at HX3; rw [cr7_back2 ka kb kc kd] at HX4; rw [cr7_fan ka kb kd] at HX5; rw [cr7_end ka kb] at HX6
  have HS1 := Lib.hid (fun W => side_any a b c W); have HS2 := Lib.hid (fun W => side_any a b d W); have HS3 := Lib.hid (fun W => side_any c d a W); have HS4 := Lib.hid (fun W => side_any c d b W)
  have hyes := @cr7_yes a b c d ka kb kc kd
  have hno := @cr7_no a b c d ka kb kc kd
  have m1 := sd7_mem a b c; have m2 := sd7_mem a b d; have m3 := sd7_mem c d a; have m4 := sd7_mem c d b
  rw [← sd7_ok ka kb kc, ← sd7_ok ka kb kd, ← sd7_ok kc kd ka, ← sd7_ok kc kd kb] at hyes hno
  generalize sd7 a b c = s1 at *
  generalize sd7 a b d = s2 at *
  generalize sd7 c d a = s3 at *
  generalize sd7 c d b = s4 at *
  generalize cr7 a b c d = x at *
  have p1 := mul_small (m := 1) (n := 1) m1 m2
  have p2 := mul_small (m := 1) (n := 1) m3 m4
  obtain ⟨u, hu⟩ : ∃ u, u = s1 * s2 := ⟨_, rfl⟩
  obtain ⟨v, hv⟩ : ∃ v, v = s3 * s4 := ⟨_, rfl⟩
  have e1 : IntKind.i64.wrap (s1 * s2) = u := by rw [hu]; exact IntWalk.i64_in _ (by omega)
  have e2 : IntKind.i64.wrap (s3 * s4) = v := by rw [hv]; exact IntWalk.i64_in _ (by omega)
  rw [← hu, ← hv] at hyes hno
  have HYES : Hid (u < 0 → v < 0 → x = true) := Lib.hid hyes
  have HNO : Hid (0 < u ∨ 0 < v → x = false) := Lib.hid hno
  clear hyes hno m1 m2 m3 m4 p1 p2 hu hv ka kb kc kd h0 h1 h2 h3 h4 h5 h6 h7
  have X_0 : Hid (Blk (w.alloc (.cells #[.int .i64 a0, .int .i64 a1, .int .i64 a2, .int .i64 a3, .int .i64 a4, .int .i64 a5, .int .i64 a6, .int .i64 a7] 60)) w.heap.size 60 #[.int .i64 a0, .int .i64 a1, .int .i64 a2, .int .i64 a3, .int .i64 a4, .int .i64 a5, .int .i64 a6, .int .i64 a7]) := allocs_blk [(#[.int .i64 a0, .int .i64 a1, .int .i64 a2, .int .i64 a3, .int .i64 a4, .int .i64 a5, .int .i64 a6, .int .i64 a7], 60)] w 0 _ rfl
  have HB_0 : Hid (Below w.heap.size w (w.alloc (.cells #[.int .i64 a0, .int .i64 a1, .int .i64 a2, .int .i64 a3, .int .i64 a4, .int .i64 a5, .int .i64 a6, .int .i64 a7] 60))) := allocs_below [(#[.int .i64 a0, .int .i64 a1, .int .i64 a2, .int .i64 a3, .int .i64 a4, .int .i64 a5, .int .i64 a6, .int .i64 a7], 60)] w (Below.refl w.heap.size w) (Nat.le_refl _)
  go_enter Tryz.func5, Tryz.ntmps5
  go_wp2_with fail
  refine (HSN.out _).mono ?_
  rintro e v0 ⟨rfl, hb⟩
  have X_1 : Hid (Blk v0 w.heap.size 60 #[.int .i64 a0, .int .i64 a1, .int .i64 a2, .int .i64 a3, .int .i64 a4, .int .i64 a5, .int .i64 a6, .int .i64 a7]) := Lib.hid (X_0.out.below hb X_0.out.lt)
  have HB_1 : Hid (Below w.heap.size w v0) := Lib.hid (HB_0.out.trans (hb.mono HB_0.out.size))
  clear hb X_0 HB_0
  have yy0 := X_1.out.cell (i := 0) (v := .int .i64 a0) rfl; have yy1 := X_1.out.cell (i := 1) (v := .int .i64 a1) rfl; have yy2 := X_1.out.cell (i := 2) (v := .int .i64 a2) rfl; have yy3 := X_1.out.cell (i := 3) (v := .int .i64 a3) rfl; have yy4 := X_1.out.cell (i := 4) (v := .int .i64 a4) rfl; have yy5 := X_1.out.cell (i := 5) (v := .int .i64 a5) rfl; have yy6 := X_1.out.cell (i := 6) (v := .int .i64 a6) rfl; have yy7 := X_1.out.cell (i := 7) (v := .int .i64 a7) rfl
  go_wp2_with fail
  refine (HPA.out _).mono ?_
  rintro e v1 ⟨rfl, hb⟩
  clear yy0 yy1 yy2 yy3 yy4 yy5 yy6 yy7
  have X_2 : Hid (Blk (v1.alloc (.cells #[.int .i64 a.x, .int .i64 a.y] 26)) w.heap.size 60 #[.int .i64 a0, .int .i64 a1, .int .i64 a2, .int .i64 a3, .int .i64 a4, .int .i64 a5, .int .i64 a6, .int .i64 a7]) := Lib.hid (allocs_keep [(#[.int .i64 a.x, .int .i64 a.y], 26)] _ (X_1.out.below hb X_1.out.lt))
  have HB_2 : Hid (Below w.heap.size w (v1.alloc (.cells #[.int .i64 a.x, .int .i64 a.y] 26))) := Lib.hid (allocs_below [(#[.int .i64 a.x, .int .i64 a.y], 26)] _ (HB_1.out.trans (hb.mono HB_1.out.size)) (HB_1.out.trans (hb.mono HB_1.out.size)).size)
  have A_2 : Hid (Blk (v1.alloc (.cells #[.int .i64 a.x, .int .i64 a.y] 26)) v1.heap.size 26 #[.int .i64 a.x, .int .i64 a.y]) := Lib.hid (allocs_blk [(#[.int .i64 a.x, .int .i64 a.y], 26)] v1 0 _ rfl)
  clear hb X_1 HB_1
  have yy0 := X_2.out.cell (i := 0) (v := .int .i64 a0) rfl; have yy1 := X_2.out.cell (i := 1) (v := .int .i64 a1) rfl; have yy2 := X_2.out.cell (i := 2) (v := .int .i64 a2) rfl; have yy3 := X_2.out.cell (i := 3) (v := .int .i64 a3) rfl; have yy4 := X_2.out.cell (i := 4) (v := .int .i64 a4) rfl; have yy5 := X_2.out.cell (i := 5) (v := .int .i64 a5) rfl; have yy6 := X_2.out.cell (i := 6) (v := .int .i64 a6) rfl; have yy7 := X_2.out.cell (i := 7) (v := .int .i64 a7) rfl
  go_wp2_with fail
  refine (HPB.out _).mono ?_
  rintro e v2 ⟨rfl, hb⟩
  clear yy0 yy1 yy2 yy3 yy4 yy5 yy6 yy7
  have X_3 : Hid (Blk (v2.alloc (.cells #[.int .i64 b.x, .int .i64 b.y] 26)) w.heap.size 60 #[.int .i64 a0, .int .i64 a1, .int .i64 a2, .int .i64 a3, .int .i64 a4, .int .i64 a5, .int .i64 a6, .int .i64 a7]) := Lib.hid (allocs_keep [(#[.int .i64 b.x, .int .i64 b.y], 26)] _ (X_2.out.below hb X_2.out.lt))
  have A_3 : Hid (Blk (v2.alloc (.cells #[.int .i64 b.x, .int .i64 b.y] 26)) v1.heap.size 26 #[.int .i64 a.x, .int .i64 a.y]) := Lib.hid (allocs_keep [(#[.int .i64 b.x, .int .i64 b.y], 26)] _ (A_2.out.below hb A_2.out.lt))
  have HB_3 : Hid (Below w.heap.size w (v2.alloc (.cells #[.int .i64 b.x, .int .i64 b.y] 26))) := Lib.hid (allocs_below [(#[.int .i64 b.x, .int .i64 b.y], 26)] _ (HB_2.out.trans (hb.mono HB_2.out.size)) (HB_2.out.trans (hb.mono HB_2.out.size)).size)
  have B_3 : Hid (Blk (v2.alloc (.cells #[.int .i64 b.x, .int .i64 b.y] 26)) v2.heap.size 26 #[.int .i64 b.x, .int .i64 b.y]) := Lib.hid (allocs_blk [(#[.int .i64 b.x, .int .i64 b.y], 26)] v2 0 _ rfl)
  clear hb X_2 A_2 HB_2
  have yy0 := X_3.out.cell (i := 0) (v := .int .i64 a0) rfl; have yy1 := X_3.out.cell (i := 1) (v := .int .i64 a1) rfl; have yy2 := X_3.out.cell (i := 2) (v := .int .i64 a2) rfl; have yy3 := X_3.out.cell (i := 3) (v := .int .i64 a3) rfl; have yy4 := X_3.out.cell (i := 4) (v := .int .i64 a4) rfl; have yy5 := X_3.out.cell (i := 5) (v := .int .i64 a5) rfl; have yy6 := X_3.out.cell (i := 6) (v := .int .i64 a6) rfl; have yy7 := X_3.out.cell (i := 7) (v := .int .i64 a7) rfl
  go_wp2_with fail
  refine (HPC.out _).mono ?_
  rintro e v3 ⟨rfl, hb⟩
  clear yy0 yy1 yy2 yy3 yy4 yy5 yy6 yy7
  have X_4 : Hid (Blk (v3.alloc (.cells #[.int .i64 c.x, .int .i64 c.y] 26)) w.heap.size 60 #[.int .i64 a0, .int .i64 a1, .int .i64 a2, .int .i64 a3, .int .i64 a4, .int .i64 a5, .int .i64 a6, .int .i64 a7]) := Lib.hid (allocs_keep [(#[.int .i64 c.x, .int .i64 c.y], 26)] _ (X_3.out.below hb X_3.out.lt))
  have A_4 : Hid (Blk (v3.alloc (.cells #[.int .i64 c.x, .int .i64 c.y] 26)) v1.heap.size 26 #[.int .i64 a.x, .int .i64 a.y]) := Lib.hid (allocs_keep [(#[.int .i64 c.x, .int .i64 c.y], 26)] _ (A_3.out.below hb A_3.out.lt))
  have B_4 : Hid (Blk (v3.alloc (.cells #[.int .i64 c.x, .int .i64 c.y] 26)) v2.heap.size 26 #[.int .i64 b.x, .int .i64 b.y]) := Lib.hid (allocs_keep [(#[.int .i64 c.x, .int .i64 c.y], 26)] _ (B_3.out.below hb B_3.out.lt))
  have HB_4 : Hid (Below w.heap.size w (v3.alloc (.cells #[.int .i64 c.x, .int .i64 c.y] 26))) := Lib.hid (allocs_below [(#[.int .i64 c.x, .int .i64 c.y], 26)] _ (HB_3.out.trans (hb.mono HB_3.out.size)) (HB_3.out.trans (hb.mono HB_3.out.size)).size)
  have C_4 : Hid (Blk (v3.alloc (.cells #[.int .i64 c.x, .int .i64 c.y] 26)) v3.heap.size 26 #[.int .i64 c.x, .int .i64 c.y]) := Lib.hid (allocs_blk [(#[.int .i64 c.x, .int .i64 c.y], 26)] v3 0 _ rfl)
  clear hb X_3 A_3 B_3 HB_3
  have yy0 := X_4.out.cell (i := 0) (v := .int .i64 a0) rfl; have yy1 := X_4.out.cell (i := 1) (v := .int .i64 a1) rfl; have yy2 := X_4.out.cell (i := 2) (v := .int .i64 a2) rfl; have yy3 := X_4.out.cell (i := 3) (v := .int .i64 a3) rfl; have yy4 := X_4.out.cell (i := 4) (v := .int .i64 a4) rfl; have yy5 := X_4.out.cell (i := 5) (v := .int .i64 a5) rfl; have yy6 := X_4.out.cell (i := 6) (v := .int .i64 a6) rfl; have yy7 := X_4.out.cell (i := 7) (v := .int .i64 a7) rfl
  go_wp2_with fail
  refine (HPD.out _).mono ?_
  rintro e v4 ⟨rfl, hb⟩
  clear yy0 yy1 yy2 yy3 yy4 yy5 yy6 yy7
  have X_5 : Hid (Blk (v4.alloc (.cells #[.int .i64 d.x, .int .i64 d.y] 26)) w.heap.size 60 #[.int .i64 a0, .int .i64 a1, .int .i64 a2, .int .i64 a3, .int .i64 a4, .int .i64 a5, .int .i64 a6, .int .i64 a7]) := Lib.hid (allocs_keep [(#[.int .i64 d.x, .int .i64 d.y], 26)] _ (X_4.out.below hb X_4.out.lt))
  have A_5 : Hid (Blk (v4.alloc (.cells #[.int .i64 d.x, .int .i64 d.y] 26)) v1.heap.size 26 #[.int .i64 a.x, .int .i64 a.y]) := Lib.hid (allocs_keep [(#[.int .i64 d.x, .int .i64 d.y], 26)] _ (A_4.out.below hb A_4.out.lt))
  have B_5 : Hid (Blk (v4.alloc (.cells #[.int .i64 d.x, .int .i64 d.y] 26)) v2.heap.size 26 #[.int .i64 b.x, .int .i64 b.y]) := Lib.hid (allocs_keep [(#[.int .i64 d.x, .int .i64 d.y], 26)] _ (B_4.out.below hb B_4.out.lt))
  have C_5 : Hid (Blk (v4.alloc (.cells #[.int .i64 d.x, .int .i64 d.y] 26)) v3.heap.size 26 #[.int .i64 c.x, .int .i64 c.y]) := Lib.hid (allocs_keep [(#[.int .i64 d.x, .int .i64 d.y], 26)] _ (C_4.out.below hb C_4.out.lt))
  have HB_5 : Hid (Below w.heap.size w (v4.alloc (.cells #[.int .i64 d.x, .int .i64 d.y] 26))) := Lib.hid (allocs_below [(#[.int .i64 d.x, .int .i64 d.y], 26)] _ (HB_4.out.trans (hb.mono HB_4.out.size)) (HB_4.out.trans (hb.mono HB_4.out.size)).size)
  have D_5 : Hid (Blk (v4.alloc (.cells #[.int .i64 d.x, .int .i64 d.y] 26)) v4.heap.size 26 #[.int .i64 d.x, .int .i64 d.y]) := Lib.hid (allocs_blk [(#[.int .i64 d.x, .int .i64 d.y], 26)] v4 0 _ rfl)
  clear hb X_4 A_4 B_4 C_4 HB_4
  have yy0 := A_5.out.cell (i := 0) (v := .int .i64 a.x) rfl; have yy1 := A_5.out.cell (i := 1) (v := .int .i64 a.y) rfl
  have yy2 := B_5.out.cell (i := 0) (v := .int .i64 b.x) rfl; have yy3 := B_5.out.cell (i := 1) (v := .int .i64 b.y) rfl
  have yy4 := C_5.out.cell (i := 0) (v := .int .i64 c.x) rfl; have yy5 := C_5.out.cell (i := 1) (v := .int .i64 c.y) rfl
  have yy6 := D_5.out.cell (i := 0) (v := .int .i64 d.x) rfl; have yy7 := D_5.out.cell (i := 1) (v := .int .i64 d.y) rfl
  go_wp2_with fail
  refine (HX1.out _).mono ?_
  rintro e v5 ⟨rfl, hb⟩
  clear yy0 yy1 yy2 yy3 yy4 yy5 yy6 yy7
  have X_6 : Hid (Blk v5 w.heap.size 60 #[.int .i64 a0, .int .i64 a1, .int .i64 a2, .int .i64 a3, .int .i64 a4, .int .i64 a5, .int .i64 a6, .int .i64 a7]) := Lib.hid (X_5.out.below hb X_5.out.lt)
  have A_6 : Hid (Blk v5 v1.heap.size 26 #[.int .i64 a.x, .int .i64 a.y]) := Lib.hid (A_5.out.below hb A_5.out.lt)
  have B_6 : Hid (Blk v5 v2.heap.size 26 #[.int .i64 b.x, .int .i64 b.y]) := Lib.hid (B_5.out.below hb B_5.out.lt)
  have C_6 : Hid (Blk v5 v3.heap.size 26 #[.int .i64 c.x, .int .i64 c.y]) := Lib.hid (C_5.out.below hb C_5.out.lt)
  have D_6 : Hid (Blk v5 v4.heap.size 26 #[.int .i64 d.x, .int .i64 d.y]) := Lib.hid (D_5.out.below hb D_5.out.lt)
  have HB_6 : Hid (Below w.heap.size w v5) := Lib.hid (HB_5.out.trans (hb.mono HB_5.out.size))
  clear hb X_5 A_5 B_5 C_5 D_5 HB_5
  have yy0 := A_6.out.cell (i := 0) (v := .int .i64 a.x) rfl; have yy1 := A_6.out.cell (i := 1) (v := .int .i64 a.y) rfl
  have yy2 := B_6.out.cell (i := 0) (v := .int .i64 b.x) rfl; have yy3 := B_6.out.cell (i := 1) (v := .int .i64 b.y) rfl
  have yy4 := C_6.out.cell (i := 0) (v := .int .i64 c.x) rfl; have yy5 := C_6.out.cell (i := 1) (v := .int .i64 c.y) rfl
  have yy6 := D_6.out.cell (i := 0) (v := .int .i64 d.x) rfl; have yy7 := D_6.out.cell (i := 1) (v := .int .i64 d.y) rfl
  go_wp2_with fail
  refine (HX2.out _).mono ?_
  rintro e v6 ⟨rfl, hb⟩
  clear yy0 yy1 yy2 yy3 yy4 yy5 yy6 yy7
  have X_7 : Hid (Blk v6 w.heap.size 60 #[.int .i64 a0, .int .i64 a1, .int .i64 a2, .int .i64 a3, .int .i64 a4, .int .i64 a5, .int .i64 a6, .int .i64 a7]) := Lib.hid (X_6.out.below hb X_6.out.lt)
  have A_7 : Hid (Blk v6 v1.heap.size 26 #[.int .i64 a.x, .int .i64 a.y]) := Lib.hid (A_6.out.below hb A_6.out.lt)
  have B_7 : Hid (Blk v6 v2.heap.size 26 #[.int .i64 b.x, .int .i64 b.y]) := Lib.hid (B_6.out.below hb B_6.out.lt)
  have C_7 : Hid (Blk v6 v3.heap.size 26 #[.int .i64 c.x, .int .i64 c.y]) := Lib.hid (C_6.out.below hb C_6.out.lt)
  have D_7 : Hid (Blk v6 v4.heap.size 26 #[.int .i64 d.x, .int .i64 d.y]) := Lib.hid (D_6.out.below hb D_6.out.lt)
  have HB_7 : Hid (Below w.heap.size w v6) := Lib.hid (HB_6.out.trans (hb.mono HB_6.out.size))
  clear hb X_6 A_6 B_6 C_6 D_6 HB_6
  have hxx : (x == x) = true := by simp
  have hxn : (x != x) = false := by simp
  have yy0 := A_7.out.cell (i := 0) (v := .int .i64 a.x) rfl; have yy1 := A_7.out.cell (i := 1) (v := .int .i64 a.y) rfl
  have yy2 := B_7.out.cell (i := 0) (v := .int .i64 b.x) rfl; have yy3 := B_7.out.cell (i := 1) (v := .int .i64 b.y) rfl
  have yy4 := C_7.out.cell (i := 0) (v := .int .i64 c.x) rfl; have yy5 := C_7.out.cell (i := 1) (v := .int .i64 c.y) rfl
  have yy6 := D_7.out.cell (i := 0) (v := .int .i64 d.x) rfl; have yy7 := D_7.out.cell (i := 1) (v := .int .i64 d.y) rfl
  go_wp2_with fail
  refine (HX3.out _).mono ?_
  rintro e v7 ⟨rfl, hb⟩
  clear yy0 yy1 yy2 yy3 yy4 yy5 yy6 yy7
  have X_8 : Hid (Blk v7 w.heap.size 60 #[.int .i64 a0, .int .i64 a1, .int .i64 a2, .int .i64 a3, .int .i64 a4, .int .i64 a5, .int .i64 a6, .int .i64 a7]) := Lib.hid (X_7.out.below hb X_7.out.lt)
  have A_8 : Hid (Blk v7 v1.heap.size 26 #[.int .i64 a.x, .int .i64 a.y]) := Lib.hid (A_7.out.below hb A_7.out.lt)
  have B_8 : Hid (Blk v7 v2.heap.size 26 #[.int .i64 b.x, .int .i64 b.y]) := Lib.hid (B_7.out.below hb B_7.out.lt)
  have C_8 : Hid (Blk v7 v3.heap.size 26 #[.int .i64 c.x, .int .i64 c.y]) := Lib.hid (C_7.out.below hb C_7.out.lt)
  have D_8 : Hid (Blk v7 v4.heap.size 26 #[.int .i64 d.x, .int .i64 d.y]) := Lib.hid (D_7.out.below hb D_7.out.lt)
  have HB_8 : Hid (Below w.heap.size w v7) := Lib.hid (HB_7.out.trans (hb.mono HB_7.out.size))
  clear hb X_7 A_7 B_7 C_7 D_7 HB_7
  have yy0 := A_8.out.cell (i := 0) (v := .int .i64 a.x) rfl; have yy1 := A_8.out.cell (i := 1) (v := .int .i64 a.y) rfl
  have yy2 := B_8.out.cell (i := 0) (v := .int .i64 b.x) rfl; have yy3 := B_8.out.cell (i := 1) (v := .int .i64 b.y) rfl
  have yy4 := C_8.out.cell (i := 0) (v := .int .i64 c.x) rfl; have yy5 := C_8.out.cell (i := 1) (v := .int .i64 c.y) rfl
  have yy6 := D_8.out.cell (i := 0) (v := .int .i64 d.x) rfl; have yy7 := D_8.out.cell (i := 1) (v := .int .i64 d.y) rfl
  go_wp2_with fail
  refine (HX4.out _).mono ?_
  rintro e v8 ⟨rfl, hb⟩
  clear yy0 yy1 yy2 yy3 yy4 yy5 yy6 yy7
  have X_9 : Hid (Blk v8 w.heap.size 60 #[.int .i64 a0, .int .i64 a1, .int .i64 a2, .int .i64 a3, .int .i64 a4, .int .i64 a5, .int .i64 a6, .int .i64 a7]) := Lib.hid (X_8.out.below hb X_8.out.lt)
  have A_9 : Hid (Blk v8 v1.heap.size 26 #[.int .i64 a.x, .int .i64 a.y]) := Lib.hid (A_8.out.below hb A_8.out.lt)
  have B_9 : Hid (Blk v8 v2.heap.size 26 #[.int .i64 b.x, .int .i64 b.y]) := Lib.hid (B_8.out.below hb B_8.out.lt)
  have C_9 : Hid (Blk v8 v3.heap.size 26 #[.int .i64 c.x, .int .i64 c.y]) := Lib.hid (C_8.out.below hb C_8.out.lt)
  have D_9 : Hid (Blk v8 v4.heap.size 26 #[.int .i64 d.x, .int .i64 d.y]) := Lib.hid (D_8.out.below hb D_8.out.lt)
  have HB_9 : Hid (Below w.heap.size w v8) := Lib.hid (HB_8.out.trans (hb.mono HB_8.out.size))
  clear hb X_8 A_8 B_8 C_8 D_8 HB_8
  go_wp2_with fail
  refine wp_region_grow (S := (fun w' => w'.cell? ⟨v1.heap.size, 0, none⟩ = some (.int .i64 a.x) ∧ w'.cell? ⟨v1.heap.size, 1, none⟩ = some (.int .i64 a.y) ∧ w'.cell? ⟨v2.heap.size, 0, none⟩ = some (.int .i64 b.x) ∧ w'.cell? ⟨v2.heap.size, 1, none⟩ = some (.int .i64 b.y) ∧ w'.cell? ⟨v3.heap.size, 0, none⟩ = some (.int .i64 c.x) ∧ w'.cell? ⟨v3.heap.size, 1, none⟩ = some (.int .i64 c.y) ∧ w'.cell? ⟨v4.heap.size, 0, none⟩ = some (.int .i64 d.x) ∧ w'.cell? ⟨v4.heap.size, 1, none⟩ = some (.int .i64 d.y))) ((fun w' => Below v8.heap.size v8 w')) (by kernel_rfl) (⟨fun w2 h2 => ⟨(A_9.out.below h2 A_9.out.lt).cell (i := 0) (v := .int .i64 a.x) rfl, (A_9.out.below h2 A_9.out.lt).cell (i := 1) (v := .int .i64 a.y) rfl, (B_9.out.below h2 B_9.out.lt).cell (i := 0) (v := .int .i64 b.x) rfl, (B_9.out.below h2 B_9.out.lt).cell (i := 1) (v := .int .i64 b.y) rfl, (C_9.out.below h2 C_9.out.lt).cell (i := 0) (v := .int .i64 c.x) rfl, (C_9.out.below h2 C_9.out.lt).cell (i := 1) (v := .int .i64 c.y) rfl, (D_9.out.below h2 D_9.out.lt).cell (i := 0) (v := .int .i64 d.x) rfl, (D_9.out.below h2 D_9.out.lt).cell (i := 1) (v := .int .i64 d.y) rfl⟩, fun w2 w3 h2 hb2 => h2.trans (hb2.mono h2.size)⟩) ((Below.refl v8.heap.size v8).drew) (fun hCalm => ?_)
  refine grow_take 0 (some 54) ?_ rfl rfl (by kernel_rfl) (fun _ _ _ h => h) (by kernel_rfl) hCalm ?_ ?_
  rotate_left
  · intro wS hS; (try dsimp only at hS); go_simp <;> with_reducible rfl
  try simp only [Act.put, List.setIfInBounds_toArray, List.set_cons_zero, List.set_cons_succ]
  refine grow_take 1 (some 55) ?_ rfl rfl (by kernel_rfl) (fun _ _ _ h => h) (by kernel_rfl) hCalm ?_ ?_
  rotate_left
  · intro wS hS; (try dsimp only at hS); go_simp <;> with_reducible rfl
  try simp only [Act.put, List.setIfInBounds_toArray, List.set_cons_zero, List.set_cons_succ]
  refine grow_take 2 (some 56) ?_ rfl rfl (by kernel_rfl) (fun _ _ _ h => h) (by kernel_rfl) hCalm ?_ ?_
  rotate_left
  · intro wS hS; (try dsimp only at hS); go_simp <;> with_reducible rfl
  try simp only [Act.put, List.setIfInBounds_toArray, List.set_cons_zero, List.set_cons_succ]
  refine grow_take 4 (some 58) ?_ rfl rfl (by kernel_rfl) (fun _ _ _ h => h) (by kernel_rfl) hCalm ?_ ?_
  rotate_left
  · intro wS hS; (try dsimp only at hS); go_simp <;> with_reducible rfl
  try simp only [Act.put, List.setIfInBounds_toArray, List.set_cons_zero, List.set_cons_succ]
  refine grow_take 5 (some 59) ?_ rfl rfl (by kernel_rfl) (fun _ _ _ h => h) (by kernel_rfl) hCalm ?_ ?_
  rotate_left
  · intro wS hS; (try dsimp only at hS); go_simp <;> with_reducible rfl
  try simp only [Act.put, List.setIfInBounds_toArray, List.set_cons_zero, List.set_cons_succ]
  refine grow_take 6 (some 60) ?_ rfl rfl (by kernel_rfl) (fun _ _ _ h => h) (by kernel_rfl) hCalm ?_ ?_
  rotate_left
  · intro wS hS; (try dsimp only at hS); go_simp <;> with_reducible rfl
  try simp only [Act.put, List.setIfInBounds_toArray, List.set_cons_zero, List.set_cons_succ]
  refine grow_call 3 (some 57) (.int .i64 s1) 31 [.tmp 54, .tmp 55, .tmp 56] #[26, 26, 26] rfl rfl (by kernel_rfl) (fun _ _ _ h => h) (by kernel_rfl) hCalm rfl (enters_of Tryz.func31 (by kernel_rfl) rfl) (fun wz _ => HS1.out wz) (by kernel_rfl) ?_
  try simp only [Act.put, List.setIfInBounds_toArray, List.set_cons_zero, List.set_cons_succ]
  refine grow_call 7 (some 61) (.int .i64 s2) 31 [.tmp 58, .tmp 59, .tmp 60] #[26, 26, 26] rfl rfl (by kernel_rfl) (fun _ _ _ h => h) (by kernel_rfl) hCalm rfl (enters_of Tryz.func31 (by kernel_rfl) rfl) (fun wz _ => HS2.out wz) (by kernel_rfl) ?_
  try simp only [Act.put, List.setIfInBounds_toArray, List.set_cons_zero, List.set_cons_succ]
  refine grow_take 8 (some 62) ?_ rfl rfl (by kernel_rfl) (fun _ _ _ h => h) (by kernel_rfl) hCalm ?_ ?_
  rotate_left
  · intro wS hS; (try dsimp only at hS); go_simp <;> with_reducible rfl
  try simp only [Act.put, List.setIfInBounds_toArray, List.set_cons_zero, List.set_cons_succ]
  refine grow_take 9 (some 8) ?_ rfl rfl (by kernel_rfl) (fun _ _ _ h => h) (by kernel_rfl) hCalm ?_ ?_
  rotate_left
  · intro wS hS; (try dsimp only at hS); go_simp <;> with_reducible rfl
  try simp only [Act.put, List.setIfInBounds_toArray, List.set_cons_zero, List.set_cons_succ]
  refine grow_done (by kernel_rfl) (fun wA hA => ?_) _
  obtain ⟨v9, hv9⟩ : ∃ x, x = wA := ⟨_, rfl⟩
  rw [← hv9] at hA ⊢
  clear hv9
  have hb := hA; clear hA hCalm
  have X_10 : Hid (Blk v9 w.heap.size 60 #[.int .i64 a0, .int .i64 a1, .int .i64 a2, .int .i64 a3, .int .i64 a4, .int .i64 a5, .int .i64 a6, .int .i64 a7]) := Lib.hid (X_9.out.below hb X_9.out.lt)
  have A_10 : Hid (Blk v9 v1.heap.size 26 #[.int .i64 a.x, .int .i64 a.y]) := Lib.hid (A_9.out.below hb A_9.out.lt)
  have B_10 : Hid (Blk v9 v2.heap.size 26 #[.int .i64 b.x, .int .i64 b.y]) := Lib.hid (B_9.out.below hb B_9.out.lt)
  have C_10 : Hid (Blk v9 v3.heap.size 26 #[.int .i64 c.x, .int .i64 c.y]) := Lib.hid (C_9.out.below hb C_9.out.lt)
  have D_10 : Hid (Blk v9 v4.heap.size 26 #[.int .i64 d.x, .int .i64 d.y]) := Lib.hid (D_9.out.below hb D_9.out.lt)
  have HB_10 : Hid (Below w.heap.size w v9) := Lib.hid (HB_9.out.trans (hb.mono HB_9.out.size))
  clear hb X_9 A_9 B_9 C_9 D_9 HB_9
  go_wp2_with fail
  refine wp_region_grow (S := (fun w' => w'.cell? ⟨v1.heap.size, 0, none⟩ = some (.int .i64 a.x) ∧ w'.cell? ⟨v1.heap.size, 1, none⟩ = some (.int .i64 a.y) ∧ w'.cell? ⟨v2.heap.size, 0, none⟩ = some (.int .i64 b.x) ∧ w'.cell? ⟨v2.heap.size, 1, none⟩ = some (.int .i64 b.y) ∧ w'.cell? ⟨v3.heap.size, 0, none⟩ = some (.int .i64 c.x) ∧ w'.cell? ⟨v3.heap.size, 1, none⟩ = some (.int .i64 c.y) ∧ w'.cell? ⟨v4.heap.size, 0, none⟩ = some (.int .i64 d.x) ∧ w'.cell? ⟨v4.heap.size, 1, none⟩ = some (.int .i64 d.y))) ((fun w' => Below v9.heap.size v9 w')) (by kernel_rfl) (⟨fun w2 h2 => ⟨(A_10.out.below h2 A_10.out.lt).cell (i := 0) (v := .int .i64 a.x) rfl, (A_10.out.below h2 A_10.out.lt).cell (i := 1) (v := .int .i64 a.y) rfl, (B_10.out.below h2 B_10.out.lt).cell (i := 0) (v := .int .i64 b.x) rfl, (B_10.out.below h2 B_10.out.lt).cell (i := 1) (v := .int .i64 b.y) rfl, (C_10.out.below h2 C_10.out.lt).cell (i := 0) (v := .int .i64 c.x) rfl, (C_10.out.below h2 C_10.out.lt).cell (i := 1) (v := .int .i64 c.y) rfl, (D_10.out.below h2 D_10.out.lt).cell (i := 0) (v := .int .i64 d.x) rfl, (D_10.out.below h2 D_10.out.lt).cell (i := 1) (v := .int .i64 d.y) rfl⟩, fun w2 w3 h2 hb2 => h2.trans (hb2.mono h2.size)⟩) ((Below.refl v9.heap.size v9).drew) (fun hCalm => ?_)
  refine grow_take 0 (some 63) ?_ rfl rfl (by kernel_rfl) (fun _ _ _ h => h) (by kernel_rfl) hCalm ?_ ?_
  rotate_left
  · intro wS hS; (try dsimp only at hS); go_simp <;> with_reducible rfl
  try simp only [Act.put, List.setIfInBounds_toArray, List.set_cons_zero, List.set_cons_succ]
  refine grow_take 1 (some 64) ?_ rfl rfl (by kernel_rfl) (fun _ _ _ h => h) (by kernel_rfl) hCalm ?_ ?_
  rotate_left
  · intro wS hS; (try dsimp only at hS); go_simp <;> with_reducible rfl
  try simp only [Act.put, List.setIfInBounds_toArray, List.set_cons_zero, List.set_cons_succ]
  refine grow_take 2 (some 65) ?_ rfl rfl (by kernel_rfl) (fun _ _ _ h => h) (by kernel_rfl) hCalm ?_ ?_
  rotate_left
  · intro wS hS; (try dsimp only at hS); go_simp <;> with_reducible rfl
  try simp only [Act.put, List.setIfInBounds_toArray, List.set_cons_zero, List.set_cons_succ]
  refine grow_take 4 (some 67) ?_ rfl rfl (by kernel_rfl) (fun _ _ _ h => h) (by kernel_rfl) hCalm ?_ ?_
  rotate_left
  · intro wS hS; (try dsimp only at hS); go_simp <;> with_reducible rfl
  try simp only [Act.put, List.setIfInBounds_toArray, List.set_cons_zero, List.set_cons_succ]
  refine grow_take 5 (some 68) ?_ rfl rfl (by kernel_rfl) (fun _ _ _ h => h) (by kernel_rfl) hCalm ?_ ?_
  rotate_left
  · intro wS hS; (try dsimp only at hS); go_simp <;> with_reducible rfl
  try simp only [Act.put, List.setIfInBounds_toArray, List.set_cons_zero, List.set_cons_succ]
  refine grow_take 6 (some 69) ?_ rfl rfl (by kernel_rfl) (fun _ _ _ h => h) (by kernel_rfl) hCalm ?_ ?_
  rotate_left
  · intro wS hS; (try dsimp only at hS); go_simp <;> with_reducible rfl
  try simp only [Act.put, List.setIfInBounds_toArray, List.set_cons_zero, List.set_cons_succ]
  refine grow_call 3 (some 66) (.int .i64 s3) 31 [.tmp 63, .tmp 64, .tmp 65] #[26, 26, 26] rfl rfl (by kernel_rfl) (fun _ _ _ h => h) (by kernel_rfl) hCalm rfl (enters_of Tryz.func31 (by kernel_rfl) rfl) (fun wz _ => HS3.out wz) (by kernel_rfl) ?_
  try simp only [Act.put, List.setIfInBounds_toArray, List.set_cons_zero, List.set_cons_succ]
  refine grow_call 7 (some 70) (.int .i64 s4) 31 [.tmp 67, .tmp 68, .tmp 69] #[26, 26, 26] rfl rfl (by kernel_rfl) (fun _ _ _ h => h) (by kernel_rfl) hCalm rfl (enters_of Tryz.func31 (by kernel_rfl) rfl) (fun wz _ => HS4.out wz) (by kernel_rfl) ?_
  try simp only [Act.put, List.setIfInBounds_toArray, List.set_cons_zero, List.set_cons_succ]
  refine grow_take 8 (some 71) ?_ rfl rfl (by kernel_rfl) (fun _ _ _ h => h) (by kernel_rfl) hCalm ?_ ?_
  rotate_left
  · intro wS hS; (try dsimp only at hS); go_simp <;> with_reducible rfl
  try simp only [Act.put, List.setIfInBounds_toArray, List.set_cons_zero, List.set_cons_succ]
  refine grow_take 9 (some 9) ?_ rfl rfl (by kernel_rfl) (fun _ _ _ h => h) (by kernel_rfl) hCalm ?_ ?_
  rotate_left
  · intro wS hS; (try dsimp only at hS); go_simp <;> with_reducible rfl
  try simp only [Act.put, List.setIfInBounds_toArray, List.set_cons_zero, List.set_cons_succ]
  refine grow_done (by kernel_rfl) (fun wA hA => ?_) _
  obtain ⟨v10, hv10⟩ : ∃ x, x = wA := ⟨_, rfl⟩
  rw [← hv10] at hA ⊢
  clear hv10
  have hb := hA; clear hA hCalm
  have X_11 : Hid (Blk v10 w.heap.size 60 #[.int .i64 a0, .int .i64 a1, .int .i64 a2, .int .i64 a3, .int .i64 a4, .int .i64 a5, .int .i64 a6, .int .i64 a7]) := Lib.hid (X_10.out.below hb X_10.out.lt)
  have A_11 : Hid (Blk v10 v1.heap.size 26 #[.int .i64 a.x, .int .i64 a.y]) := Lib.hid (A_10.out.below hb A_10.out.lt)
  have B_11 : Hid (Blk v10 v2.heap.size 26 #[.int .i64 b.x, .int .i64 b.y]) := Lib.hid (B_10.out.below hb B_10.out.lt)
  have C_11 : Hid (Blk v10 v3.heap.size 26 #[.int .i64 c.x, .int .i64 c.y]) := Lib.hid (C_10.out.below hb C_10.out.lt)
  have D_11 : Hid (Blk v10 v4.heap.size 26 #[.int .i64 d.x, .int .i64 d.y]) := Lib.hid (D_10.out.below hb D_10.out.lt)
  have HB_11 : Hid (Below w.heap.size w v10) := Lib.hid (HB_10.out.trans (hb.mono HB_10.out.size))
  clear hb X_10 A_10 B_10 C_10 D_10 HB_10
  have hundef := un_none
  by_cases c1 : u < 0
  case pos =>
    have c1n : ¬ 0 < u := by omega
    by_cases c2 : v < 0
    case pos =>
      obtain rfl := HYES.out c1 c2
      have c2n : ¬ 0 < v := by omega
      have yy0 := A_11.out.cell (i := 0) (v := .int .i64 a.x) rfl; have yy1 := A_11.out.cell (i := 1) (v := .int .i64 a.y) rfl
      have yy2 := B_11.out.cell (i := 0) (v := .int .i64 b.x) rfl; have yy3 := B_11.out.cell (i := 1) (v := .int .i64 b.y) rfl
      have yy4 := C_11.out.cell (i := 0) (v := .int .i64 c.x) rfl; have yy5 := C_11.out.cell (i := 1) (v := .int .i64 c.y) rfl
      have yy6 := D_11.out.cell (i := 0) (v := .int .i64 d.x) rfl; have yy7 := D_11.out.cell (i := 1) (v := .int .i64 d.y) rfl
      go_wp2_with fail
      clear yy0 yy1 yy2 yy3 yy4 yy5 yy6 yy7
      refine (HX5.out _).mono ?_
      rintro e v11 ⟨rfl, hb⟩
      have X_12 : Hid (Blk v11 w.heap.size 60 #[.int .i64 a0, .int .i64 a1, .int .i64 a2, .int .i64 a3, .int .i64 a4, .int .i64 a5, .int .i64 a6, .int .i64 a7]) := Lib.hid (X_11.out.below hb X_11.out.lt)
      have A_12 : Hid (Blk v11 v1.heap.size 26 #[.int .i64 a.x, .int .i64 a.y]) := Lib.hid (A_11.out.below hb A_11.out.lt)
      have B_12 : Hid (Blk v11 v2.heap.size 26 #[.int .i64 b.x, .int .i64 b.y]) := Lib.hid (B_11.out.below hb B_11.out.lt)
      have C_12 : Hid (Blk v11 v3.heap.size 26 #[.int .i64 c.x, .int .i64 c.y]) := Lib.hid (C_11.out.below hb C_11.out.lt)
      have D_12 : Hid (Blk v11 v4.heap.size 26 #[.int .i64 d.x, .int .i64 d.y]) := Lib.hid (D_11.out.below hb D_11.out.lt)
      have HB_12 : Hid (Below w.heap.size w v11) := Lib.hid (HB_11.out.trans (hb.mono HB_11.out.size))
      clear hb X_11 A_11 B_11 C_11 D_11 HB_11
      have yy0 := A_12.out.cell (i := 0) (v := .int .i64 a.x) rfl; have yy1 := A_12.out.cell (i := 1) (v := .int .i64 a.y) rfl
      have yy2 := B_12.out.cell (i := 0) (v := .int .i64 b.x) rfl; have yy3 := B_12.out.cell (i := 1) (v := .int .i64 b.y) rfl
      have yy4 := C_12.out.cell (i := 0) (v := .int .i64 c.x) rfl; have yy5 := C_12.out.cell (i := 1) (v := .int .i64 c.y) rfl
      have yy6 := D_12.out.cell (i := 0) (v := .int .i64 d.x) rfl; have yy7 := D_12.out.cell (i := 1) (v := .int .i64 d.y) rfl
      go_wp2_with fail
      refine (HX6.out _).mono ?_
      rintro e v12 ⟨rfl, hb⟩
      clear yy0 yy1 yy2 yy3 yy4 yy5 yy6 yy7
      have X_13 : Hid (Blk v12 w.heap.size 60 #[.int .i64 a0, .int .i64 a1, .int .i64 a2, .int .i64 a3, .int .i64 a4, .int .i64 a5, .int .i64 a6, .int .i64 a7]) := Lib.hid (X_12.out.below hb X_12.out.lt)
      have A_13 : Hid (Blk v12 v1.heap.size 26 #[.int .i64 a.x, .int .i64 a.y]) := Lib.hid (A_12.out.below hb A_12.out.lt)
      have B_13 : Hid (Blk v12 v2.heap.size 26 #[.int .i64 b.x, .int .i64 b.y]) := Lib.hid (B_12.out.below hb B_12.out.lt)
      have C_13 : Hid (Blk v12 v3.heap.size 26 #[.int .i64 c.x, .int .i64 c.y]) := Lib.hid (C_12.out.below hb C_12.out.lt)
      have D_13 : Hid (Blk v12 v4.heap.size 26 #[.int .i64 d.x, .int .i64 d.y]) := Lib.hid (D_12.out.below hb D_12.out.lt)
      have HB_13 : Hid (Below w.heap.size w v12) := Lib.hid (HB_12.out.trans (hb.mono HB_12.out.size))
      clear hb X_12 A_12 B_12 C_12 D_12 HB_12
      go_wp2_with fail
      go_ret
      exact ⟨rfl, HB_13.out⟩
    case neg =>
      by_cases c3 : 0 < v
      case pos =>
        obtain rfl := HNO.out (Or.inr c3)
        have yy0 := A_11.out.cell (i := 0) (v := .int .i64 a.x) rfl; have yy1 := A_11.out.cell (i := 1) (v := .int .i64 a.y) rfl
        have yy2 := B_11.out.cell (i := 0) (v := .int .i64 b.x) rfl; have yy3 := B_11.out.cell (i := 1) (v := .int .i64 b.y) rfl
        have yy4 := C_11.out.cell (i := 0) (v := .int .i64 c.x) rfl; have yy5 := C_11.out.cell (i := 1) (v := .int .i64 c.y) rfl
        have yy6 := D_11.out.cell (i := 0) (v := .int .i64 d.x) rfl; have yy7 := D_11.out.cell (i := 1) (v := .int .i64 d.y) rfl
        go_wp2_with fail
        clear yy0 yy1 yy2 yy3 yy4 yy5 yy6 yy7
        refine (HX5.out _).mono ?_
        rintro e v11 ⟨rfl, hb⟩
        have X_12 : Hid (Blk v11 w.heap.size 60 #[.int .i64 a0, .int .i64 a1, .int .i64 a2, .int .i64 a3, .int .i64 a4, .int .i64 a5, .int .i64 a6, .int .i64 a7]) := Lib.hid (X_11.out.below hb X_11.out.lt)
        have A_12 : Hid (Blk v11 v1.heap.size 26 #[.int .i64 a.x, .int .i64 a.y]) := Lib.hid (A_11.out.below hb A_11.out.lt)
        have B_12 : Hid (Blk v11 v2.heap.size 26 #[.int .i64 b.x, .int .i64 b.y]) := Lib.hid (B_11.out.below hb B_11.out.lt)
        have C_12 : Hid (Blk v11 v3.heap.size 26 #[.int .i64 c.x, .int .i64 c.y]) := Lib.hid (C_11.out.below hb C_11.out.lt)
        have D_12 : Hid (Blk v11 v4.heap.size 26 #[.int .i64 d.x, .int .i64 d.y]) := Lib.hid (D_11.out.below hb D_11.out.lt)
        have HB_12 : Hid (Below w.heap.size w v11) := Lib.hid (HB_11.out.trans (hb.mono HB_11.out.size))
        clear hb X_11 A_11 B_11 C_11 D_11 HB_11
        have yy0 := A_12.out.cell (i := 0) (v := .int .i64 a.x) rfl; have yy1 := A_12.out.cell (i := 1) (v := .int .i64 a.y) rfl
        have yy2 := B_12.out.cell (i := 0) (v := .int .i64 b.x) rfl; have yy3 := B_12.out.cell (i := 1) (v := .int .i64 b.y) rfl
        have yy4 := C_12.out.cell (i := 0) (v := .int .i64 c.x) rfl; have yy5 := C_12.out.cell (i := 1) (v := .int .i64 c.y) rfl
        have yy6 := D_12.out.cell (i := 0) (v := .int .i64 d.x) rfl; have yy7 := D_12.out.cell (i := 1) (v := .int .i64 d.y) rfl
        go_wp2_with fail
        refine (HX6.out _).mono ?_
        rintro e v12 ⟨rfl, hb⟩
        clear yy0 yy1 yy2 yy3 yy4 yy5 yy6 yy7
        have X_13 : Hid (Blk v12 w.heap.size 60 #[.int .i64 a0, .int .i64 a1, .int .i64 a2, .int .i64 a3, .int .i64 a4, .int .i64 a5, .int .i64 a6, .int .i64 a7]) := Lib.hid (X_12.out.below hb X_12.out.lt)
        have A_13 : Hid (Blk v12 v1.heap.size 26 #[.int .i64 a.x, .int .i64 a.y]) := Lib.hid (A_12.out.below hb A_12.out.lt)
        have B_13 : Hid (Blk v12 v2.heap.size 26 #[.int .i64 b.x, .int .i64 b.y]) := Lib.hid (B_12.out.below hb B_12.out.lt)
        have C_13 : Hid (Blk v12 v3.heap.size 26 #[.int .i64 c.x, .int .i64 c.y]) := Lib.hid (C_12.out.below hb C_12.out.lt)
        have D_13 : Hid (Blk v12 v4.heap.size 26 #[.int .i64 d.x, .int .i64 d.y]) := Lib.hid (D_12.out.below hb D_12.out.lt)
        have HB_13 : Hid (Below w.heap.size w v12) := Lib.hid (HB_12.out.trans (hb.mono HB_12.out.size))
        clear hb X_12 A_12 B_12 C_12 D_12 HB_12
        go_wp2_with fail
        go_ret
        exact ⟨rfl, HB_13.out⟩
      case neg =>
        have yy0 := A_11.out.cell (i := 0) (v := .int .i64 a.x) rfl; have yy1 := A_11.out.cell (i := 1) (v := .int .i64 a.y) rfl
        have yy2 := B_11.out.cell (i := 0) (v := .int .i64 b.x) rfl; have yy3 := B_11.out.cell (i := 1) (v := .int .i64 b.y) rfl
        have yy4 := C_11.out.cell (i := 0) (v := .int .i64 c.x) rfl; have yy5 := C_11.out.cell (i := 1) (v := .int .i64 c.y) rfl
        have yy6 := D_11.out.cell (i := 0) (v := .int .i64 d.x) rfl; have yy7 := D_11.out.cell (i := 1) (v := .int .i64 d.y) rfl
        go_wp2_with fail
        clear yy0 yy1 yy2 yy3 yy4 yy5 yy6 yy7
        refine (HX5.out _).mono ?_
        rintro e v11 ⟨rfl, hb⟩
        have X_12 : Hid (Blk v11 w.heap.size 60 #[.int .i64 a0, .int .i64 a1, .int .i64 a2, .int .i64 a3, .int .i64 a4, .int .i64 a5, .int .i64 a6, .int .i64 a7]) := Lib.hid (X_11.out.below hb X_11.out.lt)
        have A_12 : Hid (Blk v11 v1.heap.size 26 #[.int .i64 a.x, .int .i64 a.y]) := Lib.hid (A_11.out.below hb A_11.out.lt)
        have B_12 : Hid (Blk v11 v2.heap.size 26 #[.int .i64 b.x, .int .i64 b.y]) := Lib.hid (B_11.out.below hb B_11.out.lt)
        have C_12 : Hid (Blk v11 v3.heap.size 26 #[.int .i64 c.x, .int .i64 c.y]) := Lib.hid (C_11.out.below hb C_11.out.lt)
        have D_12 : Hid (Blk v11 v4.heap.size 26 #[.int .i64 d.x, .int .i64 d.y]) := Lib.hid (D_11.out.below hb D_11.out.lt)
        have HB_12 : Hid (Below w.heap.size w v11) := Lib.hid (HB_11.out.trans (hb.mono HB_11.out.size))
        clear hb X_11 A_11 B_11 C_11 D_11 HB_11
        have yy0 := A_12.out.cell (i := 0) (v := .int .i64 a.x) rfl; have yy1 := A_12.out.cell (i := 1) (v := .int .i64 a.y) rfl
        have yy2 := B_12.out.cell (i := 0) (v := .int .i64 b.x) rfl; have yy3 := B_12.out.cell (i := 1) (v := .int .i64 b.y) rfl
        have yy4 := C_12.out.cell (i := 0) (v := .int .i64 c.x) rfl; have yy5 := C_12.out.cell (i := 1) (v := .int .i64 c.y) rfl
        have yy6 := D_12.out.cell (i := 0) (v := .int .i64 d.x) rfl; have yy7 := D_12.out.cell (i := 1) (v := .int .i64 d.y) rfl
        go_wp2_with fail
        refine (HX6.out _).mono ?_
        rintro e v12 ⟨rfl, hb⟩
        clear yy0 yy1 yy2 yy3 yy4 yy5 yy6 yy7
        have X_13 : Hid (Blk v12 w.heap.size 60 #[.int .i64 a0, .int .i64 a1, .int .i64 a2, .int .i64 a3, .int .i64 a4, .int .i64 a5, .int .i64 a6, .int .i64 a7]) := Lib.hid (X_12.out.below hb X_12.out.lt)
        have A_13 : Hid (Blk v12 v1.heap.size 26 #[.int .i64 a.x, .int .i64 a.y]) := Lib.hid (A_12.out.below hb A_12.out.lt)
        have B_13 : Hid (Blk v12 v2.heap.size 26 #[.int .i64 b.x, .int .i64 b.y]) := Lib.hid (B_12.out.below hb B_12.out.lt)
        have C_13 : Hid (Blk v12 v3.heap.size 26 #[.int .i64 c.x, .int .i64 c.y]) := Lib.hid (C_12.out.below hb C_12.out.lt)
        have D_13 : Hid (Blk v12 v4.heap.size 26 #[.int .i64 d.x, .int .i64 d.y]) := Lib.hid (D_12.out.below hb D_12.out.lt)
        have HB_13 : Hid (Below w.heap.size w v12) := Lib.hid (HB_12.out.trans (hb.mono HB_12.out.size))
        clear hb X_12 A_12 B_12 C_12 D_12 HB_12
        go_wp2_with fail
        go_ret
        exact ⟨rfl, HB_13.out⟩
  case neg =>
    by_cases c2 : 0 < u
    case pos =>
      obtain rfl := HNO.out (Or.inl c2)
      have yy0 := A_11.out.cell (i := 0) (v := .int .i64 a.x) rfl; have yy1 := A_11.out.cell (i := 1) (v := .int .i64 a.y) rfl
      have yy2 := B_11.out.cell (i := 0) (v := .int .i64 b.x) rfl; have yy3 := B_11.out.cell (i := 1) (v := .int .i64 b.y) rfl
      have yy4 := C_11.out.cell (i := 0) (v := .int .i64 c.x) rfl; have yy5 := C_11.out.cell (i := 1) (v := .int .i64 c.y) rfl
      have yy6 := D_11.out.cell (i := 0) (v := .int .i64 d.x) rfl; have yy7 := D_11.out.cell (i := 1) (v := .int .i64 d.y) rfl
      go_wp2_with fail
      clear yy0 yy1 yy2 yy3 yy4 yy5 yy6 yy7
      refine (HX5.out _).mono ?_
      rintro e v11 ⟨rfl, hb⟩
      have X_12 : Hid (Blk v11 w.heap.size 60 #[.int .i64 a0, .int .i64 a1, .int .i64 a2, .int .i64 a3, .int .i64 a4, .int .i64 a5, .int .i64 a6, .int .i64 a7]) := Lib.hid (X_11.out.below hb X_11.out.lt)
      have A_12 : Hid (Blk v11 v1.heap.size 26 #[.int .i64 a.x, .int .i64 a.y]) := Lib.hid (A_11.out.below hb A_11.out.lt)
      have B_12 : Hid (Blk v11 v2.heap.size 26 #[.int .i64 b.x, .int .i64 b.y]) := Lib.hid (B_11.out.below hb B_11.out.lt)
      have C_12 : Hid (Blk v11 v3.heap.size 26 #[.int .i64 c.x, .int .i64 c.y]) := Lib.hid (C_11.out.below hb C_11.out.lt)
      have D_12 : Hid (Blk v11 v4.heap.size 26 #[.int .i64 d.x, .int .i64 d.y]) := Lib.hid (D_11.out.below hb D_11.out.lt)
      have HB_12 : Hid (Below w.heap.size w v11) := Lib.hid (HB_11.out.trans (hb.mono HB_11.out.size))
      clear hb X_11 A_11 B_11 C_11 D_11 HB_11
      have yy0 := A_12.out.cell (i := 0) (v := .int .i64 a.x) rfl; have yy1 := A_12.out.cell (i := 1) (v := .int .i64 a.y) rfl
      have yy2 := B_12.out.cell (i := 0) (v := .int .i64 b.x) rfl; have yy3 := B_12.out.cell (i := 1) (v := .int .i64 b.y) rfl
      have yy4 := C_12.out.cell (i := 0) (v := .int .i64 c.x) rfl; have yy5 := C_12.out.cell (i := 1) (v := .int .i64 c.y) rfl
      have yy6 := D_12.out.cell (i := 0) (v := .int .i64 d.x) rfl; have yy7 := D_12.out.cell (i := 1) (v := .int .i64 d.y) rfl
      go_wp2_with fail
      refine (HX6.out _).mono ?_
      rintro e v12 ⟨rfl, hb⟩
      clear yy0 yy1 yy2 yy3 yy4 yy5 yy6 yy7
      have X_13 : Hid (Blk v12 w.heap.size 60 #[.int .i64 a0, .int .i64 a1, .int .i64 a2, .int .i64 a3, .int .i64 a4, .int .i64 a5, .int .i64 a6, .int .i64 a7]) := Lib.hid (X_12.out.below hb X_12.out.lt)
      have A_13 : Hid (Blk v12 v1.heap.size 26 #[.int .i64 a.x, .int .i64 a.y]) := Lib.hid (A_12.out.below hb A_12.out.lt)
      have B_13 : Hid (Blk v12 v2.heap.size 26 #[.int .i64 b.x, .int .i64 b.y]) := Lib.hid (B_12.out.below hb B_12.out.lt)
      have C_13 : Hid (Blk v12 v3.heap.size 26 #[.int .i64 c.x, .int .i64 c.y]) := Lib.hid (C_12.out.below hb C_12.out.lt)
      have D_13 : Hid (Blk v12 v4.heap.size 26 #[.int .i64 d.x, .int .i64 d.y]) := Lib.hid (D_12.out.below hb D_12.out.lt)
      have HB_13 : Hid (Below w.heap.size w v12) := Lib.hid (HB_12.out.trans (hb.mono HB_12.out.size))
      clear hb X_12 A_12 B_12 C_12 D_12 HB_12
      go_wp2_with fail
      go_ret
      exact ⟨rfl, HB_13.out⟩
    case neg =>
      by_cases c3 : 0 < v
      case pos =>
        obtain rfl := HNO.out (Or.inr c3)
        have yy0 := A_11.out.cell (i := 0) (v := .int .i64 a.x) rfl; have yy1 := A_11.out.cell (i := 1) (v := .int .i64 a.y) rfl
        have yy2 := B_11.out.cell (i := 0) (v := .int .i64 b.x) rfl; have yy3 := B_11.out.cell (i := 1) (v := .int .i64 b.y) rfl
        have yy4 := C_11.out.cell (i := 0) (v := .int .i64 c.x) rfl; have yy5 := C_11.out.cell (i := 1) (v := .int .i64 c.y) rfl
        have yy6 := D_11.out.cell (i := 0) (v := .int .i64 d.x) rfl; have yy7 := D_11.out.cell (i := 1) (v := .int .i64 d.y) rfl
        go_wp2_with fail
        clear yy0 yy1 yy2 yy3 yy4 yy5 yy6 yy7
        refine (HX5.out _).mono ?_
        rintro e v11 ⟨rfl, hb⟩
        have X_12 : Hid (Blk v11 w.heap.size 60 #[.int .i64 a0, .int .i64 a1, .int .i64 a2, .int .i64 a3, .int .i64 a4, .int .i64 a5, .int .i64 a6, .int .i64 a7]) := Lib.hid (X_11.out.below hb X_11.out.lt)
        have A_12 : Hid (Blk v11 v1.heap.size 26 #[.int .i64 a.x, .int .i64 a.y]) := Lib.hid (A_11.out.below hb A_11.out.lt)
        have B_12 : Hid (Blk v11 v2.heap.size 26 #[.int .i64 b.x, .int .i64 b.y]) := Lib.hid (B_11.out.below hb B_11.out.lt)
        have C_12 : Hid (Blk v11 v3.heap.size 26 #[.int .i64 c.x, .int .i64 c.y]) := Lib.hid (C_11.out.below hb C_11.out.lt)
        have D_12 : Hid (Blk v11 v4.heap.size 26 #[.int .i64 d.x, .int .i64 d.y]) := Lib.hid (D_11.out.below hb D_11.out.lt)
        have HB_12 : Hid (Below w.heap.size w v11) := Lib.hid (HB_11.out.trans (hb.mono HB_11.out.size))
        clear hb X_11 A_11 B_11 C_11 D_11 HB_11
        have yy0 := A_12.out.cell (i := 0) (v := .int .i64 a.x) rfl; have yy1 := A_12.out.cell (i := 1) (v := .int .i64 a.y) rfl
        have yy2 := B_12.out.cell (i := 0) (v := .int .i64 b.x) rfl; have yy3 := B_12.out.cell (i := 1) (v := .int .i64 b.y) rfl
        have yy4 := C_12.out.cell (i := 0) (v := .int .i64 c.x) rfl; have yy5 := C_12.out.cell (i := 1) (v := .int .i64 c.y) rfl
        have yy6 := D_12.out.cell (i := 0) (v := .int .i64 d.x) rfl; have yy7 := D_12.out.cell (i := 1) (v := .int .i64 d.y) rfl
        go_wp2_with fail
        refine (HX6.out _).mono ?_
        rintro e v12 ⟨rfl, hb⟩
        clear yy0 yy1 yy2 yy3 yy4 yy5 yy6 yy7
        have X_13 : Hid (Blk v12 w.heap.size 60 #[.int .i64 a0, .int .i64 a1, .int .i64 a2, .int .i64 a3, .int .i64 a4, .int .i64 a5, .int .i64 a6, .int .i64 a7]) := Lib.hid (X_12.out.below hb X_12.out.lt)
        have A_13 : Hid (Blk v12 v1.heap.size 26 #[.int .i64 a.x, .int .i64 a.y]) := Lib.hid (A_12.out.below hb A_12.out.lt)
        have B_13 : Hid (Blk v12 v2.heap.size 26 #[.int .i64 b.x, .int .i64 b.y]) := Lib.hid (B_12.out.below hb B_12.out.lt)
        have C_13 : Hid (Blk v12 v3.heap.size 26 #[.int .i64 c.x, .int .i64 c.y]) := Lib.hid (C_12.out.below hb C_12.out.lt)
        have D_13 : Hid (Blk v12 v4.heap.size 26 #[.int .i64 d.x, .int .i64 d.y]) := Lib.hid (D_12.out.below hb D_12.out.lt)
        have HB_13 : Hid (Below w.heap.size w v12) := Lib.hid (HB_12.out.trans (hb.mono HB_12.out.size))
        clear hb X_12 A_12 B_12 C_12 D_12 HB_12
        go_wp2_with fail
        go_ret
        exact ⟨rfl, HB_13.out⟩
      case neg =>
        have yy0 := A_11.out.cell (i := 0) (v := .int .i64 a.x) rfl; have yy1 := A_11.out.cell (i := 1) (v := .int .i64 a.y) rfl
        have yy2 := B_11.out.cell (i := 0) (v := .int .i64 b.x) rfl; have yy3 := B_11.out.cell (i := 1) (v := .int .i64 b.y) rfl
        have yy4 := C_11.out.cell (i := 0) (v := .int .i64 c.x) rfl; have yy5 := C_11.out.cell (i := 1) (v := .int .i64 c.y) rfl
        have yy6 := D_11.out.cell (i := 0) (v := .int .i64 d.x) rfl; have yy7 := D_11.out.cell (i := 1) (v := .int .i64 d.y) rfl
        go_wp2_with fail
        clear yy0 yy1 yy2 yy3 yy4 yy5 yy6 yy7
        refine (HX5.out _).mono ?_
        rintro e v11 ⟨rfl, hb⟩
        have X_12 : Hid (Blk v11 w.heap.size 60 #[.int .i64 a0, .int .i64 a1, .int .i64 a2, .int .i64 a3, .int .i64 a4, .int .i64 a5, .int .i64 a6, .int .i64 a7]) := Lib.hid (X_11.out.below hb X_11.out.lt)
        have A_12 : Hid (Blk v11 v1.heap.size 26 #[.int .i64 a.x, .int .i64 a.y]) := Lib.hid (A_11.out.below hb A_11.out.lt)
        have B_12 : Hid (Blk v11 v2.heap.size 26 #[.int .i64 b.x, .int .i64 b.y]) := Lib.hid (B_11.out.below hb B_11.out.lt)
        have C_12 : Hid (Blk v11 v3.heap.size 26 #[.int .i64 c.x, .int .i64 c.y]) := Lib.hid (C_11.out.below hb C_11.out.lt)
        have D_12 : Hid (Blk v11 v4.heap.size 26 #[.int .i64 d.x, .int .i64 d.y]) := Lib.hid (D_11.out.below hb D_11.out.lt)
        have HB_12 : Hid (Below w.heap.size w v11) := Lib.hid (HB_11.out.trans (hb.mono HB_11.out.size))
        clear hb X_11 A_11 B_11 C_11 D_11 HB_11
        have yy0 := A_12.out.cell (i := 0) (v := .int .i64 a.x) rfl; have yy1 := A_12.out.cell (i := 1) (v := .int .i64 a.y) rfl
        have yy2 := B_12.out.cell (i := 0) (v := .int .i64 b.x) rfl; have yy3 := B_12.out.cell (i := 1) (v := .int .i64 b.y) rfl
        have yy4 := C_12.out.cell (i := 0) (v := .int .i64 c.x) rfl; have yy5 := C_12.out.cell (i := 1) (v := .int .i64 c.y) rfl
        have yy6 := D_12.out.cell (i := 0) (v := .int .i64 d.x) rfl; have yy7 := D_12.out.cell (i := 1) (v := .int .i64 d.y) rfl
        go_wp2_with fail
        refine (HX6.out _).mono ?_
        rintro e v12 ⟨rfl, hb⟩
        clear yy0 yy1 yy2 yy3 yy4 yy5 yy6 yy7
        have X_13 : Hid (Blk v12 w.heap.size 60 #[.int .i64 a0, .int .i64 a1, .int .i64 a2, .int .i64 a3, .int .i64 a4, .int .i64 a5, .int .i64 a6, .int .i64 a7]) := Lib.hid (X_12.out.below hb X_12.out.lt)
        have A_13 : Hid (Blk v12 v1.heap.size 26 #[.int .i64 a.x, .int .i64 a.y]) := Lib.hid (A_12.out.below hb A_12.out.lt)
        have B_13 : Hid (Blk v12 v2.heap.size 26 #[.int .i64 b.x, .int .i64 b.y]) := Lib.hid (B_12.out.below hb B_12.out.lt)
        have C_13 : Hid (Blk v12 v3.heap.size 26 #[.int .i64 c.x, .int .i64 c.y]) := Lib.hid (C_12.out.below hb C_12.out.lt)
        have D_13 : Hid (Blk v12 v4.heap.size 26 #[.int .i64 d.x, .int .i64 d.y]) := Lib.hid (D_12.out.below hb D_12.out.lt)
        have HB_13 : Hid (Below w.heap.size w v12) := Lib.hid (HB_12.out.trans (hb.mono HB_12.out.size))
        clear hb X_12 A_12 B_12 C_12 D_12 HB_12
        go_wp2_with fail
        go_ret
        exact ⟨rfl, HB_13.out⟩
end Go.Proofs.YtgimceikeedkoaaGreat
