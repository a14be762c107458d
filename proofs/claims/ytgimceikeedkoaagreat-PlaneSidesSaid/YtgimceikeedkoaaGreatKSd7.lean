/- PlaneSides answers true. Conditions: ints. -/
import Derived.Test.YtgimceikeedkoaaGreatHJ
namespace Go.Proofs.YtgimceikeedkoaaGreat
open Go.RowKit Go.Lib

theorem sd7_swap {a b c : P7} (ha : a.ok) (hb : b.ok) (hc : c.ok) : sd7 b a c = -sd7 a b c := by rw [sd7_ok ha hb hc, sd7_ok hb ha hc, turn7_swap a b c, sg7_minus]
theorem sd7_swap2 {a b c : P7} (ha : a.ok) (hb : b.ok) (hc : c.ok) : sd7 a c b = -sd7 a b c := by rw [sd7_ok ha hb hc, sd7_ok ha hc hb, turn7_swap2 a b c, sg7_minus]
theorem sd7_round {a b c : P7} (ha : a.ok) (hb : b.ok) (hc : c.ok) : sd7 b c a = sd7 a b c := by rw [sd7_ok ha hb hc, sd7_ok hb hc ha, turn7_round a b c]
theorem mv7_ok (x y u v : Int) : (mv7 (plc7 x y) (pk7 u 1000) (pk7 v 1000)).ok := by
  have h1 := plc7_in x y; have h2 := pk7_in u (n := 1000) (by omega); have h3 := pk7_in v (n := 1000) (by omega)
  unfold P7.ok mv7; simp only; omega
theorem sd7_moved {a b c : P7} (u v : Int) (ha : a.ok) (hb : b.ok) (hc : c.ok) (ha' : (mv7 a u v).ok) (hb' : (mv7 b u v).ok) (hc' : (mv7 c u v).ok) : sd7 (mv7 a u v) (mv7 b u v) (mv7 c u v) = sd7 a b c := by rw [sd7_ok ha hb hc, sd7_ok ha' hb' hc', turn7_moved]
set_option maxRecDepth 100000 in
set_option maxHeartbeats 16000000 in
theorem plane_sides (a0 a1 a2 a3 a4 a5 u v : Int) (w : World) (h0 : I64 a0) (h1 : I64 a1) (h2 : I64 a2) (h3 : I64 a3) (h4 : I64 a4) (h5 : I64 a5) (hu : I64 u) (hv : I64 v) : Yl 4 #[.agg #[.int .i64 a0, .int .i64 a1, .int .i64 a2, .int .i64 a3, .int .i64 a4, .int .i64 a5], .agg #[.int .i64 u, .int .i64 v]] w (.bool true) := by
  have HSN := Lib.hid sane7_any
  have HPA := Lib.hid (fun W => rplace7_any a0 a1 W h0 h1); have HPB := Lib.hid (fun W => rplace7_any a2 a3 W h2 h3); have HPC := Lib.hid (fun W => rplace7_any a4 a5 W h4 h5)
  have ka := plc7_ok a0 a1; have kb := plc7_ok a2 a3; have kc := plc7_ok a4 a5
  have ma := mv7_ok a0 a1 u v; have mb := mv7_ok a2 a3 u v; have mc := mv7_ok a4 a5 u v
  generalize plc7 a0 a1 = a at *
  generalize plc7 a2 a3 = b at *
  generalize plc7 a4 a5 = c at *
  have HMA := Lib.hid (fun W => moved_any a u v W ka.sm hu hv); have HMB := Lib.hid (fun W => moved_any b u v W kb.sm hu hv); have HMC := Lib.hid (fun W => moved_any c u v W kc.sm hu hv)
  have HS1 := Lib.hid (fun W => side_any a b c W); have HS2 := Lib.hid (fun W => side_any b a c W); have HS3 := Lib.hid (fun W => side_any a c b W); have HS4 := Lib.hid (fun W => side_any b c a W)
  have HS5 := Lib.hid (fun W => side_any (mv7 a (pk7 u 1000) (pk7 v 1000)) (mv7 b (pk7 u 1000) (pk7 v 1000)) (mv7 c (pk7 u 1000) (pk7 v 1000)) W)
  rw [sd7_moved _ _ ka kb kc ma mb mc] at HS5
  rw [sd7_swap ka kb kc] at HS2; rw [sd7_swap2 ka kb kc] at HS3; rw [sd7_round ka kb kc] at HS4
  generalize mv7 a (pk7 u 1000) (pk7 v 1000) = a' at *
  generalize mv7 b (pk7 u 1000) (pk7 v 1000) = b' at *
  generalize mv7 c (pk7 u 1000) (pk7 v 1000) = c' at *
  have hn := sd7_mem a b c
  generalize sd7 a b c = n at *
  obtain ⟨m, hm⟩ : ∃ m, m = -n := ⟨_, rfl⟩
  rw [← hm] at HS2 HS3
  have e1 : IntKind.i64.wrap (-n) = m := by rw [hm]; exact IntWalk.i64_in _ (by omega)
  have g1 : -1 ≤ n := hn.1
  have g2 : n ≤ 1 := hn.2
  clear ka kb kc ma mb mc hm hn h0 h1 h2 h3 h4 h5 hu hv
  have X_0 : Hid (Blk ((w.alloc (.cells #[.int .i64 a0, .int .i64 a1, .int .i64 a2, .int .i64 a3, .int .i64 a4, .int .i64 a5] 56)).alloc (.cells #[.int .i64 u, .int .i64 v] 55)) w.heap.size 56 #[.int .i64 a0, .int .i64 a1, .int .i64 a2, .int .i64 a3, .int .i64 a4, .int .i64 a5]) := allocs_blk [(#[.int .i64 a0, .int .i64 a1, .int .i64 a2, .int .i64 a3, .int .i64 a4, .int .i64 a5], 56), (#[.int .i64 u, .int .i64 v], 55)] w 0 _ rfl
  have Y_0 : Hid (Blk ((w.alloc (.cells #[.int .i64 a0, .int .i64 a1, .int .i64 a2, .int .i64 a3, .int .i64 a4, .int .i64 a5] 56)).alloc (.cells #[.int .i64 u, .int .i64 v] 55)) (w.heap.size + 1) 55 #[.int .i64 u, .int .i64 v]) := allocs_blk [(#[.int .i64 a0, .int .i64 a1, .int .i64 a2, .int .i64 a3, .int .i64 a4, .int .i64 a5], 56), (#[.int .i64 u, .int .i64 v], 55)] w 1 _ rfl
  have HB_0 : Hid (Below w.heap.size w ((w.alloc (.cells #[.int .i64 a0, .int .i64 a1, .int .i64 a2, .int .i64 a3, .int .i64 a4, .int .i64 a5] 56)).alloc (.cells #[.int .i64 u, .int .i64 v] 55))) := allocs_below [(#[.int .i64 a0, .int .i64 a1, .int .i64 a2, .int .i64 a3, .int .i64 a4, .int .i64 a5], 56), (#[.int .i64 u, .int .i64 v], 55)] w (Below.refl w.heap.size w) (Nat.le_refl _)
  go_enter Tryz.func4, Tryz.ntmps4
  go_wp2_with fail
  refine (HSN.out _).mono ?_
  rintro e v0 ⟨rfl, hb⟩
  have X_1 : Hid (Blk v0 w.heap.size 56 #[.int .i64 a0, .int .i64 a1, .int .i64 a2, .int .i64 a3, .int .i64 a4, .int .i64 a5]) := Lib.hid (X_0.out.below hb X_0.out.lt)
  have Y_1 : Hid (Blk v0 (w.heap.size + 1) 55 #[.int .i64 u, .int .i64 v]) := Lib.hid (Y_0.out.below hb Y_0.out.lt)
  have HB_1 : Hid (Below w.heap.size w v0) := Lib.hid (HB_0.out.trans (hb.mono HB_0.out.size))
  clear hb X_0 Y_0 HB_0
  have yy0 := X_1.out.cell (i := 0) (v := .int .i64 a0) rfl; have yy1 := X_1.out.cell (i := 1) (v := .int .i64 a1) rfl; have yy2 := X_1.out.cell (i := 2) (v := .int .i64 a2) rfl; have yy3 := X_1.out.cell (i := 3) (v := .int .i64 a3) rfl; have yy4 := X_1.out.cell (i := 4) (v := .int .i64 a4) rfl; have yy5 := X_1.out.cell (i := 5) (v := .int .i64 a5) rfl
  go_wp2_with fail
  refine (HPA.out _).mono ?_
  rintro e v1 ⟨rfl, hb⟩
  clear yy0 yy1 yy2 yy3 yy4 yy5
  have X_2 : Hid (Blk (v1.alloc (.cells #[.int .i64 a.x, .int .i64 a.y] 26)) w.heap.size 56 #[.int .i64 a0, .int .i64 a1, .int .i64 a2, .int .i64 a3, .int .i64 a4, .int .i64 a5]) := Lib.hid (allocs_keep [(#[.int .i64 a.x, .int .i64 a.y], 26)] _ (X_1.out.below hb X_1.out.lt))
  have Y_2 : Hid (Blk (v1.alloc (.cells #[.int .i64 a.x, .int .i64 a.y] 26)) (w.heap.size + 1) 55 #[.int .i64 u, .int .i64 v]) := Lib.hid (allocs_keep [(#[.int .i64 a.x, .int .i64 a.y], 26)] _ (Y_1.out.below hb Y_1.out.lt))
  have HB_2 : Hid (Below w.heap.size w (v1.alloc (.cells #[.int .i64 a.x, .int .i64 a.y] 26))) := Lib.hid (allocs_below [(#[.int .i64 a.x, .int .i64 a.y], 26)] _ (HB_1.out.trans (hb.mono HB_1.out.size)) (HB_1.out.trans (hb.mono HB_1.out.size)).size)
  have A_2 : Hid (Blk (v1.alloc (.cells #[.int .i64 a.x, .int .i64 a.y] 26)) v1.heap.size 26 #[.int .i64 a.x, .int .i64 a.y]) := Lib.hid (allocs_blk [(#[.int .i64 a.x, .int .i64 a.y], 26)] v1 0 _ rfl)
  clear hb X_1 Y_1 HB_1
  have yy0 := X_2.out.cell (i := 0) (v := .int .i64 a0) rfl; have yy1 := X_2.out.cell (i := 1) (v := .int .i64 a1) rfl; have yy2 := X_2.out.cell (i := 2) (v := .int .i64 a2) rfl; have yy3 := X_2.out.cell (i := 3) (v := .int .i64 a3) rfl; have yy4 := X_2.out.cell (i := 4) (v := .int .i64 a4) rfl; have yy5 := X_2.out.cell (i := 5) (v := .int .i64 a5) rfl
  go_wp2_with fail
  refine (HPB.out _).mono ?_
  rintro e v2 ⟨rfl, hb⟩
  clear yy0 yy1 yy2 yy3 yy4 yy5
  have X_3 : Hid (Blk (v2.alloc (.cells #[.int .i64 b.x, .int .i64 b.y] 26)) w.heap.size 56 #[.int .i64 a0, .int .i64 a1, .int .i64 a2, .int .i64 a3, .int .i64 a4, .int .i64 a5]) := Lib.hid (allocs_keep [(#[.int .i64 b.x, .int .i64 b.y], 26)] _ (X_2.out.below hb X_2.out.lt))
  have Y_3 : Hid (Blk (v2.alloc (.cells #[.int .i64 b.x, .int .i64 b.y] 26)) (w.heap.size + 1) 55 #[.int .i64 u, .int .i64 v]) := Lib.hid (allocs_keep [(#[.int .i64 b.x, .int .i64 b.y], 26)] _ (Y_2.out.below hb Y_2.out.lt))
  have A_3 : Hid (Blk (v2.alloc (.cells #[.int .i64 b.x, .int .i64 b.y] 26)) v1.heap.size 26 #[.int .i64 a.x, .int .i64 a.y]) := Lib.hid (allocs_keep [(#[.int .i64 b.x, .int .i64 b.y], 26)] _ (A_2.out.below hb A_2.out.lt))
  have HB_3 : Hid (Below w.heap.size w (v2.alloc (.cells #[.int .i64 b.x, .int .i64 b.y] 26))) := Lib.hid (allocs_below [(#[.int .i64 b.x, .int .i64 b.y], 26)] _ (HB_2.out.trans (hb.mono HB_2.out.size)) (HB_2.out.trans (hb.mono HB_2.out.size)).size)
  have B_3 : Hid (Blk (v2.alloc (.cells #[.int .i64 b.x, .int .i64 b.y] 26)) v2.heap.size 26 #[.int .i64 b.x, .int .i64 b.y]) := Lib.hid (allocs_blk [(#[.int .i64 b.x, .int .i64 b.y], 26)] v2 0 _ rfl)
  clear hb X_2 Y_2 A_2 HB_2
  have yy0 := X_3.out.cell (i := 0) (v := .int .i64 a0) rfl; have yy1 := X_3.out.cell (i := 1) (v := .int .i64 a1) rfl; have yy2 := X_3.out.cell (i := 2) (v := .int .i64 a2) rfl; have yy3 := X_3.out.cell (i := 3) (v := .int .i64 a3) rfl; have yy4 := X_3.out.cell (i := 4) (v := .int .i64 a4) rfl; have yy5 := X_3.out.cell (i := 5) (v := .int .i64 a5) rfl
  go_wp2_with fail
  refine (HPC.out _).mono ?_
  rintro e v3 ⟨rfl, hb⟩
  clear yy0 yy1 yy2 yy3 yy4 yy5
  have X_4 : Hid (Blk (v3.alloc (.cells #[.int .i64 c.x, .int .i64 c.y] 26)) w.heap.size 56 #[.int .i64 a0, .int .i64 a1, .int .i64 a2, .int .i64 a3, .int .i64 a4, .int .i64 a5]) := Lib.hid (allocs_keep [(#[.int .i64 c.x, .int .i64 c.y], 26)] _ (X_3.out.below hb X_3.out.lt))
  have Y_4 : Hid (Blk (v3.alloc (.cells #[.int .i64 c.x, .int .i64 c.y] 26)) (w.heap.size + 1) 55 #[.int .i64 u, .int .i64 v]) := Lib.hid (allocs_keep [(#[.int .i64 c.x, .int .i64 c.y], 26)] _ (Y_3.out.below hb Y_3.out.lt))
  have A_4 : Hid (Blk (v3.alloc (.cells #[.int .i64 c.x, .int .i64 c.y] 26)) v1.heap.size 26 #[.int .i64 a.x, .int .i64 a.y]) := Lib.hid (allocs_keep [(#[.int .i64 c.x, .int .i64 c.y], 26)] _ (A_3.out.below hb A_3.out.lt))
  have B_4 : Hid (Blk (v3.alloc (.cells #[.int .i64 c.x, .int .i64 c.y] 26)) v2.heap.size 26 #[.int .i64 b.x, .int .i64 b.y]) := Lib.hid (allocs_keep [(#[.int .i64 c.x, .int .i64 c.y], 26)] _ (B_3.out.below hb B_3.out.lt))
  have HB_4 : Hid (Below w.heap.size w (v3.alloc (.cells #[.int .i64 c.x, .int .i64 c.y] 26))) := Lib.hid (allocs_below [(#[.int .i64 c.x, .int .i64 c.y], 26)] _ (HB_3.out.trans (hb.mono HB_3.out.size)) (HB_3.out.trans (hb.mono HB_3.out.size)).size)
  have C_4 : Hid (Blk (v3.alloc (.cells #[.int .i64 c.x, .int .i64 c.y] 26)) v3.heap.size 26 #[.int .i64 c.x, .int .i64 c.y]) := Lib.hid (allocs_blk [(#[.int .i64 c.x, .int .i64 c.y], 26)] v3 0 _ rfl)
  clear hb X_3 Y_3 A_3 B_3 HB_3
  have yy0 := A_4.out.cell (i := 0) (v := .int .i64 a.x) rfl; have yy1 := A_4.out.cell (i := 1) (v := .int .i64 a.y) rfl
  have yy2 := B_4.out.cell (i := 0) (v := .int .i64 b.x) rfl; have yy3 := B_4.out.cell (i := 1) (v := .int .i64 b.y) rfl
  have yy4 := C_4.out.cell (i := 0) (v := .int .i64 c.x) rfl; have yy5 := C_4.out.cell (i := 1) (v := .int .i64 c.y) rfl
  go_wp2_with fail
  refine (HS1.out _).mono ?_
  rintro e v4 ⟨rfl, hb⟩
  clear yy0 yy1 yy2 yy3 yy4 yy5
  have X_5 : Hid (Blk v4 w.heap.size 56 #[.int .i64 a0, .int .i64 a1, .int .i64 a2, .int .i64 a3, .int .i64 a4, .int .i64 a5]) := Lib.hid (X_4.out.below hb X_4.out.lt)
  have Y_5 : Hid (Blk v4 (w.heap.size + 1) 55 #[.int .i64 u, .int .i64 v]) := Lib.hid (Y_4.out.below hb Y_4.out.lt)
  have A_5 : Hid (Blk v4 v1.heap.size 26 #[.int .i64 a.x, .int .i64 a.y]) := Lib.hid (A_4.out.below hb A_4.out.lt)
  have B_5 : Hid (Blk v4 v2.heap.size 26 #[.int .i64 b.x, .int .i64 b.y]) := Lib.hid (B_4.out.below hb B_4.out.lt)
  have C_5 : Hid (Blk v4 v3.heap.size 26 #[.int .i64 c.x, .int .i64 c.y]) := Lib.hid (C_4.out.below hb C_4.out.lt)
  have HB_5 : Hid (Below w.heap.size w v4) := Lib.hid (HB_4.out.trans (hb.mono HB_4.out.size))
  clear hb X_4 Y_4 A_4 B_4 C_4 HB_4
  go_wp2_with fail
  refine wp_region_grow (S := (fun w' => w'.cell? ⟨v1.heap.size, 0, none⟩ = some (.int .i64 a.x) ∧ w'.cell? ⟨v1.heap.size, 1, none⟩ = some (.int .i64 a.y) ∧ w'.cell? ⟨v2.heap.size, 0, none⟩ = some (.int .i64 b.x) ∧ w'.cell? ⟨v2.heap.size, 1, none⟩ = some (.int .i64 b.y) ∧ w'.cell? ⟨v3.heap.size, 0, none⟩ = some (.int .i64 c.x) ∧ w'.cell? ⟨v3.heap.size, 1, none⟩ = some (.int .i64 c.y) ∧ w'.cell? ⟨(w.heap.size + 1), 0, none⟩ = some (.int .i64 u) ∧ w'.cell? ⟨(w.heap.size + 1), 1, none⟩ = some (.int .i64 v))) ((fun w' => Below v4.heap.size v4 w')) (by kernel_rfl) (⟨fun w2 h2 => ⟨(A_5.out.below h2 A_5.out.lt).cell (i := 0) (v := .int .i64 a.x) rfl, (A_5.out.below h2 A_5.out.lt).cell (i := 1) (v := .int .i64 a.y) rfl, (B_5.out.below h2 B_5.out.lt).cell (i := 0) (v := .int .i64 b.x) rfl, (B_5.out.below h2 B_5.out.lt).cell (i := 1) (v := .int .i64 b.y) rfl, (C_5.out.below h2 C_5.out.lt).cell (i := 0) (v := .int .i64 c.x) rfl, (C_5.out.below h2 C_5.out.lt).cell (i := 1) (v := .int .i64 c.y) rfl, (Y_5.out.below h2 Y_5.out.lt).cell (i := 0) (v := .int .i64 u) rfl, (Y_5.out.below h2 Y_5.out.lt).cell (i := 1) (v := .int .i64 v) rfl⟩, fun w2 w3 h2 hb2 => h2.trans (hb2.mono h2.size)⟩) ((Below.refl v4.heap.size v4).drew) (fun hCalm => ?_)
  refine grow_take 0 (some 24) ?_ rfl rfl (by kernel_rfl) (fun _ _ _ h => h) (by kernel_rfl) hCalm ?_ ?_
  rotate_left
  · intro wS hS; (try dsimp only at hS); go_simp <;> with_reducible rfl
  try simp only [Act.put, List.setIfInBounds_toArray, List.set_cons_zero, List.set_cons_succ]
  refine grow_take 1 (some 25) (.bool true) rfl rfl (by kernel_rfl) (fun _ _ _ h => h) (by kernel_rfl) hCalm ?_ ?_
  · intro wS hS; (try dsimp only at hS); go_simp
    all_goals omega
  try simp only [Act.put, List.setIfInBounds_toArray, List.set_cons_zero, List.set_cons_succ]
  refine grow_take 2 (some 26) ?_ rfl rfl (by kernel_rfl) (fun _ _ _ h => h) (by kernel_rfl) hCalm ?_ ?_
  rotate_left
  · intro wS hS; (try dsimp only at hS); go_simp <;> with_reducible rfl
  try simp only [Act.put, List.setIfInBounds_toArray, List.set_cons_zero, List.set_cons_succ]
  refine grow_take 3 (some 27) ?_ rfl rfl (by kernel_rfl) (fun _ _ _ h => h) (by kernel_rfl) hCalm ?_ ?_
  rotate_left
  · intro wS hS; (try dsimp only at hS); go_simp <;> with_reducible rfl
  try simp only [Act.put, List.setIfInBounds_toArray, List.set_cons_zero, List.set_cons_succ]
  refine grow_take 4 (some 28) (.bool true) rfl rfl (by kernel_rfl) (fun _ _ _ h => h) (by kernel_rfl) hCalm ?_ ?_
  · intro wS hS; (try dsimp only at hS); go_simp
    all_goals omega
  try simp only [Act.put, List.setIfInBounds_toArray, List.set_cons_zero, List.set_cons_succ]
  refine grow_take 5 (some 29) ?_ rfl rfl (by kernel_rfl) (fun _ _ _ h => h) (by kernel_rfl) hCalm ?_ ?_
  rotate_left
  · intro wS hS; (try dsimp only at hS); go_simp <;> with_reducible rfl
  try simp only [Act.put, List.setIfInBounds_toArray, List.set_cons_zero, List.set_cons_succ]
  refine grow_take 6 (some 30) ?_ rfl rfl (by kernel_rfl) (fun _ _ _ h => h) (by kernel_rfl) hCalm ?_ ?_
  rotate_left
  · intro wS hS; (try dsimp only at hS); go_simp <;> with_reducible rfl
  try simp only [Act.put, List.setIfInBounds_toArray, List.set_cons_zero, List.set_cons_succ]
  refine grow_take 7 (some 31) ?_ rfl rfl (by kernel_rfl) (fun _ _ _ h => h) (by kernel_rfl) hCalm ?_ ?_
  rotate_left
  · intro wS hS; (try dsimp only at hS); go_simp <;> with_reducible rfl
  try simp only [Act.put, List.setIfInBounds_toArray, List.set_cons_zero, List.set_cons_succ]
  refine grow_take 8 (some 32) ?_ rfl rfl (by kernel_rfl) (fun _ _ _ h => h) (by kernel_rfl) hCalm ?_ ?_
  rotate_left
  · intro wS hS; (try dsimp only at hS); go_simp <;> with_reducible rfl
  try simp only [Act.put, List.setIfInBounds_toArray, List.set_cons_zero, List.set_cons_succ]
  refine grow_take 9 (some 33) ?_ rfl rfl (by kernel_rfl) (fun _ _ _ h => h) (by kernel_rfl) hCalm ?_ ?_
  rotate_left
  · intro wS hS; (try dsimp only at hS); go_simp <;> with_reducible rfl
  try simp only [Act.put, List.setIfInBounds_toArray, List.set_cons_zero, List.set_cons_succ]
  refine grow_take 11 (some 35) ?_ rfl rfl (by kernel_rfl) (fun _ _ _ h => h) (by kernel_rfl) hCalm ?_ ?_
  rotate_left
  · intro wS hS; (try dsimp only at hS); go_simp <;> with_reducible rfl
  try simp only [Act.put, List.setIfInBounds_toArray, List.set_cons_zero, List.set_cons_succ]
  refine grow_take 12 (some 36) ?_ rfl rfl (by kernel_rfl) (fun _ _ _ h => h) (by kernel_rfl) hCalm ?_ ?_
  rotate_left
  · intro wS hS; (try dsimp only at hS); go_simp <;> with_reducible rfl
  try simp only [Act.put, List.setIfInBounds_toArray, List.set_cons_zero, List.set_cons_succ]
  refine grow_call 10 (some 34) (.int .i64 m) 31 [.tmp 31, .tmp 32, .tmp 33] #[26, 26, 26] rfl rfl (by kernel_rfl) (fun _ _ _ h => h) (by kernel_rfl) hCalm rfl (enters_of Tryz.func31 (by kernel_rfl) rfl) (fun wz _ => HS2.out wz) (by kernel_rfl) ?_
  try simp only [Act.put, List.setIfInBounds_toArray, List.set_cons_zero, List.set_cons_succ]
  refine grow_take 13 (some 37) (.bool true) rfl rfl (by kernel_rfl) (fun _ _ _ h => h) (by kernel_rfl) hCalm ?_ ?_
  · intro wS hS; (try dsimp only at hS); go_simp
    all_goals simp
  try simp only [Act.put, List.setIfInBounds_toArray, List.set_cons_zero, List.set_cons_succ]
  refine grow_take 14 (some 38) ?_ rfl rfl (by kernel_rfl) (fun _ _ _ h => h) (by kernel_rfl) hCalm ?_ ?_
  rotate_left
  · intro wS hS; (try dsimp only at hS); go_simp <;> with_reducible rfl
  try simp only [Act.put, List.setIfInBounds_toArray, List.set_cons_zero, List.set_cons_succ]
  refine grow_take 15 (some 39) ?_ rfl rfl (by kernel_rfl) (fun _ _ _ h => h) (by kernel_rfl) hCalm ?_ ?_
  rotate_left
  · intro wS hS; (try dsimp only at hS); go_simp <;> with_reducible rfl
  try simp only [Act.put, List.setIfInBounds_toArray, List.set_cons_zero, List.set_cons_succ]
  refine grow_take 16 (some 40) ?_ rfl rfl (by kernel_rfl) (fun _ _ _ h => h) (by kernel_rfl) hCalm ?_ ?_
  rotate_left
  · intro wS hS; (try dsimp only at hS); go_simp <;> with_reducible rfl
  try simp only [Act.put, List.setIfInBounds_toArray, List.set_cons_zero, List.set_cons_succ]
  refine grow_take 17 (some 41) ?_ rfl rfl (by kernel_rfl) (fun _ _ _ h => h) (by kernel_rfl) hCalm ?_ ?_
  rotate_left
  · intro wS hS; (try dsimp only at hS); go_simp <;> with_reducible rfl
  try simp only [Act.put, List.setIfInBounds_toArray, List.set_cons_zero, List.set_cons_succ]
  refine grow_take 18 (some 42) ?_ rfl rfl (by kernel_rfl) (fun _ _ _ h => h) (by kernel_rfl) hCalm ?_ ?_
  rotate_left
  · intro wS hS; (try dsimp only at hS); go_simp <;> with_reducible rfl
  try simp only [Act.put, List.setIfInBounds_toArray, List.set_cons_zero, List.set_cons_succ]
  refine grow_take 20 (some 44) ?_ rfl rfl (by kernel_rfl) (fun _ _ _ h => h) (by kernel_rfl) hCalm ?_ ?_
  rotate_left
  · intro wS hS; (try dsimp only at hS); go_simp <;> with_reducible rfl
  try simp only [Act.put, List.setIfInBounds_toArray, List.set_cons_zero, List.set_cons_succ]
  refine grow_take 21 (some 45) ?_ rfl rfl (by kernel_rfl) (fun _ _ _ h => h) (by kernel_rfl) hCalm ?_ ?_
  rotate_left
  · intro wS hS; (try dsimp only at hS); go_simp <;> with_reducible rfl
  try simp only [Act.put, List.setIfInBounds_toArray, List.set_cons_zero, List.set_cons_succ]
  refine grow_call 19 (some 43) (.int .i64 m) 31 [.tmp 40, .tmp 41, .tmp 42] #[26, 26, 26] rfl rfl (by kernel_rfl) (fun _ _ _ h => h) (by kernel_rfl) hCalm rfl (enters_of Tryz.func31 (by kernel_rfl) rfl) (fun wz _ => HS3.out wz) (by kernel_rfl) ?_
  try simp only [Act.put, List.setIfInBounds_toArray, List.set_cons_zero, List.set_cons_succ]
  refine grow_take 22 (some 46) (.bool true) rfl rfl (by kernel_rfl) (fun _ _ _ h => h) (by kernel_rfl) hCalm ?_ ?_
  · intro wS hS; (try dsimp only at hS); go_simp
    all_goals simp
  try simp only [Act.put, List.setIfInBounds_toArray, List.set_cons_zero, List.set_cons_succ]
  refine grow_take 23 (some 47) ?_ rfl rfl (by kernel_rfl) (fun _ _ _ h => h) (by kernel_rfl) hCalm ?_ ?_
  rotate_left
  · intro wS hS; (try dsimp only at hS); go_simp <;> with_reducible rfl
  try simp only [Act.put, List.setIfInBounds_toArray, List.set_cons_zero, List.set_cons_succ]
  refine grow_take 24 (some 48) ?_ rfl rfl (by kernel_rfl) (fun _ _ _ h => h) (by kernel_rfl) hCalm ?_ ?_
  rotate_left
  · intro wS hS; (try dsimp only at hS); go_simp <;> with_reducible rfl
  try simp only [Act.put, List.setIfInBounds_toArray, List.set_cons_zero, List.set_cons_succ]
  refine grow_take 25 (some 49) ?_ rfl rfl (by kernel_rfl) (fun _ _ _ h => h) (by kernel_rfl) hCalm ?_ ?_
  rotate_left
  · intro wS hS; (try dsimp only at hS); go_simp <;> with_reducible rfl
  try simp only [Act.put, List.setIfInBounds_toArray, List.set_cons_zero, List.set_cons_succ]
  refine grow_take 26 (some 50) ?_ rfl rfl (by kernel_rfl) (fun _ _ _ h => h) (by kernel_rfl) hCalm ?_ ?_
  rotate_left
  · intro wS hS; (try dsimp only at hS); go_simp <;> with_reducible rfl
  try simp only [Act.put, List.setIfInBounds_toArray, List.set_cons_zero, List.set_cons_succ]
  refine grow_take 27 (some 51) ?_ rfl rfl (by kernel_rfl) (fun _ _ _ h => h) (by kernel_rfl) hCalm ?_ ?_
  rotate_left
  · intro wS hS; (try dsimp only at hS); go_simp <;> with_reducible rfl
  try simp only [Act.put, List.setIfInBounds_toArray, List.set_cons_zero, List.set_cons_succ]
  refine grow_take 29 (some 53) ?_ rfl rfl (by kernel_rfl) (fun _ _ _ h => h) (by kernel_rfl) hCalm ?_ ?_
  rotate_left
  · intro wS hS; (try dsimp only at hS); go_simp <;> with_reducible rfl
  try simp only [Act.put, List.setIfInBounds_toArray, List.set_cons_zero, List.set_cons_succ]
  refine grow_call 28 (some 52) (.int .i64 n) 31 [.tmp 49, .tmp 50, .tmp 51] #[26, 26, 26] rfl rfl (by kernel_rfl) (fun _ _ _ h => h) (by kernel_rfl) hCalm rfl (enters_of Tryz.func31 (by kernel_rfl) rfl) (fun wz _ => HS4.out wz) (by kernel_rfl) ?_
  try simp only [Act.put, List.setIfInBounds_toArray, List.set_cons_zero, List.set_cons_succ]
  refine grow_take 30 (some 54) (.bool true) rfl rfl (by kernel_rfl) (fun _ _ _ h => h) (by kernel_rfl) hCalm ?_ ?_
  · intro wS hS; (try dsimp only at hS); go_simp
    all_goals simp
  try simp only [Act.put, List.setIfInBounds_toArray, List.set_cons_zero, List.set_cons_succ]
  refine grow_take 31 (some 55) ?_ rfl rfl (by kernel_rfl) (fun _ _ _ h => h) (by kernel_rfl) hCalm ?_ ?_
  rotate_left
  · intro wS hS; (try dsimp only at hS); go_simp <;> with_reducible rfl
  try simp only [Act.put, List.setIfInBounds_toArray, List.set_cons_zero, List.set_cons_succ]
  refine grow_take 32 (some 56) ?_ rfl rfl (by kernel_rfl) (fun _ _ _ h => h) (by kernel_rfl) hCalm ?_ ?_
  rotate_left
  · intro wS hS; (try dsimp only at hS); go_simp <;> with_reducible rfl
  try simp only [Act.put, List.setIfInBounds_toArray, List.set_cons_zero, List.set_cons_succ]
  refine grow_take 33 (some 57) ?_ rfl rfl (by kernel_rfl) (fun _ _ _ h => h) (by kernel_rfl) hCalm ?_ ?_
  rotate_left
  · intro wS hS; (try dsimp only at hS); go_simp <;> with_reducible rfl
  try simp only [Act.put, List.setIfInBounds_toArray, List.set_cons_zero, List.set_cons_succ]
  refine grow_take 34 (some 58) ?_ rfl rfl (by kernel_rfl) (fun _ _ _ h => h) (by kernel_rfl) hCalm ?_ ?_
  rotate_left
  · intro wS hS; (try dsimp only at hS); go_simp <;> with_reducible rfl
  try simp only [Act.put, List.setIfInBounds_toArray, List.set_cons_zero, List.set_cons_succ]
  refine grow_take 36 (some 60) ?_ rfl rfl (by kernel_rfl) (fun _ _ _ h => h) (by kernel_rfl) hCalm ?_ ?_
  rotate_left
  · intro wS hS; (try dsimp only at hS); go_simp <;> with_reducible rfl
  try simp only [Act.put, List.setIfInBounds_toArray, List.set_cons_zero, List.set_cons_succ]
  refine grow_take 37 (some 61) ?_ rfl rfl (by kernel_rfl) (fun _ _ _ h => h) (by kernel_rfl) hCalm ?_ ?_
  rotate_left
  · intro wS hS; (try dsimp only at hS); go_simp <;> with_reducible rfl
  try simp only [Act.put, List.setIfInBounds_toArray, List.set_cons_zero, List.set_cons_succ]
  refine grow_take 39 (some 63) ?_ rfl rfl (by kernel_rfl) (fun _ _ _ h => h) (by kernel_rfl) hCalm ?_ ?_
  rotate_left
  · intro wS hS; (try dsimp only at hS); go_simp <;> with_reducible rfl
  try simp only [Act.put, List.setIfInBounds_toArray, List.set_cons_zero, List.set_cons_succ]
  refine grow_take 40 (some 64) ?_ rfl rfl (by kernel_rfl) (fun _ _ _ h => h) (by kernel_rfl) hCalm ?_ ?_
  rotate_left
  · intro wS hS; (try dsimp only at hS); go_simp <;> with_reducible rfl
  try simp only [Act.put, List.setIfInBounds_toArray, List.set_cons_zero, List.set_cons_succ]
  refine grow_take 43 (some 67) ?_ rfl rfl (by kernel_rfl) (fun _ _ _ h => h) (by kernel_rfl) hCalm ?_ ?_
  rotate_left
  · intro wS hS; (try dsimp only at hS); go_simp <;> with_reducible rfl
  try simp only [Act.put, List.setIfInBounds_toArray, List.set_cons_zero, List.set_cons_succ]
  refine grow_call 35 (some 59) (p7v a') 38 [.tmp 57, .tmp 58] #[26, 55] rfl rfl (by kernel_rfl) (fun _ _ _ h => h) (by kernel_rfl) hCalm rfl (enters_of Tryz.func38 (by kernel_rfl) rfl) (fun wz _ => HMA.out wz) (by kernel_rfl) ?_
  try simp only [Act.put, List.setIfInBounds_toArray, List.set_cons_zero, List.set_cons_succ]
  refine grow_call 38 (some 62) (p7v b') 38 [.tmp 60, .tmp 61] #[26, 55] rfl rfl (by kernel_rfl) (fun _ _ _ h => h) (by kernel_rfl) hCalm rfl (enters_of Tryz.func38 (by kernel_rfl) rfl) (fun wz _ => HMB.out wz) (by kernel_rfl) ?_
  try simp only [Act.put, List.setIfInBounds_toArray, List.set_cons_zero, List.set_cons_succ]
  refine grow_call 41 (some 65) (p7v c') 38 [.tmp 63, .tmp 64] #[26, 55] rfl rfl (by kernel_rfl) (fun _ _ _ h => h) (by kernel_rfl) hCalm rfl (enters_of Tryz.func38 (by kernel_rfl) rfl) (fun wz _ => HMC.out wz) (by kernel_rfl) ?_
  try simp only [Act.put, List.setIfInBounds_toArray, List.set_cons_zero, List.set_cons_succ]
  refine grow_call 42 (some 66) (.int .i64 n) 31 [.tmp 59, .tmp 62, .tmp 65] #[26, 26, 26] rfl rfl (by kernel_rfl) (fun _ _ _ h => h) (by kernel_rfl) hCalm rfl (enters_of Tryz.func31 (by kernel_rfl) rfl) (fun wz _ => HS5.out wz) (by kernel_rfl) ?_
  try simp only [Act.put, List.setIfInBounds_toArray, List.set_cons_zero, List.set_cons_succ]
  refine grow_take 44 (some 68) (.bool true) rfl rfl (by kernel_rfl) (fun _ _ _ h => h) (by kernel_rfl) hCalm ?_ ?_
  · intro wS hS; (try dsimp only at hS); go_simp
    all_goals simp
  try simp only [Act.put, List.setIfInBounds_toArray, List.set_cons_zero, List.set_cons_succ]
  refine grow_take 45 (some 69) ?_ rfl rfl (by kernel_rfl) (fun _ _ _ h => h) (by kernel_rfl) hCalm ?_ ?_
  rotate_left
  · intro wS hS; (try dsimp only at hS); go_simp <;> with_reducible rfl
  try simp only [Act.put, List.setIfInBounds_toArray, List.set_cons_zero, List.set_cons_succ]
  refine grow_take 46 (some 4) ?_ rfl rfl (by kernel_rfl) (fun _ _ _ h => h) (by kernel_rfl) hCalm ?_ ?_
  rotate_left
  · intro wS hS; (try dsimp only at hS); go_simp <;> with_reducible rfl
  try simp only [Act.put, List.setIfInBounds_toArray, List.set_cons_zero, List.set_cons_succ]
  refine grow_done (by kernel_rfl) (fun wA hA => ?_) _
  have HBE := Lib.hid (HB_5.out.trans (hA.mono HB_5.out.size))
  go_wp2_with fail
  go_ret
  exact ⟨rfl, HBE.out⟩
end Go.Proofs.YtgimceikeedkoaaGreat
