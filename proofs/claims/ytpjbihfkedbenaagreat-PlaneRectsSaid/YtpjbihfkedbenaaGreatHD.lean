/- The contract of plane's Cross. No conditions. -/
import Derived.Test.YtpjbihfkedbenaaGreatHC
namespace Go.Proofs.YtpjbihfkedbenaaGreat
open Go.RowKit Go.Lib
theorem sd7_mem (a b c : P7) : -1 <= sd7 a b c /\ sd7 a b c <= 1 := by unfold sd7; split; exact sg7_mem _; omega
theorem paround_two (a b : P7) (p : Nat) (w : World) (hA : Pz w (some ⟨p, 0, none⟩) [a, b]) (ha : a.ok) (hb : b.ok) : Yl 34 #[.slice (some ⟨p, 0, none⟩) 2 2] w (r7v (ar7 a [a, b])) :=
 paround_any a [a, b] (some ⟨p, 0, none⟩) 2 w hA (by simp) rfl (fun x hx => by
   simp only [List.mem_cons, List.not_mem_nil, or_false] at hx
   rcases hx with rfl | rfl
   · exact ha.sm
   · exact hb.sm)
set_option maxRecDepth 100000 in
set_option maxHeartbeats 16000000 in
theorem cross_any (a b c d : P7) (w : World) : Yl 20 #[p7v a, p7v b, p7v c, p7v d] w (.bool (cr7 a b c d)) := by
 by_cases hv : a.ok /\ b.ok /\ c.ok /\ d.ok
 case neg =>
   rw [show cr7 a b c d = false from by unfold cr7; rw [decide_eq_false hv]; rfl]
   have S_0 : Hid (Blk ((((w.alloc (.cells #[.int .i64 a.x, .int .i64 a.y] 31)).alloc (.cells #[.int .i64 b.x, .int .i64 b.y] 31)).alloc (.cells #[.int .i64 c.x, .int .i64 c.y] 31)).alloc (.cells #[.int .i64 d.x, .int .i64 d.y] 31)) w.heap.size 31 #[.int .i64 a.x, .int .i64 a.y]) := allocs_blk [(#[.int .i64 a.x, .int .i64 a.y], 31), (#[.int .i64 b.x, .int .i64 b.y], 31), (#[.int .i64 c.x, .int .i64 c.y], 31), (#[.int .i64 d.x, .int .i64 d.y], 31)] w 0 _ rfl
   have T_0 : Hid (Blk ((((w.alloc (.cells #[.int .i64 a.x, .int .i64 a.y] 31)).alloc (.cells #[.int .i64 b.x, .int .i64 b.y] 31)).alloc (.cells #[.int .i64 c.x, .int .i64 c.y] 31)).alloc (.cells #[.int .i64 d.x, .int .i64 d.y] 31)) (w.heap.size + 1) 31 #[.int .i64 b.x, .int .i64 b.y]) := allocs_blk [(#[.int .i64 a.x, .int .i64 a.y], 31), (#[.int .i64 b.x, .int .i64 b.y], 31), (#[.int .i64 c.x, .int .i64 c.y], 31), (#[.int .i64 d.x, .int .i64 d.y], 31)] w 1 _ rfl
   have U_0 : Hid (Blk ((((w.alloc (.cells #[.int .i64 a.x, .int .i64 a.y] 31)).alloc (.cells #[.int .i64 b.x, .int .i64 b.y] 31)).alloc (.cells #[.int .i64 c.x, .int .i64 c.y] 31)).alloc (.cells #[.int .i64 d.x, .int .i64 d.y] 31)) (w.heap.size + 2) 31 #[.int .i64 c.x, .int .i64 c.y]) := allocs_blk [(#[.int .i64 a.x, .int .i64 a.y], 31), (#[.int .i64 b.x, .int .i64 b.y], 31), (#[.int .i64 c.x, .int .i64 c.y], 31), (#[.int .i64 d.x, .int .i64 d.y], 31)] w 2 _ rfl
   have V_0 : Hid (Blk ((((w.alloc (.cells #[.int .i64 a.x, .int .i64 a.y] 31)).alloc (.cells #[.int .i64 b.x, .int .i64 b.y] 31)).alloc (.cells #[.int .i64 c.x, .int .i64 c.y] 31)).alloc (.cells #[.int .i64 d.x, .int .i64 d.y] 31)) (w.heap.size + 3) 31 #[.int .i64 d.x, .int .i64 d.y]) := allocs_blk [(#[.int .i64 a.x, .int .i64 a.y], 31), (#[.int .i64 b.x, .int .i64 b.y], 31), (#[.int .i64 c.x, .int .i64 c.y], 31), (#[.int .i64 d.x, .int .i64 d.y], 31)] w 3 _ rfl
   have HB_0 : Hid (Below w.heap.size w ((((w.alloc (.cells #[.int .i64 a.x, .int .i64 a.y] 31)).alloc (.cells #[.int .i64 b.x, .int .i64 b.y] 31)).alloc (.cells #[.int .i64 c.x, .int .i64 c.y] 31)).alloc (.cells #[.int .i64 d.x, .int .i64 d.y] 31))) := allocs_below [(#[.int .i64 a.x, .int .i64 a.y], 31), (#[.int .i64 b.x, .int .i64 b.y], 31), (#[.int .i64 c.x, .int .i64 c.y], 31), (#[.int .i64 d.x, .int .i64 d.y], 31)] w (Below.refl w.heap.size w) (Nat.le_refl _)
   go_enter Tryz.func20, Tryz.ntmps20
   have yy0 := S_0.out.cell (i := 0) (v := .int .i64 a.x) rfl; have yy1 := S_0.out.cell (i := 1) (v := .int .i64 a.y) rfl
   have yy2 := T_0.out.cell (i := 0) (v := .int .i64 b.x) rfl; have yy3 := T_0.out.cell (i := 1) (v := .int .i64 b.y) rfl
   have yy4 := U_0.out.cell (i := 0) (v := .int .i64 c.x) rfl; have yy5 := U_0.out.cell (i := 1) (v := .int .i64 c.y) rfl
   have yy6 := V_0.out.cell (i := 0) (v := .int .i64 d.x) rfl; have yy7 := V_0.out.cell (i := 1) (v := .int .i64 d.y) rfl
   have HN : Hid (Pz (((((w.alloc (.cells #[.int .i64 a.x, .int .i64 a.y] 31)).alloc (.cells #[.int .i64 b.x, .int .i64 b.y] 31)).alloc (.cells #[.int .i64 c.x, .int .i64 c.y] 31)).alloc (.cells #[.int .i64 d.x, .int .i64 d.y] 31)).alloc (.cells #[.int .i64 a.x, .int .i64 a.y, .int .i64 b.x, .int .i64 b.y, .int .i64 c.x, .int .i64 c.y, .int .i64 d.x, .int .i64 d.y] 31)) (some ⟨w.heap.size + 4, 0, none⟩) [a, b, c, d]) := Lib.hid (pz_of (l := [a, b, c, d]) (allocs_blk [(#[.int .i64 a.x, .int .i64 a.y], 31), (#[.int .i64 b.x, .int .i64 b.y], 31), (#[.int .i64 c.x, .int .i64 c.y], 31), (#[.int .i64 d.x, .int .i64 d.y], 31), (#[.int .i64 a.x, .int .i64 a.y, .int .i64 b.x, .int .i64 b.y, .int .i64 c.x, .int .i64 c.y, .int .i64 d.x, .int .i64 d.y], 31)] w 4 _ rfl))
   go_wp2_with fail
   refine (arevalid_four a b c d _ _ HN.out false (decide_eq_false hv)).mono ?_
   rintro e v0 ⟨rfl, hb1⟩
   have hb := ((Below.refl ((((w.alloc (.cells #[.int .i64 a.x, .int .i64 a.y] 31)).alloc (.cells #[.int .i64 b.x, .int .i64 b.y] 31)).alloc (.cells #[.int .i64 c.x, .int .i64 c.y] 31)).alloc (.cells #[.int .i64 d.x, .int .i64 d.y] 31)).heap.size ((((w.alloc (.cells #[.int .i64 a.x, .int .i64 a.y] 31)).alloc (.cells #[.int .i64 b.x, .int .i64 b.y] 31)).alloc (.cells #[.int .i64 c.x, .int .i64 c.y] 31)).alloc (.cells #[.int .i64 d.x, .int .i64 d.y] 31))).alloc (Nat.le_refl _) _).trans (hb1.mono (by simp)); clear hb1 HN
   clear yy0 yy1 yy2 yy3 yy4 yy5 yy6 yy7
   have S_1 : Hid (Blk v0 w.heap.size 31 #[.int .i64 a.x, .int .i64 a.y]) := Lib.hid (S_0.out.below hb S_0.out.lt)
   have T_1 : Hid (Blk v0 (w.heap.size + 1) 31 #[.int .i64 b.x, .int .i64 b.y]) := Lib.hid (T_0.out.below hb T_0.out.lt)
   have U_1 : Hid (Blk v0 (w.heap.size + 2) 31 #[.int .i64 c.x, .int .i64 c.y]) := Lib.hid (U_0.out.below hb U_0.out.lt)
   have V_1 : Hid (Blk v0 (w.heap.size + 3) 31 #[.int .i64 d.x, .int .i64 d.y]) := Lib.hid (V_0.out.below hb V_0.out.lt)
   have HB_1 : Hid (Below w.heap.size w v0) := Lib.hid (HB_0.out.trans (hb.mono HB_0.out.size))
   clear hb S_0 T_0 U_0 V_0 HB_0
   go_wp2_with fail
   go_ret
   exact ⟨rfl, HB_1.out⟩
 case pos =>
   rw [show cr7 a b c d = (tc7 (ar7 a [a, b]) (ar7 c [c, d]) && decide (sd7 a b c * sd7 a b d <= 0) && decide (sd7 c d a * sd7 c d b <= 0)) from by unfold cr7; rw [decide_eq_true hv, Bool.true_and]]
   have hb1 : (-1 <= sd7 a b c /\ sd7 a b c <= 1) /\ (-1 <= sd7 a b d /\ sd7 a b d <= 1) /\ (-1 <= sd7 c d a /\ sd7 c d a <= 1) /\ (-1 <= sd7 c d b /\ sd7 c d b <= 1) := ⟨sd7_mem _ _ _, sd7_mem _ _ _, sd7_mem _ _ _, sd7_mem _ _ _⟩
   have HS1 := Lib.hid (fun W => side_any a b c W); have HS2 := Lib.hid (fun W => side_any a b d W); have HS3 := Lib.hid (fun W => side_any c d a W); have HS4 := Lib.hid (fun W => side_any c d b W)
   generalize sd7 a b c = s1 at *
   generalize sd7 a b d = s2 at *
   generalize sd7 c d a = s3 at *
   generalize sd7 c d b = s4 at *
   have m1 := mul_small (m := 1) (n := 1) hb1.1 hb1.2.1
   have m2 := mul_small (m := 1) (n := 1) hb1.2.2.1 hb1.2.2.2
   have e1 : IntKind.i64.wrap (s1 * s2) = s1 * s2 := IntWalk.i64_in _ (by omega)
   have e2 : IntKind.i64.wrap (s3 * s4) = s3 * s4 := IntWalk.i64_in _ (by omega)
   clear m1 m2 hb1
   cases ht : tc7 (ar7 a [a, b]) (ar7 c [c, d])
   case false =>
     rw [Bool.false_and, Bool.false_and]
     have S_0 : Hid (Blk ((((w.alloc (.cells #[.int .i64 a.x, .int .i64 a.y] 31)).alloc (.cells #[.int .i64 b.x, .int .i64 b.y] 31)).alloc (.cells #[.int .i64 c.x, .int .i64 c.y] 31)).alloc (.cells #[.int .i64 d.x, .int .i64 d.y] 31)) w.heap.size 31 #[.int .i64 a.x, .int .i64 a.y]) := allocs_blk [(#[.int .i64 a.x, .int .i64 a.y], 31), (#[.int .i64 b.x, .int .i64 b.y], 31), (#[.int .i64 c.x, .int .i64 c.y], 31), (#[.int .i64 d.x, .int .i64 d.y], 31)] w 0 _ rfl
     have T_0 : Hid (Blk ((((w.alloc (.cells #[.int .i64 a.x, .int .i64 a.y] 31)).alloc (.cells #[.int .i64 b.x, .int .i64 b.y] 31)).alloc (.cells #[.int .i64 c.x, .int .i64 c.y] 31)).alloc (.cells #[.int .i64 d.x, .int .i64 d.y] 31)) (w.heap.size + 1) 31 #[.int .i64 b.x, .int .i64 b.y]) := allocs_blk [(#[.int .i64 a.x, .int .i64 a.y], 31), (#[.int .i64 b.x, .int .i64 b.y], 31), (#[.int .i64 c.x, .int .i64 c.y], 31), (#[.int .i64 d.x, .int .i64 d.y], 31)] w 1 _ rfl
     have U_0 : Hid (Blk ((((w.alloc (.cells #[.int .i64 a.x, .int .i64 a.y] 31)).alloc (.cells #[.int .i64 b.x, .int .i64 b.y] 31)).alloc (.cells #[.int .i64 c.x, .int .i64 c.y] 31)).alloc (.cells #[.int .i64 d.x, .int .i64 d.y] 31)) (w.heap.size + 2) 31 #[.int .i64 c.x, .int .i64 c.y]) := allocs_blk [(#[.int .i64 a.x, .int .i64 a.y], 31), (#[.int .i64 b.x, .int .i64 b.y], 31), (#[.int .i64 c.x, .int .i64 c.y], 31), (#[.int .i64 d.x, .int .i64 d.y], 31)] w 2 _ rfl
     have V_0 : Hid (Blk ((((w.alloc (.cells #[.int .i64 a.x, .int .i64 a.y] 31)).alloc (.cells #[.int .i64 b.x, .int .i64 b.y] 31)).alloc (.cells #[.int .i64 c.x, .int .i64 c.y] 31)).alloc (.cells #[.int .i64 d.x, .int .i64 d.y] 31)) (w.heap.size + 3) 31 #[.int .i64 d.x, .int .i64 d.y]) := allocs_blk [(#[.int .i64 a.x, .int .i64 a.y], 31), (#[.int .i64 b.x, .int .i64 b.y], 31), (#[.int .i64 c.x, .int .i64 c.y], 31), (#[.int .i64 d.x, .int .i64 d.y], 31)] w 3 _ rfl
     have HB_0 : Hid (Below w.heap.size w ((((w.alloc (.cells #[.int .i64 a.x, .int .i64 a.y] 31)).alloc (.cells #[.int .i64 b.x, .int .i64 b.y] 31)).alloc (.cells #[.int .i64 c.x, .int .i64 c.y] 31)).alloc (.cells #[.int .i64 d.x, .int .i64 d.y] 31))) := allocs_below [(#[.int .i64 a.x, .int .i64 a.y], 31), (#[.int .i64 b.x, .int .i64 b.y], 31), (#[.int .i64 c.x, .int .i64 c.y], 31), (#[.int .i64 d.x, .int .i64 d.y], 31)] w (Below.refl w.heap.size w) (Nat.le_refl _)
     go_enter Tryz.func20, Tryz.ntmps20
     have yy0 := S_0.out.cell (i := 0) (v := .int .i64 a.x) rfl; have yy1 := S_0.out.cell (i := 1) (v := .int .i64 a.y) rfl
     have yy2 := T_0.out.cell (i := 0) (v := .int .i64 b.x) rfl; have yy3 := T_0.out.cell (i := 1) (v := .int .i64 b.y) rfl
     have yy4 := U_0.out.cell (i := 0) (v := .int .i64 c.x) rfl; have yy5 := U_0.out.cell (i := 1) (v := .int .i64 c.y) rfl
     have yy6 := V_0.out.cell (i := 0) (v := .int .i64 d.x) rfl; have yy7 := V_0.out.cell (i := 1) (v := .int .i64 d.y) rfl
     have HN : Hid (Pz (((((w.alloc (.cells #[.int .i64 a.x, .int .i64 a.y] 31)).alloc (.cells #[.int .i64 b.x, .int .i64 b.y] 31)).alloc (.cells #[.int .i64 c.x, .int .i64 c.y] 31)).alloc (.cells #[.int .i64 d.x, .int .i64 d.y] 31)).alloc (.cells #[.int .i64 a.x, .int .i64 a.y, .int .i64 b.x, .int .i64 b.y, .int .i64 c.x, .int .i64 c.y, .int .i64 d.x, .int .i64 d.y] 31)) (some ⟨w.heap.size + 4, 0, none⟩) [a, b, c, d]) := Lib.hid (pz_of (l := [a, b, c, d]) (allocs_blk [(#[.int .i64 a.x, .int .i64 a.y], 31), (#[.int .i64 b.x, .int .i64 b.y], 31), (#[.int .i64 c.x, .int .i64 c.y], 31), (#[.int .i64 d.x, .int .i64 d.y], 31), (#[.int .i64 a.x, .int .i64 a.y, .int .i64 b.x, .int .i64 b.y, .int .i64 c.x, .int .i64 c.y, .int .i64 d.x, .int .i64 d.y], 31)] w 4 _ rfl))
     go_wp2_with fail
     refine (arevalid_four a b c d _ _ HN.out true (decide_eq_true hv)).mono ?_
     rintro e v0 ⟨rfl, hb1⟩
     have hb := ((Below.refl ((((w.alloc (.cells #[.int .i64 a.x, .int .i64 a.y] 31)).alloc (.cells #[.int .i64 b.x, .int .i64 b.y] 31)).alloc (.cells #[.int .i64 c.x, .int .i64 c.y] 31)).alloc (.cells #[.int .i64 d.x, .int .i64 d.y] 31)).heap.size ((((w.alloc (.cells #[.int .i64 a.x, .int .i64 a.y] 31)).alloc (.cells #[.int .i64 b.x, .int .i64 b.y] 31)).alloc (.cells #[.int .i64 c.x, .int .i64 c.y] 31)).alloc (.cells #[.int .i64 d.x, .int .i64 d.y] 31))).alloc (Nat.le_refl _) _).trans (hb1.mono (by simp)); clear hb1 HN
     clear yy0 yy1 yy2 yy3 yy4 yy5 yy6 yy7
     have S_1 : Hid (Blk v0 w.heap.size 31 #[.int .i64 a.x, .int .i64 a.y]) := Lib.hid (S_0.out.below hb S_0.out.lt)
     have T_1 : Hid (Blk v0 (w.heap.size + 1) 31 #[.int .i64 b.x, .int .i64 b.y]) := Lib.hid (T_0.out.below hb T_0.out.lt)
     have U_1 : Hid (Blk v0 (w.heap.size + 2) 31 #[.int .i64 c.x, .int .i64 c.y]) := Lib.hid (U_0.out.below hb U_0.out.lt)
     have V_1 : Hid (Blk v0 (w.heap.size + 3) 31 #[.int .i64 d.x, .int .i64 d.y]) := Lib.hid (V_0.out.below hb V_0.out.lt)
     have HB_1 : Hid (Below w.heap.size w v0) := Lib.hid (HB_0.out.trans (hb.mono HB_0.out.size))
     clear hb S_0 T_0 U_0 V_0 HB_0
     go_wp2_with fail
     refine wp_region_grow (S := (fun w' => w'.cell? ⟨w.heap.size, 0, none⟩ = some (.int .i64 a.x) /\ w'.cell? ⟨w.heap.size, 1, none⟩ = some (.int .i64 a.y) /\ w'.cell? ⟨(w.heap.size + 1), 0, none⟩ = some (.int .i64 b.x) /\ w'.cell? ⟨(w.heap.size + 1), 1, none⟩ = some (.int .i64 b.y) /\ w'.cell? ⟨(w.heap.size + 2), 0, none⟩ = some (.int .i64 c.x) /\ w'.cell? ⟨(w.heap.size + 2), 1, none⟩ = some (.int .i64 c.y) /\ w'.cell? ⟨(w.heap.size + 3), 0, none⟩ = some (.int .i64 d.x) /\ w'.cell? ⟨(w.heap.size + 3), 1, none⟩ = some (.int .i64 d.y))) ((fun w' => Below v0.heap.size v0 w')) (by kernel_rfl) (⟨fun w2 h2 => ⟨(S_1.out.below h2 S_1.out.lt).cell (i := 0) (v := .int .i64 a.x) rfl, (S_1.out.below h2 S_1.out.lt).cell (i := 1) (v := .int .i64 a.y) rfl, (T_1.out.below h2 T_1.out.lt).cell (i := 0) (v := .int .i64 b.x) rfl, (T_1.out.below h2 T_1.out.lt).cell (i := 1) (v := .int .i64 b.y) rfl, (U_1.out.below h2 U_1.out.lt).cell (i := 0) (v := .int .i64 c.x) rfl, (U_1.out.below h2 U_1.out.lt).cell (i := 1) (v := .int .i64 c.y) rfl, (V_1.out.below h2 V_1.out.lt).cell (i := 0) (v := .int .i64 d.x) rfl, (V_1.out.below h2 V_1.out.lt).cell (i := 1) (v := .int .i64 d.y) rfl⟩, fun w2 w3 h2 hb2 => h2.trans (hb2.mono h2.size)⟩) ((Below.refl v0.heap.size v0).drew) (fun hCalm => ?_)
     refine grow_take 0 (some 16) ?_ rfl rfl (by kernel_rfl) (fun _ _ _ h => h) (by kernel_rfl) hCalm ?_ ?_
     rotate_left
     · intro wS hS; (try dsimp only at hS); go_simp <;> with_reducible rfl
     try simp only [Act.put, q8a, q8b, q8c]
     refine grow_take 1 (some 17) ?_ rfl rfl (by kernel_rfl) (fun _ _ _ h => h) (by kernel_rfl) hCalm ?_ ?_
     rotate_left
     · intro wS hS; (try dsimp only at hS); go_simp <;> with_reducible rfl
     try simp only [Act.put, q8a, q8b, q8c]
     refine grow_take 4 (some 20) ?_ rfl rfl (by kernel_rfl) (fun _ _ _ h => h) (by kernel_rfl) hCalm ?_ ?_
     rotate_left
     · intro wS hS; (try dsimp only at hS); go_simp <;> with_reducible rfl
     try simp only [Act.put, q8a, q8b, q8c]
     refine grow_take 5 (some 21) ?_ rfl rfl (by kernel_rfl) (fun _ _ _ h => h) (by kernel_rfl) hCalm ?_ ?_
     rotate_left
     · intro wS hS; (try dsimp only at hS); go_simp <;> with_reducible rfl
     try simp only [Act.put, q8a, q8b, q8c]
     refine grow_each [2, 6] (by kernel_rfl) (by decide) ?_
     refine grow_cons 2 rfl (by kernel_rfl) (fun wA hA K hK => ?_) ?_
     case _ =>
      obtain ⟨pX, hpX⟩ : ∃ b, b = wA.heap.size := ⟨_, rfl⟩
      have le_pX : v0.heap.size <= pX := by rw [hpX]; exact hA.size
      have hnew : Blk (wA.alloc (.cells #[.int .i64 a.x, .int .i64 a.y, .int .i64 b.x, .int .i64 b.y] 31)) pX 31 #[.int .i64 a.x, .int .i64 a.y, .int .i64 b.x, .int .i64 b.y] := by rw [hpX]; exact Blk.new wA _ _
      go_simp
      rw [<- hpX]
      refine grow_new hK hCalm hA hnew (fun h9 => ?_)
      clear hCalm hnew hpX hK K hA wA; have hCalm := h9; clear h9
      try simp only [Act.put, q8a, q8b, q8c]
      refine grow_more3 (fun w' => Pz w' (some ⟨pX, 0, none⟩) [a, b]) hCalm (fun wz hz => pz_of (l := [a, b]) hz.2) (fun h9 => ?_)
      clear hCalm; have hCalm := h9; clear h9
      refine grow_call 3 (some 19) (r7v (ar7 a [a, b])) 34 [.tmp 18] #[24] rfl rfl (by kernel_rfl) (fun _ _ _ h => h) (by kernel_rfl) hCalm rfl (enters_of Tryz.func34 (by kernel_rfl) rfl) (fun wz hS => paround_two a b _ wz (by first | exact hS.2 | exact hS.1.2) hv.1 hv.2.1) (by kernel_rfl) ?_
      try simp only [Act.put, q8a, q8b, q8c]
      refine grow_each [6] (by kernel_rfl) (by decide) ?_
      refine grow_cons 6 rfl (by kernel_rfl) (fun wA hA K hK => ?_) grow_nil
      obtain ⟨pY, hpY⟩ : ∃ b, b = wA.heap.size := ⟨_, rfl⟩
      have le_pY : v0.heap.size <= pY := by rw [hpY]; exact hA.1.size
      have lt_X_pY : pX < pY := by rw [hpY]; exact hA.2.lt
      have hnew : Blk (wA.alloc (.cells #[.int .i64 c.x, .int .i64 c.y, .int .i64 d.x, .int .i64 d.y] 31)) pY 31 #[.int .i64 c.x, .int .i64 c.y, .int .i64 d.x, .int .i64 d.y] := by rw [hpY]; exact Blk.new wA _ _
      go_simp
      rw [<- hpY]
      refine grow_new hK hCalm hA hnew (fun h9 => ?_)
      clear hCalm hnew hpY hK K hA wA; have hCalm := h9; clear h9
      try simp only [Act.put, q8a, q8b, q8c]
      refine grow_more3 (fun w' => Pz w' (some ⟨pY, 0, none⟩) [c, d]) hCalm (fun wz hz => pz_of (l := [c, d]) hz.2) (fun h9 => ?_)
      clear hCalm; have hCalm := h9; clear h9
      refine grow_call 7 (some 23) (r7v (ar7 c [c, d])) 34 [.tmp 22] #[24] rfl rfl (by kernel_rfl) (fun _ _ _ h => h) (by kernel_rfl) hCalm rfl (enters_of Tryz.func34 (by kernel_rfl) rfl) (fun wz hS => paround_two c d _ wz (by first | exact hS.2 | exact hS.1.2) hv.2.2.1 hv.2.2.2) (by kernel_rfl) ?_
      try simp only [Act.put, q8a, q8b, q8c]
      refine grow_call 8 (some 24) (.bool false) 13 [.tmp 19, .tmp 23] #[39, 39] rfl rfl (by kernel_rfl) (fun _ _ _ h => h) (by kernel_rfl) hCalm rfl (enters_of Tryz.func13 (by kernel_rfl) rfl) (fun wz _ => (touch_any (ar7 a [a, b]) (ar7 c [c, d]) wz).eq (by rw [ht])) (by kernel_rfl) ?_
      try simp only [Act.put, q8a, q8b, q8c]
      refine grow_take 9 (some 25) ?_ rfl rfl (by kernel_rfl) (fun _ _ _ h => h) (by kernel_rfl) hCalm ?_ ?_
      rotate_left
      · intro wS hS; (try dsimp only at hS); go_simp <;> with_reducible rfl
      try simp only [Act.put, q8a, q8b, q8c]
      refine grow_skip 10 (some 26) rfl rfl (by kernel_rfl) (fun _ _ _ h => h) (by kernel_rfl) hCalm ?_
      try simp only [Act.put, q8a, q8b, q8c]
      refine grow_skip 11 (some 27) rfl rfl (by kernel_rfl) (fun _ _ _ h => h) (by kernel_rfl) hCalm ?_
      try simp only [Act.put, q8a, q8b, q8c]
      refine grow_skip 12 (some 28) rfl rfl (by kernel_rfl) (fun _ _ _ h => h) (by kernel_rfl) hCalm ?_
      try simp only [Act.put, q8a, q8b, q8c]
      refine grow_skip 13 (some 29) rfl rfl (by kernel_rfl) (fun _ _ _ h => h) (by kernel_rfl) hCalm ?_
      try simp only [Act.put, q8a, q8b, q8c]
      refine grow_skip 14 (some 30) rfl rfl (by kernel_rfl) (fun _ _ _ h => h) (by kernel_rfl) hCalm ?_
      try simp only [Act.put, q8a, q8b, q8c]
      refine grow_skip 15 (some 31) rfl rfl (by kernel_rfl) (fun _ _ _ h => h) (by kernel_rfl) hCalm ?_
      try simp only [Act.put, q8a, q8b, q8c]
      refine grow_skip 16 (some 32) rfl rfl (by kernel_rfl) (fun _ _ _ h => h) (by kernel_rfl) hCalm ?_
      try simp only [Act.put, q8a, q8b, q8c]
      refine grow_skip 17 (some 33) rfl rfl (by kernel_rfl) (fun _ _ _ h => h) (by kernel_rfl) hCalm ?_
      try simp only [Act.put, q8a, q8b, q8c]
      refine grow_skip 18 (some 34) rfl rfl (by kernel_rfl) (fun _ _ _ h => h) (by kernel_rfl) hCalm ?_
      try simp only [Act.put, q8a, q8b, q8c]
      refine grow_skip 19 (some 35) rfl rfl (by kernel_rfl) (fun _ _ _ h => h) (by kernel_rfl) hCalm ?_
      try simp only [Act.put, q8a, q8b, q8c]
      refine grow_take 20 (some 36) ?_ rfl rfl (by kernel_rfl) (fun _ _ _ h => h) (by kernel_rfl) hCalm ?_ ?_
      rotate_left
      · intro wS hS; (try dsimp only at hS); go_simp <;> with_reducible rfl
      try simp only [Act.put, q8a, q8b, q8c]
      refine grow_take 21 (some 37) ?_ rfl rfl (by kernel_rfl) (fun _ _ _ h => h) (by kernel_rfl) hCalm ?_ ?_
      rotate_left
      · intro wS hS; (try dsimp only at hS); go_simp <;> with_reducible rfl
      try simp only [Act.put, q8a, q8b, q8c]
      refine grow_skip 22 (some 38) rfl rfl (by kernel_rfl) (fun _ _ _ h => h) (by kernel_rfl) hCalm ?_
      try simp only [Act.put, q8a, q8b, q8c]
      refine grow_skip 23 (some 39) rfl rfl (by kernel_rfl) (fun _ _ _ h => h) (by kernel_rfl) hCalm ?_
      try simp only [Act.put, q8a, q8b, q8c]
      refine grow_skip 24 (some 40) rfl rfl (by kernel_rfl) (fun _ _ _ h => h) (by kernel_rfl) hCalm ?_
      try simp only [Act.put, q8a, q8b, q8c]
      refine grow_skip 25 (some 41) rfl rfl (by kernel_rfl) (fun _ _ _ h => h) (by kernel_rfl) hCalm ?_
      try simp only [Act.put, q8a, q8b, q8c]
      refine grow_skip 26 (some 42) rfl rfl (by kernel_rfl) (fun _ _ _ h => h) (by kernel_rfl) hCalm ?_
      try simp only [Act.put, q8a, q8b, q8c]
      refine grow_skip 27 (some 43) rfl rfl (by kernel_rfl) (fun _ _ _ h => h) (by kernel_rfl) hCalm ?_
      try simp only [Act.put, q8a, q8b, q8c]
      refine grow_skip 28 (some 44) rfl rfl (by kernel_rfl) (fun _ _ _ h => h) (by kernel_rfl) hCalm ?_
      try simp only [Act.put, q8a, q8b, q8c]
      refine grow_skip 29 (some 45) rfl rfl (by kernel_rfl) (fun _ _ _ h => h) (by kernel_rfl) hCalm ?_
      try simp only [Act.put, q8a, q8b, q8c]
      refine grow_skip 30 (some 46) rfl rfl (by kernel_rfl) (fun _ _ _ h => h) (by kernel_rfl) hCalm ?_
      try simp only [Act.put, q8a, q8b, q8c]
      refine grow_skip 31 (some 47) rfl rfl (by kernel_rfl) (fun _ _ _ h => h) (by kernel_rfl) hCalm ?_
      try simp only [Act.put, q8a, q8b, q8c]
      refine grow_take 32 (some 48) ?_ rfl rfl (by kernel_rfl) (fun _ _ _ h => h) (by kernel_rfl) hCalm ?_ ?_
      rotate_left
      · intro wS hS; (try dsimp only at hS); go_simp <;> with_reducible rfl
      try simp only [Act.put, q8a, q8b, q8c]
      refine grow_take 33 (some 8) ?_ rfl rfl (by kernel_rfl) (fun _ _ _ h => h) (by kernel_rfl) hCalm ?_ ?_
      rotate_left
      · intro wS hS; (try dsimp only at hS); go_simp <;> with_reducible rfl
      try simp only [Act.put, q8a, q8b, q8c]
      refine grow_done (by kernel_rfl) (fun wA hA => ?_) _
      have hsz := HB_1.out.size
      have HBE := Lib.hid (HB_1.out.trans (hA.1.1.mono HB_1.out.size))
      go_wp2_with fail
      go_ret
      exact ⟨rfl, HBE.out⟩
     refine grow_cons 6 rfl (by kernel_rfl) (fun wA hA K hK => ?_) ?_
     case _ =>
      obtain ⟨pY, hpY⟩ : ∃ b, b = wA.heap.size := ⟨_, rfl⟩
      have le_pY : v0.heap.size <= pY := by rw [hpY]; exact hA.size
      have hnew : Blk (wA.alloc (.cells #[.int .i64 c.x, .int .i64 c.y, .int .i64 d.x, .int .i64 d.y] 31)) pY 31 #[.int .i64 c.x, .int .i64 c.y, .int .i64 d.x, .int .i64 d.y] := by rw [hpY]; exact Blk.new wA _ _
      go_simp
      rw [<- hpY]
      refine grow_new hK hCalm hA hnew (fun h9 => ?_)
      clear hCalm hnew hpY hK K hA wA; have hCalm := h9; clear h9
      try simp only [Act.put, q8a, q8b, q8c]
      refine grow_more3 (fun w' => Pz w' (some ⟨pY, 0, none⟩) [c, d]) hCalm (fun wz hz => pz_of (l := [c, d]) hz.2) (fun h9 => ?_)
      clear hCalm; have hCalm := h9; clear h9
      refine grow_each [2] (by kernel_rfl) (by decide) ?_
      refine grow_cons 2 rfl (by kernel_rfl) (fun wA hA K hK => ?_) grow_nil
      obtain ⟨pX, hpX⟩ : ∃ b, b = wA.heap.size := ⟨_, rfl⟩
      have le_pX : v0.heap.size <= pX := by rw [hpX]; exact hA.1.size
      have lt_Y_pX : pY < pX := by rw [hpX]; exact hA.2.lt
      have hnew : Blk (wA.alloc (.cells #[.int .i64 a.x, .int .i64 a.y, .int .i64 b.x, .int .i64 b.y] 31)) pX 31 #[.int .i64 a.x, .int .i64 a.y, .int .i64 b.x, .int .i64 b.y] := by rw [hpX]; exact Blk.new wA _ _
      go_simp
      rw [<- hpX]
      refine grow_new hK hCalm hA hnew (fun h9 => ?_)
      clear hCalm hnew hpX hK K hA wA; have hCalm := h9; clear h9
      try simp only [Act.put, q8a, q8b, q8c]
      refine grow_more3 (fun w' => Pz w' (some ⟨pX, 0, none⟩) [a, b]) hCalm (fun wz hz => pz_of (l := [a, b]) hz.2) (fun h9 => ?_)
      clear hCalm; have hCalm := h9; clear h9
      refine grow_call 3 (some 19) (r7v (ar7 a [a, b])) 34 [.tmp 18] #[24] rfl rfl (by kernel_rfl) (fun _ _ _ h => h) (by kernel_rfl) hCalm rfl (enters_of Tryz.func34 (by kernel_rfl) rfl) (fun wz hS => paround_two a b _ wz (by first | exact hS.2 | exact hS.1.2) hv.1 hv.2.1) (by kernel_rfl) ?_
      try simp only [Act.put, q8a, q8b, q8c]
      refine grow_call 7 (some 23) (r7v (ar7 c [c, d])) 34 [.tmp 22] #[24] rfl rfl (by kernel_rfl) (fun _ _ _ h => h) (by kernel_rfl) hCalm rfl (enters_of Tryz.func34 (by kernel_rfl) rfl) (fun wz hS => paround_two c d _ wz (by first | exact hS.2 | exact hS.1.2) hv.2.2.1 hv.2.2.2) (by kernel_rfl) ?_
      try simp only [Act.put, q8a, q8b, q8c]
      refine grow_call 8 (some 24) (.bool false) 13 [.tmp 19, .tmp 23] #[39, 39] rfl rfl (by kernel_rfl) (fun _ _ _ h => h) (by kernel_rfl) hCalm rfl (enters_of Tryz.func13 (by kernel_rfl) rfl) (fun wz _ => (touch_any (ar7 a [a, b]) (ar7 c [c, d]) wz).eq (by rw [ht])) (by kernel_rfl) ?_
      try simp only [Act.put, q8a, q8b, q8c]
      refine grow_take 9 (some 25) ?_ rfl rfl (by kernel_rfl) (fun _ _ _ h => h) (by kernel_rfl) hCalm ?_ ?_
      rotate_left
      · intro wS hS; (try dsimp only at hS); go_simp <;> with_reducible rfl
      try simp only [Act.put, q8a, q8b, q8c]
      refine grow_skip 10 (some 26) rfl rfl (by kernel_rfl) (fun _ _ _ h => h) (by kernel_rfl) hCalm ?_
      try simp only [Act.put, q8a, q8b, q8c]
      refine grow_skip 11 (some 27) rfl rfl (by kernel_rfl) (fun _ _ _ h => h) (by kernel_rfl) hCalm ?_
      try simp only [Act.put, q8a, q8b, q8c]
      refine grow_skip 12 (some 28) rfl rfl (by kernel_rfl) (fun _ _ _ h => h) (by kernel_rfl) hCalm ?_
      try simp only [Act.put, q8a, q8b, q8c]
      refine grow_skip 13 (some 29) rfl rfl (by kernel_rfl) (fun _ _ _ h => h) (by kernel_rfl) hCalm ?_
      try simp only [Act.put, q8a, q8b, q8c]
      refine grow_skip 14 (some 30) rfl rfl (by kernel_rfl) (fun _ _ _ h => h) (by kernel_rfl) hCalm ?_
      try simp only [Act.put, q8a, q8b, q8c]
      refine grow_skip 15 (some 31) rfl rfl (by kernel_rfl) (fun _ _ _ h => h) (by kernel_rfl) hCalm ?_
      try simp only [Act.put, q8a, q8b, q8c]
      refine grow_skip 16 (some 32) rfl rfl (by kernel_rfl) (fun _ _ _ h => h) (by kernel_rfl) hCalm ?_
      try simp only [Act.put, q8a, q8b, q8c]
      refine grow_skip 17 (some 33) rfl rfl (by kernel_rfl) (fun _ _ _ h => h) (by kernel_rfl) hCalm ?_
      try simp only [Act.put, q8a, q8b, q8c]
      refine grow_skip 18 (some 34) rfl rfl (by kernel_rfl) (fun _ _ _ h => h) (by kernel_rfl) hCalm ?_
      try simp only [Act.put, q8a, q8b, q8c]
      refine grow_skip 19 (some 35) rfl rfl (by kernel_rfl) (fun _ _ _ h => h) (by kernel_rfl) hCalm ?_
      try simp only [Act.put, q8a, q8b, q8c]
      refine grow_take 20 (some 36) ?_ rfl rfl (by kernel_rfl) (fun _ _ _ h => h) (by kernel_rfl) hCalm ?_ ?_
      rotate_left
      · intro wS hS; (try dsimp only at hS); go_simp <;> with_reducible rfl
      try simp only [Act.put, q8a, q8b, q8c]
      refine grow_take 21 (some 37) ?_ rfl rfl (by kernel_rfl) (fun _ _ _ h => h) (by kernel_rfl) hCalm ?_ ?_
      rotate_left
      · intro wS hS; (try dsimp only at hS); go_simp <;> with_reducible rfl
      try simp only [Act.put, q8a, q8b, q8c]
      refine grow_skip 22 (some 38) rfl rfl (by kernel_rfl) (fun _ _ _ h => h) (by kernel_rfl) hCalm ?_
      try simp only [Act.put, q8a, q8b, q8c]
      refine grow_skip 23 (some 39) rfl rfl (by kernel_rfl) (fun _ _ _ h => h) (by kernel_rfl) hCalm ?_
      try simp only [Act.put, q8a, q8b, q8c]
      refine grow_skip 24 (some 40) rfl rfl (by kernel_rfl) (fun _ _ _ h => h) (by kernel_rfl) hCalm ?_
      try simp only [Act.put, q8a, q8b, q8c]
      refine grow_skip 25 (some 41) rfl rfl (by kernel_rfl) (fun _ _ _ h => h) (by kernel_rfl) hCalm ?_
      try simp only [Act.put, q8a, q8b, q8c]
      refine grow_skip 26 (some 42) rfl rfl (by kernel_rfl) (fun _ _ _ h => h) (by kernel_rfl) hCalm ?_
      try simp only [Act.put, q8a, q8b, q8c]
      refine grow_skip 27 (some 43) rfl rfl (by kernel_rfl) (fun _ _ _ h => h) (by kernel_rfl) hCalm ?_
      try simp only [Act.put, q8a, q8b, q8c]
      refine grow_skip 28 (some 44) rfl rfl (by kernel_rfl) (fun _ _ _ h => h) (by kernel_rfl) hCalm ?_
      try simp only [Act.put, q8a, q8b, q8c]
      refine grow_skip 29 (some 45) rfl rfl (by kernel_rfl) (fun _ _ _ h => h) (by kernel_rfl) hCalm ?_
      try simp only [Act.put, q8a, q8b, q8c]
      refine grow_skip 30 (some 46) rfl rfl (by kernel_rfl) (fun _ _ _ h => h) (by kernel_rfl) hCalm ?_
      try simp only [Act.put, q8a, q8b, q8c]
      refine grow_skip 31 (some 47) rfl rfl (by kernel_rfl) (fun _ _ _ h => h) (by kernel_rfl) hCalm ?_
      try simp only [Act.put, q8a, q8b, q8c]
      refine grow_take 32 (some 48) ?_ rfl rfl (by kernel_rfl) (fun _ _ _ h => h) (by kernel_rfl) hCalm ?_ ?_
      rotate_left
      · intro wS hS; (try dsimp only at hS); go_simp <;> with_reducible rfl
      try simp only [Act.put, q8a, q8b, q8c]
      refine grow_take 33 (some 8) ?_ rfl rfl (by kernel_rfl) (fun _ _ _ h => h) (by kernel_rfl) hCalm ?_ ?_
      rotate_left
      · intro wS hS; (try dsimp only at hS); go_simp <;> with_reducible rfl
      try simp only [Act.put, q8a, q8b, q8c]
      refine grow_done (by kernel_rfl) (fun wA hA => ?_) _
      have hsz := HB_1.out.size
      have HBE := Lib.hid (HB_1.out.trans (hA.1.1.mono HB_1.out.size))
      go_wp2_with fail
      go_ret
      exact ⟨rfl, HBE.out⟩
     exact grow_nil
   case true =>
    rw [Bool.true_and]
    by_cases hp1 : s1 * s2 <= 0
    case neg =>
     rw [decide_eq_false hp1, Bool.false_and]
     have S_0 : Hid (Blk ((((w.alloc (.cells #[.int .i64 a.x, .int .i64 a.y] 31)).alloc (.cells #[.int .i64 b.x, .int .i64 b.y] 31)).alloc (.cells #[.int .i64 c.x, .int .i64 c.y] 31)).alloc (.cells #[.int .i64 d.x, .int .i64 d.y] 31)) w.heap.size 31 #[.int .i64 a.x, .int .i64 a.y]) := allocs_blk [(#[.int .i64 a.x, .int .i64 a.y], 31), (#[.int .i64 b.x, .int .i64 b.y], 31), (#[.int .i64 c.x, .int .i64 c.y], 31), (#[.int .i64 d.x, .int .i64 d.y], 31)] w 0 _ rfl
     have T_0 : Hid (Blk ((((w.alloc (.cells #[.int .i64 a.x, .int .i64 a.y] 31)).alloc (.cells #[.int .i64 b.x, .int .i64 b.y] 31)).alloc (.cells #[.int .i64 c.x, .int .i64 c.y] 31)).alloc (.cells #[.int .i64 d.x, .int .i64 d.y] 31)) (w.heap.size + 1) 31 #[.int .i64 b.x, .int .i64 b.y]) := allocs_blk [(#[.int .i64 a.x, .int .i64 a.y], 31), (#[.int .i64 b.x, .int .i64 b.y], 31), (#[.int .i64 c.x, .int .i64 c.y], 31), (#[.int .i64 d.x, .int .i64 d.y], 31)] w 1 _ rfl
     have U_0 : Hid (Blk ((((w.alloc (.cells #[.int .i64 a.x, .int .i64 a.y] 31)).alloc (.cells #[.int .i64 b.x, .int .i64 b.y] 31)).alloc (.cells #[.int .i64 c.x, .int .i64 c.y] 31)).alloc (.cells #[.int .i64 d.x, .int .i64 d.y] 31)) (w.heap.size + 2) 31 #[.int .i64 c.x, .int .i64 c.y]) := allocs_blk [(#[.int .i64 a.x, .int .i64 a.y], 31), (#[.int .i64 b.x, .int .i64 b.y], 31), (#[.int .i64 c.x, .int .i64 c.y], 31), (#[.int .i64 d.x, .int .i64 d.y], 31)] w 2 _ rfl
     have V_0 : Hid (Blk ((((w.alloc (.cells #[.int .i64 a.x, .int .i64 a.y] 31)).alloc (.cells #[.int .i64 b.x, .int .i64 b.y] 31)).alloc (.cells #[.int .i64 c.x, .int .i64 c.y] 31)).alloc (.cells #[.int .i64 d.x, .int .i64 d.y] 31)) (w.heap.size + 3) 31 #[.int .i64 d.x, .int .i64 d.y]) := allocs_blk [(#[.int .i64 a.x, .int .i64 a.y], 31), (#[.int .i64 b.x, .int .i64 b.y], 31), (#[.int .i64 c.x, .int .i64 c.y], 31), (#[.int .i64 d.x, .int .i64 d.y], 31)] w 3 _ rfl
     have HB_0 : Hid (Below w.heap.size w ((((w.alloc (.cells #[.int .i64 a.x, .int .i64 a.y] 31)).alloc (.cells #[.int .i64 b.x, .int .i64 b.y] 31)).alloc (.cells #[.int .i64 c.x, .int .i64 c.y] 31)).alloc (.cells #[.int .i64 d.x, .int .i64 d.y] 31))) := allocs_below [(#[.int .i64 a.x, .int .i64 a.y], 31), (#[.int .i64 b.x, .int .i64 b.y], 31), (#[.int .i64 c.x, .int .i64 c.y], 31), (#[.int .i64 d.x, .int .i64 d.y], 31)] w (Below.refl w.heap.size w) (Nat.le_refl _)
     go_enter Tryz.func20, Tryz.ntmps20
     have yy0 := S_0.out.cell (i := 0) (v := .int .i64 a.x) rfl; have yy1 := S_0.out.cell (i := 1) (v := .int .i64 a.y) rfl
     have yy2 := T_0.out.cell (i := 0) (v := .int .i64 b.x) rfl; have yy3 := T_0.out.cell (i := 1) (v := .int .i64 b.y) rfl
     have yy4 := U_0.out.cell (i := 0) (v := .int .i64 c.x) rfl; have yy5 := U_0.out.cell (i := 1) (v := .int .i64 c.y) rfl
     have yy6 := V_0.out.cell (i := 0) (v := .int .i64 d.x) rfl; have yy7 := V_0.out.cell (i := 1) (v := .int .i64 d.y) rfl
     have HN : Hid (Pz (((((w.alloc (.cells #[.int .i64 a.x, .int .i64 a.y] 31)).alloc (.cells #[.int .i64 b.x, .int .i64 b.y] 31)).alloc (.cells #[.int .i64 c.x, .int .i64 c.y] 31)).alloc (.cells #[.int .i64 d.x, .int .i64 d.y] 31)).alloc (.cells #[.int .i64 a.x, .int .i64 a.y, .int .i64 b.x, .int .i64 b.y, .int .i64 c.x, .int .i64 c.y, .int .i64 d.x, .int .i64 d.y] 31)) (some ⟨w.heap.size + 4, 0, none⟩) [a, b, c, d]) := Lib.hid (pz_of (l := [a, b, c, d]) (allocs_blk [(#[.int .i64 a.x, .int .i64 a.y], 31), (#[.int .i64 b.x, .int .i64 b.y], 31), (#[.int .i64 c.x, .int .i64 c.y], 31), (#[.int .i64 d.x, .int .i64 d.y], 31), (#[.int .i64 a.x, .int .i64 a.y, .int .i64 b.x, .int .i64 b.y, .int .i64 c.x, .int .i64 c.y, .int .i64 d.x, .int .i64 d.y], 31)] w 4 _ rfl))
     go_wp2_with fail
     refine (arevalid_four a b c d _ _ HN.out true (decide_eq_true hv)).mono ?_
     rintro e v0 ⟨rfl, hb1⟩
     have hb := ((Below.refl ((((w.alloc (.cells #[.int .i64 a.x, .int .i64 a.y] 31)).alloc (.cells #[.int .i64 b.x, .int .i64 b.y] 31)).alloc (.cells #[.int .i64 c.x, .int .i64 c.y] 31)).alloc (.cells #[.int .i64 d.x, .int .i64 d.y] 31)).heap.size ((((w.alloc (.cells #[.int .i64 a.x, .int .i64 a.y] 31)).alloc (.cells #[.int .i64 b.x, .int .i64 b.y] 31)).alloc (.cells #[.int .i64 c.x, .int .i64 c.y] 31)).alloc (.cells #[.int .i64 d.x, .int .i64 d.y] 31))).alloc (Nat.le_refl _) _).trans (hb1.mono (by simp)); clear hb1 HN
     clear yy0 yy1 yy2 yy3 yy4 yy5 yy6 yy7
     have S_1 : Hid (Blk v0 w.heap.size 31 #[.int .i64 a.x, .int .i64 a.y]) := Lib.hid (S_0.out.below hb S_0.out.lt)
     have T_1 : Hid (Blk v0 (w.heap.size + 1) 31 #[.int .i64 b.x, .int .i64 b.y]) := Lib.hid (T_0.out.below hb T_0.out.lt)
     have U_1 : Hid (Blk v0 (w.heap.size + 2) 31 #[.int .i64 c.x, .int .i64 c.y]) := Lib.hid (U_0.out.below hb U_0.out.lt)
     have V_1 : Hid (Blk v0 (w.heap.size + 3) 31 #[.int .i64 d.x, .int .i64 d.y]) := Lib.hid (V_0.out.below hb V_0.out.lt)
     have HB_1 : Hid (Below w.heap.size w v0) := Lib.hid (HB_0.out.trans (hb.mono HB_0.out.size))
     clear hb S_0 T_0 U_0 V_0 HB_0
     go_wp2_with fail
     refine wp_region_grow (S := (fun w' => w'.cell? ⟨w.heap.size, 0, none⟩ = some (.int .i64 a.x) /\ w'.cell? ⟨w.heap.size, 1, none⟩ = some (.int .i64 a.y) /\ w'.cell? ⟨(w.heap.size + 1), 0, none⟩ = some (.int .i64 b.x) /\ w'.cell? ⟨(w.heap.size + 1), 1, none⟩ = some (.int .i64 b.y) /\ w'.cell? ⟨(w.heap.size + 2), 0, none⟩ = some (.int .i64 c.x) /\ w'.cell? ⟨(w.heap.size + 2), 1, none⟩ = some (.int .i64 c.y) /\ w'.cell? ⟨(w.heap.size + 3), 0, none⟩ = some (.int .i64 d.x) /\ w'.cell? ⟨(w.heap.size + 3), 1, none⟩ = some (.int .i64 d.y))) ((fun w' => Below v0.heap.size v0 w')) (by kernel_rfl) (⟨fun w2 h2 => ⟨(S_1.out.below h2 S_1.out.lt).cell (i := 0) (v := .int .i64 a.x) rfl, (S_1.out.below h2 S_1.out.lt).cell (i := 1) (v := .int .i64 a.y) rfl, (T_1.out.below h2 T_1.out.lt).cell (i := 0) (v := .int .i64 b.x) rfl, (T_1.out.below h2 T_1.out.lt).cell (i := 1) (v := .int .i64 b.y) rfl, (U_1.out.below h2 U_1.out.lt).cell (i := 0) (v := .int .i64 c.x) rfl, (U_1.out.below h2 U_1.out.lt).cell (i := 1) (v := .int .i64 c.y) rfl, (V_1.out.below h2 V_1.out.lt).cell (i := 0) (v := .int .i64 d.x) rfl, (V_1.out.below h2 V_1.out.lt).cell (i := 1) (v := .int .i64 d.y) rfl⟩, fun w2 w3 h2 hb2 => h2.trans (hb2.mono h2.size)⟩) ((Below.refl v0.heap.size v0).drew) (fun hCalm => ?_)
     refine grow_take 0 (some 16) ?_ rfl rfl (by kernel_rfl) (fun _ _ _ h => h) (by kernel_rfl) hCalm ?_ ?_
     rotate_left
     · intro wS hS; (try dsimp only at hS); go_simp <;> with_reducible rfl
     try simp only [Act.put, q8a, q8b, q8c]
     refine grow_take 1 (some 17) ?_ rfl rfl (by kernel_rfl) (fun _ _ _ h => h) (by kernel_rfl) hCalm ?_ ?_
     rotate_left
     · intro wS hS; (try dsimp only at hS); go_simp <;> with_reducible rfl
     try simp only [Act.put, q8a, q8b, q8c]
     refine grow_take 4 (some 20) ?_ rfl rfl (by kernel_rfl) (fun _ _ _ h => h) (by kernel_rfl) hCalm ?_ ?_
     rotate_left
     · intro wS hS; (try dsimp only at hS); go_simp <;> with_reducible rfl
     try simp only [Act.put, q8a, q8b, q8c]
     refine grow_take 5 (some 21) ?_ rfl rfl (by kernel_rfl) (fun _ _ _ h => h) (by kernel_rfl) hCalm ?_ ?_
     rotate_left
     · intro wS hS; (try dsimp only at hS); go_simp <;> with_reducible rfl
     try simp only [Act.put, q8a, q8b, q8c]
     refine grow_each [2, 6] (by kernel_rfl) (by decide) ?_
     refine grow_cons 2 rfl (by kernel_rfl) (fun wA hA K hK => ?_) ?_
     case _ =>
      obtain ⟨pX, hpX⟩ : ∃ b, b = wA.heap.size := ⟨_, rfl⟩
      have le_pX : v0.heap.size <= pX := by rw [hpX]; exact hA.size
      have hnew : Blk (wA.alloc (.cells #[.int .i64 a.x, .int .i64 a.y, .int .i64 b.x, .int .i64 b.y] 31)) pX 31 #[.int .i64 a.x, .int .i64 a.y, .int .i64 b.x, .int .i64 b.y] := by rw [hpX]; exact Blk.new wA _ _
      go_simp
      rw [<- hpX]
      refine grow_new hK hCalm hA hnew (fun h9 => ?_)
      clear hCalm hnew hpX hK K hA wA; have hCalm := h9; clear h9
      try simp only [Act.put, q8a, q8b, q8c]
      refine grow_more3 (fun w' => Pz w' (some ⟨pX, 0, none⟩) [a, b]) hCalm (fun wz hz => pz_of (l := [a, b]) hz.2) (fun h9 => ?_)
      clear hCalm; have hCalm := h9; clear h9
      refine grow_call 3 (some 19) (r7v (ar7 a [a, b])) 34 [.tmp 18] #[24] rfl rfl (by kernel_rfl) (fun _ _ _ h => h) (by kernel_rfl) hCalm rfl (enters_of Tryz.func34 (by kernel_rfl) rfl) (fun wz hS => paround_two a b _ wz (by first | exact hS.2 | exact hS.1.2) hv.1 hv.2.1) (by kernel_rfl) ?_
      try simp only [Act.put, q8a, q8b, q8c]
      refine grow_each [6] (by kernel_rfl) (by decide) ?_
      refine grow_cons 6 rfl (by kernel_rfl) (fun wA hA K hK => ?_) grow_nil
      obtain ⟨pY, hpY⟩ : ∃ b, b = wA.heap.size := ⟨_, rfl⟩
      have le_pY : v0.heap.size <= pY := by rw [hpY]; exact hA.1.size
      have lt_X_pY : pX < pY := by rw [hpY]; exact hA.2.lt
      have hnew : Blk (wA.alloc (.cells #[.int .i64 c.x, .int .i64 c.y, .int .i64 d.x, .int .i64 d.y] 31)) pY 31 #[.int .i64 c.x, .int .i64 c.y, .int .i64 d.x, .int .i64 d.y] := by rw [hpY]; exact Blk.new wA _ _
      go_simp
      rw [<- hpY]
      refine grow_new hK hCalm hA hnew (fun h9 => ?_)
      clear hCalm hnew hpY hK K hA wA; have hCalm := h9; clear h9
      try simp only [Act.put, q8a, q8b, q8c]
      refine grow_more3 (fun w' => Pz w' (some ⟨pY, 0, none⟩) [c, d]) hCalm (fun wz hz => pz_of (l := [c, d]) hz.2) (fun h9 => ?_)
      clear hCalm; have hCalm := h9; clear h9
      refine grow_call 7 (some 23) (r7v (ar7 c [c, d])) 34 [.tmp 22] #[24] rfl rfl (by kernel_rfl) (fun _ _ _ h => h) (by kernel_rfl) hCalm rfl (enters_of Tryz.func34 (by kernel_rfl) rfl) (fun wz hS => paround_two c d _ wz (by first | exact hS.2 | exact hS.1.2) hv.2.2.1 hv.2.2.2) (by kernel_rfl) ?_
      try simp only [Act.put, q8a, q8b, q8c]
      refine grow_call 8 (some 24) (.bool true) 13 [.tmp 19, .tmp 23] #[39, 39] rfl rfl (by kernel_rfl) (fun _ _ _ h => h) (by kernel_rfl) hCalm rfl (enters_of Tryz.func13 (by kernel_rfl) rfl) (fun wz _ => (touch_any (ar7 a [a, b]) (ar7 c [c, d]) wz).eq (by rw [ht])) (by kernel_rfl) ?_
      try simp only [Act.put, q8a, q8b, q8c]
      refine grow_take 9 (some 25) ?_ rfl rfl (by kernel_rfl) (fun _ _ _ h => h) (by kernel_rfl) hCalm ?_ ?_
      rotate_left
      · intro wS hS; (try dsimp only at hS); go_simp <;> with_reducible rfl
      try simp only [Act.put, q8a, q8b, q8c]
      refine grow_take 10 (some 26) ?_ rfl rfl (by kernel_rfl) (fun _ _ _ h => h) (by kernel_rfl) hCalm ?_ ?_
      rotate_left
      · intro wS hS; (try dsimp only at hS); go_simp <;> with_reducible rfl
      try simp only [Act.put, q8a, q8b, q8c]
      refine grow_take 11 (some 27) ?_ rfl rfl (by kernel_rfl) (fun _ _ _ h => h) (by kernel_rfl) hCalm ?_ ?_
      rotate_left
      · intro wS hS; (try dsimp only at hS); go_simp <;> with_reducible rfl
      try simp only [Act.put, q8a, q8b, q8c]
      refine grow_take 12 (some 28) ?_ rfl rfl (by kernel_rfl) (fun _ _ _ h => h) (by kernel_rfl) hCalm ?_ ?_
      rotate_left
      · intro wS hS; (try dsimp only at hS); go_simp <;> with_reducible rfl
      try simp only [Act.put, q8a, q8b, q8c]
      refine grow_take 14 (some 30) ?_ rfl rfl (by kernel_rfl) (fun _ _ _ h => h) (by kernel_rfl) hCalm ?_ ?_
      rotate_left
      · intro wS hS; (try dsimp only at hS); go_simp <;> with_reducible rfl
      try simp only [Act.put, q8a, q8b, q8c]
      refine grow_take 15 (some 31) ?_ rfl rfl (by kernel_rfl) (fun _ _ _ h => h) (by kernel_rfl) hCalm ?_ ?_
      rotate_left
      · intro wS hS; (try dsimp only at hS); go_simp <;> with_reducible rfl
      try simp only [Act.put, q8a, q8b, q8c]
      refine grow_take 16 (some 32) ?_ rfl rfl (by kernel_rfl) (fun _ _ _ h => h) (by kernel_rfl) hCalm ?_ ?_
      rotate_left
      · intro wS hS; (try dsimp only at hS); go_simp <;> with_reducible rfl
      try simp only [Act.put, q8a, q8b, q8c]
      refine grow_call 13 (some 29) (.int .i64 s1) 10 [.tmp 26, .tmp 27, .tmp 28] #[31, 31, 31] rfl rfl (by kernel_rfl) (fun _ _ _ h => h) (by kernel_rfl) hCalm rfl (enters_of Tryz.func10 (by kernel_rfl) rfl) (fun wz _ => HS1.out wz) (by kernel_rfl) ?_
      try simp only [Act.put, q8a, q8b, q8c]
      refine grow_call 17 (some 33) (.int .i64 s2) 10 [.tmp 30, .tmp 31, .tmp 32] #[31, 31, 31] rfl rfl (by kernel_rfl) (fun _ _ _ h => h) (by kernel_rfl) hCalm rfl (enters_of Tryz.func10 (by kernel_rfl) rfl) (fun wz _ => HS2.out wz) (by kernel_rfl) ?_
      try simp only [Act.put, q8a, q8b, q8c]
      refine grow_take 18 (some 34) ?_ rfl rfl (by kernel_rfl) (fun _ _ _ h => h) (by kernel_rfl) hCalm ?_ ?_
      rotate_left
      · intro wS hS; (try dsimp only at hS); go_simp <;> with_reducible rfl
      try simp only [Act.put, q8a, q8b, q8c]
      refine grow_take 19 (some 35) (.bool false) rfl rfl (by kernel_rfl) (fun _ _ _ h => h) (by kernel_rfl) hCalm ?_ ?_
      · intro wS hS; (try dsimp only at hS); go_simp
      try simp only [Act.put, q8a, q8b, q8c]
      refine grow_take 20 (some 36) ?_ rfl rfl (by kernel_rfl) (fun _ _ _ h => h) (by kernel_rfl) hCalm ?_ ?_
      rotate_left
      · intro wS hS; (try dsimp only at hS); go_simp <;> with_reducible rfl
      try simp only [Act.put, q8a, q8b, q8c]
      refine grow_take 21 (some 37) ?_ rfl rfl (by kernel_rfl) (fun _ _ _ h => h) (by kernel_rfl) hCalm ?_ ?_
      rotate_left
      · intro wS hS; (try dsimp only at hS); go_simp <;> with_reducible rfl
      try simp only [Act.put, q8a, q8b, q8c]
      refine grow_skip 22 (some 38) rfl rfl (by kernel_rfl) (fun _ _ _ h => h) (by kernel_rfl) hCalm ?_
      try simp only [Act.put, q8a, q8b, q8c]
      refine grow_skip 23 (some 39) rfl rfl (by kernel_rfl) (fun _ _ _ h => h) (by kernel_rfl) hCalm ?_
      try simp only [Act.put, q8a, q8b, q8c]
      refine grow_skip 24 (some 40) rfl rfl (by kernel_rfl) (fun _ _ _ h => h) (by kernel_rfl) hCalm ?_
      try simp only [Act.put, q8a, q8b, q8c]
      refine grow_skip 25 (some 41) rfl rfl (by kernel_rfl) (fun _ _ _ h => h) (by kernel_rfl) hCalm ?_
      try simp only [Act.put, q8a, q8b, q8c]
      refine grow_skip 26 (some 42) rfl rfl (by kernel_rfl) (fun _ _ _ h => h) (by kernel_rfl) hCalm ?_
      try simp only [Act.put, q8a, q8b, q8c]
      refine grow_skip 27 (some 43) rfl rfl (by kernel_rfl) (fun _ _ _ h => h) (by kernel_rfl) hCalm ?_
      try simp only [Act.put, q8a, q8b, q8c]
      refine grow_skip 28 (some 44) rfl rfl (by kernel_rfl) (fun _ _ _ h => h) (by kernel_rfl) hCalm ?_
      try simp only [Act.put, q8a, q8b, q8c]
      refine grow_skip 29 (some 45) rfl rfl (by kernel_rfl) (fun _ _ _ h => h) (by kernel_rfl) hCalm ?_
      try simp only [Act.put, q8a, q8b, q8c]
      refine grow_skip 30 (some 46) rfl rfl (by kernel_rfl) (fun _ _ _ h => h) (by kernel_rfl) hCalm ?_
      try simp only [Act.put, q8a, q8b, q8c]
      refine grow_skip 31 (some 47) rfl rfl (by kernel_rfl) (fun _ _ _ h => h) (by kernel_rfl) hCalm ?_
      try simp only [Act.put, q8a, q8b, q8c]
      refine grow_take 32 (some 48) ?_ rfl rfl (by kernel_rfl) (fun _ _ _ h => h) (by kernel_rfl) hCalm ?_ ?_
      rotate_left
      · intro wS hS; (try dsimp only at hS); go_simp <;> with_reducible rfl
      try simp only [Act.put, q8a, q8b, q8c]
      refine grow_take 33 (some 8) ?_ rfl rfl (by kernel_rfl) (fun _ _ _ h => h) (by kernel_rfl) hCalm ?_ ?_
      rotate_left
      · intro wS hS; (try dsimp only at hS); go_simp <;> with_reducible rfl
      try simp only [Act.put, q8a, q8b, q8c]
      refine grow_done (by kernel_rfl) (fun wA hA => ?_) _
      have hsz := HB_1.out.size
      have HBE := Lib.hid (HB_1.out.trans (hA.1.1.mono HB_1.out.size))
      go_wp2_with fail
      go_ret
      exact ⟨rfl, HBE.out⟩
     refine grow_cons 6 rfl (by kernel_rfl) (fun wA hA K hK => ?_) ?_
     case _ =>
      obtain ⟨pY, hpY⟩ : ∃ b, b = wA.heap.size := ⟨_, rfl⟩
      have le_pY : v0.heap.size <= pY := by rw [hpY]; exact hA.size
      have hnew : Blk (wA.alloc (.cells #[.int .i64 c.x, .int .i64 c.y, .int .i64 d.x, .int .i64 d.y] 31)) pY 31 #[.int .i64 c.x, .int .i64 c.y, .int .i64 d.x, .int .i64 d.y] := by rw [hpY]; exact Blk.new wA _ _
      go_simp
      rw [<- hpY]
      refine grow_new hK hCalm hA hnew (fun h9 => ?_)
      clear hCalm hnew hpY hK K hA wA; have hCalm := h9; clear h9
      try simp only [Act.put, q8a, q8b, q8c]
      refine grow_more3 (fun w' => Pz w' (some ⟨pY, 0, none⟩) [c, d]) hCalm (fun wz hz => pz_of (l := [c, d]) hz.2) (fun h9 => ?_)
      clear hCalm; have hCalm := h9; clear h9
      refine grow_each [2] (by kernel_rfl) (by decide) ?_
      refine grow_cons 2 rfl (by kernel_rfl) (fun wA hA K hK => ?_) grow_nil
      obtain ⟨pX, hpX⟩ : ∃ b, b = wA.heap.size := ⟨_, rfl⟩
      have le_pX : v0.heap.size <= pX := by rw [hpX]; exact hA.1.size
      have lt_Y_pX : pY < pX := by rw [hpX]; exact hA.2.lt
      have hnew : Blk (wA.alloc (.cells #[.int .i64 a.x, .int .i64 a.y, .int .i64 b.x, .int .i64 b.y] 31)) pX 31 #[.int .i64 a.x, .int .i64 a.y, .int .i64 b.x, .int .i64 b.y] := by rw [hpX]; exact Blk.new wA _ _
      go_simp
      rw [<- hpX]
      refine grow_new hK hCalm hA hnew (fun h9 => ?_)
      clear hCalm hnew hpX hK K hA wA; have hCalm := h9; clear h9
      try simp only [Act.put, q8a, q8b, q8c]
      refine grow_more3 (fun w' => Pz w' (some ⟨pX, 0, none⟩) [a, b]) hCalm (fun wz hz => pz_of (l := [a, b]) hz.2) (fun h9 => ?_)
      clear hCalm; have hCalm := h9; clear h9
      refine grow_call 3 (some 19) (r7v (ar7 a [a, b])) 34 [.tmp 18] #[24] rfl rfl (by kernel_rfl) (fun _ _ _ h => h) (by kernel_rfl) hCalm rfl (enters_of Tryz.func34 (by kernel_rfl) rfl) (fun wz hS => paround_two a b _ wz (by first | exact hS.2 | exact hS.1.2) hv.1 hv.2.1) (by kernel_rfl) ?_
      try simp only [Act.put, q8a, q8b, q8c]
      refine grow_call 7 (some 23) (r7v (ar7 c [c, d])) 34 [.tmp 22] #[24] rfl rfl (by kernel_rfl) (fun _ _ _ h => h) (by kernel_rfl) hCalm rfl (enters_of Tryz.func34 (by kernel_rfl) rfl) (fun wz hS => paround_two c d _ wz (by first | exact hS.2 | exact hS.1.2) hv.2.2.1 hv.2.2.2) (by kernel_rfl) ?_
      try simp only [Act.put, q8a, q8b, q8c]
      refine grow_call 8 (some 24) (.bool true) 13 [.tmp 19, .tmp 23] #[39, 39] rfl rfl (by kernel_rfl) (fun _ _ _ h => h) (by kernel_rfl) hCalm rfl (enters_of Tryz.func13 (by kernel_rfl) rfl) (fun wz _ => (touch_any (ar7 a [a, b]) (ar7 c [c, d]) wz).eq (by rw [ht])) (by kernel_rfl) ?_
      try simp only [Act.put, q8a, q8b, q8c]
      refine grow_take 9 (some 25) ?_ rfl rfl (by kernel_rfl) (fun _ _ _ h => h) (by kernel_rfl) hCalm ?_ ?_
      rotate_left
      · intro wS hS; (try dsimp only at hS); go_simp <;> with_reducible rfl
      try simp only [Act.put, q8a, q8b, q8c]
      refine grow_take 10 (some 26) ?_ rfl rfl (by kernel_rfl) (fun _ _ _ h => h) (by kernel_rfl) hCalm ?_ ?_
      rotate_left
      · intro wS hS; (try dsimp only at hS); go_simp <;> with_reducible rfl
      try simp only [Act.put, q8a, q8b, q8c]
      refine grow_take 11 (some 27) ?_ rfl rfl (by kernel_rfl) (fun _ _ _ h => h) (by kernel_rfl) hCalm ?_ ?_
      rotate_left
      · intro wS hS; (try dsimp only at hS); go_simp <;> with_reducible rfl
      try simp only [Act.put, q8a, q8b, q8c]
      refine grow_take 12 (some 28) ?_ rfl rfl (by kernel_rfl) (fun _ _ _ h => h) (by kernel_rfl) hCalm ?_ ?_
      rotate_left
      · intro wS hS; (try dsimp only at hS); go_simp <;> with_reducible rfl
      try simp only [Act.put, q8a, q8b, q8c]
      refine grow_take 14 (some 30) ?_ rfl rfl (by kernel_rfl) (fun _ _ _ h => h) (by kernel_rfl) hCalm ?_ ?_
      rotate_left
      · intro wS hS; (try dsimp only at hS); go_simp <;> with_reducible rfl
      try simp only [Act.put, q8a, q8b, q8c]
      refine grow_take 15 (some 31) ?_ rfl rfl (by kernel_rfl) (fun _ _ _ h => h) (by kernel_rfl) hCalm ?_ ?_
      rotate_left
      · intro wS hS; (try dsimp only at hS); go_simp <;> with_reducible rfl
      try simp only [Act.put, q8a, q8b, q8c]
      refine grow_take 16 (some 32) ?_ rfl rfl (by kernel_rfl) (fun _ _ _ h => h) (by kernel_rfl) hCalm ?_ ?_
      rotate_left
      · intro wS hS; (try dsimp only at hS); go_simp <;> with_reducible rfl
      try simp only [Act.put, q8a, q8b, q8c]
      refine grow_call 13 (some 29) (.int .i64 s1) 10 [.tmp 26, .tmp 27, .tmp 28] #[31, 31, 31] rfl rfl (by kernel_rfl) (fun _ _ _ h => h) (by kernel_rfl) hCalm rfl (enters_of Tryz.func10 (by kernel_rfl) rfl) (fun wz _ => HS1.out wz) (by kernel_rfl) ?_
      try simp only [Act.put, q8a, q8b, q8c]
      refine grow_call 17 (some 33) (.int .i64 s2) 10 [.tmp 30, .tmp 31, .tmp 32] #[31, 31, 31] rfl rfl (by kernel_rfl) (fun _ _ _ h => h) (by kernel_rfl) hCalm rfl (enters_of Tryz.func10 (by kernel_rfl) rfl) (fun wz _ => HS2.out wz) (by kernel_rfl) ?_
      try simp only [Act.put, q8a, q8b, q8c]
      refine grow_take 18 (some 34) ?_ rfl rfl (by kernel_rfl) (fun _ _ _ h => h) (by kernel_rfl) hCalm ?_ ?_
      rotate_left
      · intro wS hS; (try dsimp only at hS); go_simp <;> with_reducible rfl
      try simp only [Act.put, q8a, q8b, q8c]
      refine grow_take 19 (some 35) (.bool false) rfl rfl (by kernel_rfl) (fun _ _ _ h => h) (by kernel_rfl) hCalm ?_ ?_
      · intro wS hS; (try dsimp only at hS); go_simp
      try simp only [Act.put, q8a, q8b, q8c]
      refine grow_take 20 (some 36) ?_ rfl rfl (by kernel_rfl) (fun _ _ _ h => h) (by kernel_rfl) hCalm ?_ ?_
      rotate_left
      · intro wS hS; (try dsimp only at hS); go_simp <;> with_reducible rfl
      try simp only [Act.put, q8a, q8b, q8c]
      refine grow_take 21 (some 37) ?_ rfl rfl (by kernel_rfl) (fun _ _ _ h => h) (by kernel_rfl) hCalm ?_ ?_
      rotate_left
      · intro wS hS; (try dsimp only at hS); go_simp <;> with_reducible rfl
      try simp only [Act.put, q8a, q8b, q8c]
      refine grow_skip 22 (some 38) rfl rfl (by kernel_rfl) (fun _ _ _ h => h) (by kernel_rfl) hCalm ?_
      try simp only [Act.put, q8a, q8b, q8c]
      refine grow_skip 23 (some 39) rfl rfl (by kernel_rfl) (fun _ _ _ h => h) (by kernel_rfl) hCalm ?_
      try simp only [Act.put, q8a, q8b, q8c]
      refine grow_skip 24 (some 40) rfl rfl (by kernel_rfl) (fun _ _ _ h => h) (by kernel_rfl) hCalm ?_
      try simp only [Act.put, q8a, q8b, q8c]
      refine grow_skip 25 (some 41) rfl rfl (by kernel_rfl) (fun _ _ _ h => h) (by kernel_rfl) hCalm ?_
      try simp only [Act.put, q8a, q8b, q8c]
      refine grow_skip 26 (some 42) rfl rfl (by kernel_rfl) (fun _ _ _ h => h) (by kernel_rfl) hCalm ?_
      try simp only [Act.put, q8a, q8b, q8c]
      refine grow_skip 27 (some 43) rfl rfl (by kernel_rfl) (fun _ _ _ h => h) (by kernel_rfl) hCalm ?_
      try simp only [Act.put, q8a, q8b, q8c]
      refine grow_skip 28 (some 44) rfl rfl (by kernel_rfl) (fun _ _ _ h => h) (by kernel_rfl) hCalm ?_
      try simp only [Act.put, q8a, q8b, q8c]
      refine grow_skip 29 (some 45) rfl rfl (by kernel_rfl) (fun _ _ _ h => h) (by kernel_rfl) hCalm ?_
      try simp only [Act.put, q8a, q8b, q8c]
      refine grow_skip 30 (some 46) rfl rfl (by kernel_rfl) (fun _ _ _ h => h) (by kernel_rfl) hCalm ?_
      try simp only [Act.put, q8a, q8b, q8c]
      refine grow_skip 31 (some 47) rfl rfl (by kernel_rfl) (fun _ _ _ h => h) (by kernel_rfl) hCalm ?_
      try simp only [Act.put, q8a, q8b, q8c]
      refine grow_take 32 (some 48) ?_ rfl rfl (by kernel_rfl) (fun _ _ _ h => h) (by kernel_rfl) hCalm ?_ ?_
      rotate_left
      · intro wS hS; (try dsimp only at hS); go_simp <;> with_reducible rfl
      try simp only [Act.put, q8a, q8b, q8c]
      refine grow_take 33 (some 8) ?_ rfl rfl (by kernel_rfl) (fun _ _ _ h => h) (by kernel_rfl) hCalm ?_ ?_
      rotate_left
      · intro wS hS; (try dsimp only at hS); go_simp <;> with_reducible rfl
      try simp only [Act.put, q8a, q8b, q8c]
      refine grow_done (by kernel_rfl) (fun wA hA => ?_) _
      have hsz := HB_1.out.size
      have HBE := Lib.hid (HB_1.out.trans (hA.1.1.mono HB_1.out.size))
      go_wp2_with fail
      go_ret
      exact ⟨rfl, HBE.out⟩
     exact grow_nil
    case pos =>
     rw [decide_eq_true hp1, Bool.true_and]
     have S_0 : Hid (Blk ((((w.alloc (.cells #[.int .i64 a.x, .int .i64 a.y] 31)).alloc (.cells #[.int .i64 b.x, .int .i64 b.y] 31)).alloc (.cells #[.int .i64 c.x, .int .i64 c.y] 31)).alloc (.cells #[.int .i64 d.x, .int .i64 d.y] 31)) w.heap.size 31 #[.int .i64 a.x, .int .i64 a.y]) := allocs_blk [(#[.int .i64 a.x, .int .i64 a.y], 31), (#[.int .i64 b.x, .int .i64 b.y], 31), (#[.int .i64 c.x, .int .i64 c.y], 31), (#[.int .i64 d.x, .int .i64 d.y], 31)] w 0 _ rfl
     have T_0 : Hid (Blk ((((w.alloc (.cells #[.int .i64 a.x, .int .i64 a.y] 31)).alloc (.cells #[.int .i64 b.x, .int .i64 b.y] 31)).alloc (.cells #[.int .i64 c.x, .int .i64 c.y] 31)).alloc (.cells #[.int .i64 d.x, .int .i64 d.y] 31)) (w.heap.size + 1) 31 #[.int .i64 b.x, .int .i64 b.y]) := allocs_blk [(#[.int .i64 a.x, .int .i64 a.y], 31), (#[.int .i64 b.x, .int .i64 b.y], 31), (#[.int .i64 c.x, .int .i64 c.y], 31), (#[.int .i64 d.x, .int .i64 d.y], 31)] w 1 _ rfl
     have U_0 : Hid (Blk ((((w.alloc (.cells #[.int .i64 a.x, .int .i64 a.y] 31)).alloc (.cells #[.int .i64 b.x, .int .i64 b.y] 31)).alloc (.cells #[.int .i64 c.x, .int .i64 c.y] 31)).alloc (.cells #[.int .i64 d.x, .int .i64 d.y] 31)) (w.heap.size + 2) 31 #[.int .i64 c.x, .int .i64 c.y]) := allocs_blk [(#[.int .i64 a.x, .int .i64 a.y], 31), (#[.int .i64 b.x, .int .i64 b.y], 31), (#[.int .i64 c.x, .int .i64 c.y], 31), (#[.int .i64 d.x, .int .i64 d.y], 31)] w 2 _ rfl
     have V_0 : Hid (Blk ((((w.alloc (.cells #[.int .i64 a.x, .int .i64 a.y] 31)).alloc (.cells #[.int .i64 b.x, .int .i64 b.y] 31)).alloc (.cells #[.int .i64 c.x, .int .i64 c.y] 31)).alloc (.cells #[.int .i64 d.x, .int .i64 d.y] 31)) (w.heap.size + 3) 31 #[.int .i64 d.x, .int .i64 d.y]) := allocs_blk [(#[.int .i64 a.x, .int .i64 a.y], 31), (#[.int .i64 b.x, .int .i64 b.y], 31), (#[.int .i64 c.x, .int .i64 c.y], 31), (#[.int .i64 d.x, .int .i64 d.y], 31)] w 3 _ rfl
     have HB_0 : Hid (Below w.heap.size w ((((w.alloc (.cells #[.int .i64 a.x, .int .i64 a.y] 31)).alloc (.cells #[.int .i64 b.x, .int .i64 b.y] 31)).alloc (.cells #[.int .i64 c.x, .int .i64 c.y] 31)).alloc (.cells #[.int .i64 d.x, .int .i64 d.y] 31))) := allocs_below [(#[.int .i64 a.x, .int .i64 a.y], 31), (#[.int .i64 b.x, .int .i64 b.y], 31), (#[.int .i64 c.x, .int .i64 c.y], 31), (#[.int .i64 d.x, .int .i64 d.y], 31)] w (Below.refl w.heap.size w) (Nat.le_refl _)
     go_enter Tryz.func20, Tryz.ntmps20
     have yy0 := S_0.out.cell (i := 0) (v := .int .i64 a.x) rfl; have yy1 := S_0.out.cell (i := 1) (v := .int .i64 a.y) rfl
     have yy2 := T_0.out.cell (i := 0) (v := .int .i64 b.x) rfl; have yy3 := T_0.out.cell (i := 1) (v := .int .i64 b.y) rfl
     have yy4 := U_0.out.cell (i := 0) (v := .int .i64 c.x) rfl; have yy5 := U_0.out.cell (i := 1) (v := .int .i64 c.y) rfl
     have yy6 := V_0.out.cell (i := 0) (v := .int .i64 d.x) rfl; have yy7 := V_0.out.cell (i := 1) (v := .int .i64 d.y) rfl
     have HN : Hid (Pz (((((w.alloc (.cells #[.int .i64 a.x, .int .i64 a.y] 31)).alloc (.cells #[.int .i64 b.x, .int .i64 b.y] 31)).alloc (.cells #[.int .i64 c.x, .int .i64 c.y] 31)).alloc (.cells #[.int .i64 d.x, .int .i64 d.y] 31)).alloc (.cells #[.int .i64 a.x, .int .i64 a.y, .int .i64 b.x, .int .i64 b.y, .int .i64 c.x, .int .i64 c.y, .int .i64 d.x, .int .i64 d.y] 31)) (some ⟨w.heap.size + 4, 0, none⟩) [a, b, c, d]) := Lib.hid (pz_of (l := [a, b, c, d]) (allocs_blk [(#[.int .i64 a.x, .int .i64 a.y], 31), (#[.int .i64 b.x, .int .i64 b.y], 31), (#[.int .i64 c.x, .int .i64 c.y], 31), (#[.int .i64 d.x, .int .i64 d.y], 31), (#[.int .i64 a.x, .int .i64 a.y, .int .i64 b.x, .int .i64 b.y, .int .i64 c.x, .int .i64 c.y, .int .i64 d.x, .int .i64 d.y], 31)] w 4 _ rfl))
     go_wp2_with fail
     refine (arevalid_four a b c d _ _ HN.out true (decide_eq_true hv)).mono ?_
     rintro e v0 ⟨rfl, hb1⟩
     have hb := ((Below.refl ((((w.alloc (.cells #[.int .i64 a.x, .int .i64 a.y] 31)).alloc (.cells #[.int .i64 b.x, .int .i64 b.y] 31)).alloc (.cells #[.int .i64 c.x, .int .i64 c.y] 31)).alloc (.cells #[.int .i64 d.x, .int .i64 d.y] 31)).heap.size ((((w.alloc (.cells #[.int .i64 a.x, .int .i64 a.y] 31)).alloc (.cells #[.int .i64 b.x, .int .i64 b.y] 31)).alloc (.cells #[.int .i64 c.x, .int .i64 c.y] 31)).alloc (.cells #[.int .i64 d.x, .int .i64 d.y] 31))).alloc (Nat.le_refl _) _).trans (hb1.mono (by simp)); clear hb1 HN
     clear yy0 yy1 yy2 yy3 yy4 yy5 yy6 yy7
     have S_1 : Hid (Blk v0 w.heap.size 31 #[.int .i64 a.x, .int .i64 a.y]) := Lib.hid (S_0.out.below hb S_0.out.lt)
     have T_1 : Hid (Blk v0 (w.heap.size + 1) 31 #[.int .i64 b.x, .int .i64 b.y]) := Lib.hid (T_0.out.below hb T_0.out.lt)
     have U_1 : Hid (Blk v0 (w.heap.size + 2) 31 #[.int .i64 c.x, .int .i64 c.y]) := Lib.hid (U_0.out.below hb U_0.out.lt)
     have V_1 : Hid (Blk v0 (w.heap.size + 3) 31 #[.int .i64 d.x, .int .i64 d.y]) := Lib.hid (V_0.out.below hb V_0.out.lt)
     have HB_1 : Hid (Below w.heap.size w v0) := Lib.hid (HB_0.out.trans (hb.mono HB_0.out.size))
     clear hb S_0 T_0 U_0 V_0 HB_0
     go_wp2_with fail
     refine wp_region_grow (S := (fun w' => w'.cell? ⟨w.heap.size, 0, none⟩ = some (.int .i64 a.x) /\ w'.cell? ⟨w.heap.size, 1, none⟩ = some (.int .i64 a.y) /\ w'.cell? ⟨(w.heap.size + 1), 0, none⟩ = some (.int .i64 b.x) /\ w'.cell? ⟨(w.heap.size + 1), 1, none⟩ = some (.int .i64 b.y) /\ w'.cell? ⟨(w.heap.size + 2), 0, none⟩ = some (.int .i64 c.x) /\ w'.cell? ⟨(w.heap.size + 2), 1, none⟩ = some (.int .i64 c.y) /\ w'.cell? ⟨(w.heap.size + 3), 0, none⟩ = some (.int .i64 d.x) /\ w'.cell? ⟨(w.heap.size + 3), 1, none⟩ = some (.int .i64 d.y))) ((fun w' => Below v0.heap.size v0 w')) (by kernel_rfl) (⟨fun w2 h2 => ⟨(S_1.out.below h2 S_1.out.lt).cell (i := 0) (v := .int .i64 a.x) rfl, (S_1.out.below h2 S_1.out.lt).cell (i := 1) (v := .int .i64 a.y) rfl, (T_1.out.below h2 T_1.out.lt).cell (i := 0) (v := .int .i64 b.x) rfl, (T_1.out.below h2 T_1.out.lt).cell (i := 1) (v := .int .i64 b.y) rfl, (U_1.out.below h2 U_1.out.lt).cell (i := 0) (v := .int .i64 c.x) rfl, (U_1.out.below h2 U_1.out.lt).cell (i := 1) (v := .int .i64 c.y) rfl, (V_1.out.below h2 V_1.out.lt).cell (i := 0) (v := .int .i64 d.x) rfl, (V_1.out.below h2 V_1.out.lt).cell (i := 1) (v := .int .i64 d.y) rfl⟩, fun w2 w3 h2 hb2 => h2.trans (hb2.mono h2.size)⟩) ((Below.refl v0.heap.size v0).drew) (fun hCalm => ?_)
     refine grow_take 0 (some 16) ?_ rfl rfl (by kernel_rfl) (fun _ _ _ h => h) (by kernel_rfl) hCalm ?_ ?_
     rotate_left
     · intro wS hS; (try dsimp only at hS); go_simp <;> with_reducible rfl
     try simp only [Act.put, q8a, q8b, q8c]
     refine grow_take 1 (some 17) ?_ rfl rfl (by kernel_rfl) (fun _ _ _ h => h) (by kernel_rfl) hCalm ?_ ?_
     rotate_left
     · intro wS hS; (try dsimp only at hS); go_simp <;> with_reducible rfl
     try simp only [Act.put, q8a, q8b, q8c]
     refine grow_take 4 (some 20) ?_ rfl rfl (by kernel_rfl) (fun _ _ _ h => h) (by kernel_rfl) hCalm ?_ ?_
     rotate_left
     · intro wS hS; (try dsimp only at hS); go_simp <;> with_reducible rfl
     try simp only [Act.put, q8a, q8b, q8c]
     refine grow_take 5 (some 21) ?_ rfl rfl (by kernel_rfl) (fun _ _ _ h => h) (by kernel_rfl) hCalm ?_ ?_
     rotate_left
     · intro wS hS; (try dsimp only at hS); go_simp <;> with_reducible rfl
     try simp only [Act.put, q8a, q8b, q8c]
     refine grow_each [2, 6] (by kernel_rfl) (by decide) ?_
     refine grow_cons 2 rfl (by kernel_rfl) (fun wA hA K hK => ?_) ?_
     case _ =>
      obtain ⟨pX, hpX⟩ : ∃ b, b = wA.heap.size := ⟨_, rfl⟩
      have le_pX : v0.heap.size <= pX := by rw [hpX]; exact hA.size
      have hnew : Blk (wA.alloc (.cells #[.int .i64 a.x, .int .i64 a.y, .int .i64 b.x, .int .i64 b.y] 31)) pX 31 #[.int .i64 a.x, .int .i64 a.y, .int .i64 b.x, .int .i64 b.y] := by rw [hpX]; exact Blk.new wA _ _
      go_simp
      rw [<- hpX]
      refine grow_new hK hCalm hA hnew (fun h9 => ?_)
      clear hCalm hnew hpX hK K hA wA; have hCalm := h9; clear h9
      try simp only [Act.put, q8a, q8b, q8c]
      refine grow_more3 (fun w' => Pz w' (some ⟨pX, 0, none⟩) [a, b]) hCalm (fun wz hz => pz_of (l := [a, b]) hz.2) (fun h9 => ?_)
      clear hCalm; have hCalm := h9; clear h9
      refine grow_call 3 (some 19) (r7v (ar7 a [a, b])) 34 [.tmp 18] #[24] rfl rfl (by kernel_rfl) (fun _ _ _ h => h) (by kernel_rfl) hCalm rfl (enters_of Tryz.func34 (by kernel_rfl) rfl) (fun wz hS => paround_two a b _ wz (by first | exact hS.2 | exact hS.1.2) hv.1 hv.2.1) (by kernel_rfl) ?_
      try simp only [Act.put, q8a, q8b, q8c]
      refine grow_each [6] (by kernel_rfl) (by decide) ?_
      refine grow_cons 6 rfl (by kernel_rfl) (fun wA hA K hK => ?_) grow_nil
      obtain ⟨pY, hpY⟩ : ∃ b, b = wA.heap.size := ⟨_, rfl⟩
      have le_pY : v0.heap.size <= pY := by rw [hpY]; exact hA.1.size
      have lt_X_pY : pX < pY := by rw [hpY]; exact hA.2.lt
      have hnew : Blk (wA.alloc (.cells #[.int .i64 c.x, .int .i64 c.y, .int .i64 d.x, .int .i64 d.y] 31)) pY 31 #[.int .i64 c.x, .int .i64 c.y, .int .i64 d.x, .int .i64 d.y] := by rw [hpY]; exact Blk.new wA _ _
      go_simp
      rw [<- hpY]
      refine grow_new hK hCalm hA hnew (fun h9 => ?_)
      clear hCalm hnew hpY hK K hA wA; have hCalm := h9; clear h9
      try simp only [Act.put, q8a, q8b, q8c]
      refine grow_more3 (fun w' => Pz w' (some ⟨pY, 0, none⟩) [c, d]) hCalm (fun wz hz => pz_of (l := [c, d]) hz.2) (fun h9 => ?_)
      clear hCalm; have hCalm := h9; clear h9
      refine grow_call 7 (some 23) (r7v (ar7 c [c, d])) 34 [.tmp 22] #[24] rfl rfl (by kernel_rfl) (fun _ _ _ h => h) (by kernel_rfl) hCalm rfl (enters_of Tryz.func34 (by kernel_rfl) rfl) (fun wz hS => paround_two c d _ wz (by first | exact hS.2 | exact hS.1.2) hv.2.2.1 hv.2.2.2) (by kernel_rfl) ?_
      try simp only [Act.put, q8a, q8b, q8c]
      refine grow_call 8 (some 24) (.bool true) 13 [.tmp 19, .tmp 23] #[39, 39] rfl rfl (by kernel_rfl) (fun _ _ _ h => h) (by kernel_rfl) hCalm rfl (enters_of Tryz.func13 (by kernel_rfl) rfl) (fun wz _ => (touch_any (ar7 a [a, b]) (ar7 c [c, d]) wz).eq (by rw [ht])) (by kernel_rfl) ?_
      try simp only [Act.put, q8a, q8b, q8c]
      refine grow_take 9 (some 25) ?_ rfl rfl (by kernel_rfl) (fun _ _ _ h => h) (by kernel_rfl) hCalm ?_ ?_
      rotate_left
      · intro wS hS; (try dsimp only at hS); go_simp <;> with_reducible rfl
      try simp only [Act.put, q8a, q8b, q8c]
      refine grow_take 10 (some 26) ?_ rfl rfl (by kernel_rfl) (fun _ _ _ h => h) (by kernel_rfl) hCalm ?_ ?_
      rotate_left
      · intro wS hS; (try dsimp only at hS); go_simp <;> with_reducible rfl
      try simp only [Act.put, q8a, q8b, q8c]
      refine grow_take 11 (some 27) ?_ rfl rfl (by kernel_rfl) (fun _ _ _ h => h) (by kernel_rfl) hCalm ?_ ?_
      rotate_left
      · intro wS hS; (try dsimp only at hS); go_simp <;> with_reducible rfl
      try simp only [Act.put, q8a, q8b, q8c]
      refine grow_take 12 (some 28) ?_ rfl rfl (by kernel_rfl) (fun _ _ _ h => h) (by kernel_rfl) hCalm ?_ ?_
      rotate_left
      · intro wS hS; (try dsimp only at hS); go_simp <;> with_reducible rfl
      try simp only [Act.put, q8a, q8b, q8c]
      refine grow_take 14 (some 30) ?_ rfl rfl (by kernel_rfl) (fun _ _ _ h => h) (by kernel_rfl) hCalm ?_ ?_
      rotate_left
      · intro wS hS; (try dsimp only at hS); go_simp <;> with_reducible rfl
      try simp only [Act.put, q8a, q8b, q8c]
      refine grow_take 15 (some 31) ?_ rfl rfl (by kernel_rfl) (fun _ _ _ h => h) (by kernel_rfl) hCalm ?_ ?_
      rotate_left
      · intro wS hS; (try dsimp only at hS); go_simp <;> with_reducible rfl
      try simp only [Act.put, q8a, q8b, q8c]
      refine grow_take 16 (some 32) ?_ rfl rfl (by kernel_rfl) (fun _ _ _ h => h) (by kernel_rfl) hCalm ?_ ?_
      rotate_left
      · intro wS hS; (try dsimp only at hS); go_simp <;> with_reducible rfl
      try simp only [Act.put, q8a, q8b, q8c]
      refine grow_call 13 (some 29) (.int .i64 s1) 10 [.tmp 26, .tmp 27, .tmp 28] #[31, 31, 31] rfl rfl (by kernel_rfl) (fun _ _ _ h => h) (by kernel_rfl) hCalm rfl (enters_of Tryz.func10 (by kernel_rfl) rfl) (fun wz _ => HS1.out wz) (by kernel_rfl) ?_
      try simp only [Act.put, q8a, q8b, q8c]
      refine grow_call 17 (some 33) (.int .i64 s2) 10 [.tmp 30, .tmp 31, .tmp 32] #[31, 31, 31] rfl rfl (by kernel_rfl) (fun _ _ _ h => h) (by kernel_rfl) hCalm rfl (enters_of Tryz.func10 (by kernel_rfl) rfl) (fun wz _ => HS2.out wz) (by kernel_rfl) ?_
      try simp only [Act.put, q8a, q8b, q8c]
      refine grow_take 18 (some 34) ?_ rfl rfl (by kernel_rfl) (fun _ _ _ h => h) (by kernel_rfl) hCalm ?_ ?_
      rotate_left
      · intro wS hS; (try dsimp only at hS); go_simp <;> with_reducible rfl
      try simp only [Act.put, q8a, q8b, q8c]
      refine grow_take 19 (some 35) (.bool true) rfl rfl (by kernel_rfl) (fun _ _ _ h => h) (by kernel_rfl) hCalm ?_ ?_
      · intro wS hS; (try dsimp only at hS); go_simp
      try simp only [Act.put, q8a, q8b, q8c]
      refine grow_take 20 (some 36) ?_ rfl rfl (by kernel_rfl) (fun _ _ _ h => h) (by kernel_rfl) hCalm ?_ ?_
      rotate_left
      · intro wS hS; (try dsimp only at hS); go_simp <;> with_reducible rfl
      try simp only [Act.put, q8a, q8b, q8c]
      refine grow_take 21 (some 37) ?_ rfl rfl (by kernel_rfl) (fun _ _ _ h => h) (by kernel_rfl) hCalm ?_ ?_
      rotate_left
      · intro wS hS; (try dsimp only at hS); go_simp <;> with_reducible rfl
      try simp only [Act.put, q8a, q8b, q8c]
      refine grow_take 22 (some 38) ?_ rfl rfl (by kernel_rfl) (fun _ _ _ h => h) (by kernel_rfl) hCalm ?_ ?_
      rotate_left
      · intro wS hS; (try dsimp only at hS); go_simp <;> with_reducible rfl
      try simp only [Act.put, q8a, q8b, q8c]
      refine grow_take 23 (some 39) ?_ rfl rfl (by kernel_rfl) (fun _ _ _ h => h) (by kernel_rfl) hCalm ?_ ?_
      rotate_left
      · intro wS hS; (try dsimp only at hS); go_simp <;> with_reducible rfl
      try simp only [Act.put, q8a, q8b, q8c]
      refine grow_take 24 (some 40) ?_ rfl rfl (by kernel_rfl) (fun _ _ _ h => h) (by kernel_rfl) hCalm ?_ ?_
      rotate_left
      · intro wS hS; (try dsimp only at hS); go_simp <;> with_reducible rfl
      try simp only [Act.put, q8a, q8b, q8c]
      refine grow_take 26 (some 42) ?_ rfl rfl (by kernel_rfl) (fun _ _ _ h => h) (by kernel_rfl) hCalm ?_ ?_
      rotate_left
      · intro wS hS; (try dsimp only at hS); go_simp <;> with_reducible rfl
      try simp only [Act.put, q8a, q8b, q8c]
      refine grow_take 27 (some 43) ?_ rfl rfl (by kernel_rfl) (fun _ _ _ h => h) (by kernel_rfl) hCalm ?_ ?_
      rotate_left
      · intro wS hS; (try dsimp only at hS); go_simp <;> with_reducible rfl
      try simp only [Act.put, q8a, q8b, q8c]
      refine grow_take 28 (some 44) ?_ rfl rfl (by kernel_rfl) (fun _ _ _ h => h) (by kernel_rfl) hCalm ?_ ?_
      rotate_left
      · intro wS hS; (try dsimp only at hS); go_simp <;> with_reducible rfl
      try simp only [Act.put, q8a, q8b, q8c]
      refine grow_call 25 (some 41) (.int .i64 s3) 10 [.tmp 38, .tmp 39, .tmp 40] #[31, 31, 31] rfl rfl (by kernel_rfl) (fun _ _ _ h => h) (by kernel_rfl) hCalm rfl (enters_of Tryz.func10 (by kernel_rfl) rfl) (fun wz _ => HS3.out wz) (by kernel_rfl) ?_
      try simp only [Act.put, q8a, q8b, q8c]
      refine grow_call 29 (some 45) (.int .i64 s4) 10 [.tmp 42, .tmp 43, .tmp 44] #[31, 31, 31] rfl rfl (by kernel_rfl) (fun _ _ _ h => h) (by kernel_rfl) hCalm rfl (enters_of Tryz.func10 (by kernel_rfl) rfl) (fun wz _ => HS4.out wz) (by kernel_rfl) ?_
      try simp only [Act.put, q8a, q8b, q8c]
      refine grow_take 30 (some 46) ?_ rfl rfl (by kernel_rfl) (fun _ _ _ h => h) (by kernel_rfl) hCalm ?_ ?_
      rotate_left
      · intro wS hS; (try dsimp only at hS); go_simp <;> with_reducible rfl
      try simp only [Act.put, q8a, q8b, q8c]
      refine grow_take 31 (some 47) ?_ rfl rfl (by kernel_rfl) (fun _ _ _ h => h) (by kernel_rfl) hCalm ?_ ?_
      rotate_left
      · intro wS hS; (try dsimp only at hS); go_simp <;> with_reducible rfl
      try simp only [Act.put, q8a, q8b, q8c]
      refine grow_take 32 (some 48) ?_ rfl rfl (by kernel_rfl) (fun _ _ _ h => h) (by kernel_rfl) hCalm ?_ ?_
      rotate_left
      · intro wS hS; (try dsimp only at hS); go_simp <;> with_reducible rfl
      try simp only [Act.put, q8a, q8b, q8c]
      refine grow_take 33 (some 8) ?_ rfl rfl (by kernel_rfl) (fun _ _ _ h => h) (by kernel_rfl) hCalm ?_ ?_
      rotate_left
      · intro wS hS; (try dsimp only at hS); go_simp <;> with_reducible rfl
      try simp only [Act.put, q8a, q8b, q8c]
      refine grow_done (by kernel_rfl) (fun wA hA => ?_) _
      have hsz := HB_1.out.size
      have HBE := Lib.hid (HB_1.out.trans (hA.1.1.mono HB_1.out.size))
      go_wp2_with fail
      go_ret
      exact ⟨rfl, HBE.out⟩
     refine grow_cons 6 rfl (by kernel_rfl) (fun wA hA K hK => ?_) ?_
     case _ =>
      obtain ⟨pY, hpY⟩ : ∃ b, b = wA.heap.size := ⟨_, rfl⟩
      have le_pY : v0.heap.size <= pY := by rw [hpY]; exact hA.size
      have hnew : Blk (wA.alloc (.cells #[.int .i64 c.x, .int .i64 c.y, .int .i64 d.x, .int .i64 d.y] 31)) pY 31 #[.int .i64 c.x, .int .i64 c.y, .int .i64 d.x, .int .i64 d.y] := by rw [hpY]; exact Blk.new wA _ _
      go_simp
      rw [<- hpY]
      refine grow_new hK hCalm hA hnew (fun h9 => ?_)
      clear hCalm hnew hpY hK K hA wA; have hCalm := h9; clear h9
      try simp only [Act.put, q8a, q8b, q8c]
      refine grow_more3 (fun w' => Pz w' (some ⟨pY, 0, none⟩) [c, d]) hCalm (fun wz hz => pz_of (l := [c, d]) hz.2) (fun h9 => ?_)
      clear hCalm; have hCalm := h9; clear h9
      refine grow_each [2] (by kernel_rfl) (by decide) ?_
      refine grow_cons 2 rfl (by kernel_rfl) (fun wA hA K hK => ?_) grow_nil
      obtain ⟨pX, hpX⟩ : ∃ b, b = wA.heap.size := ⟨_, rfl⟩
      have le_pX : v0.heap.size <= pX := by rw [hpX]; exact hA.1.size
      have lt_Y_pX : pY < pX := by rw [hpX]; exact hA.2.lt
      have hnew : Blk (wA.alloc (.cells #[.int .i64 a.x, .int .i64 a.y, .int .i64 b.x, .int .i64 b.y] 31)) pX 31 #[.int .i64 a.x, .int .i64 a.y, .int .i64 b.x, .int .i64 b.y] := by rw [hpX]; exact Blk.new wA _ _
      go_simp
      rw [<- hpX]
      refine grow_new hK hCalm hA hnew (fun h9 => ?_)
      clear hCalm hnew hpX hK K hA wA; have hCalm := h9; clear h9
      try simp only [Act.put, q8a, q8b, q8c]
      refine grow_more3 (fun w' => Pz w' (some ⟨pX, 0, none⟩) [a, b]) hCalm (fun wz hz => pz_of (l := [a, b]) hz.2) (fun h9 => ?_)
      clear hCalm; have hCalm := h9; clear h9
      refine grow_call 3 (some 19) (r7v (ar7 a [a, b])) 34 [.tmp 18] #[24] rfl rfl (by kernel_rfl) (fun _ _ _ h => h) (by kernel_rfl) hCalm rfl (enters_of Tryz.func34 (by kernel_rfl) rfl) (fun wz hS => paround_two a b _ wz (by first | exact hS.2 | exact hS.1.2) hv.1 hv.2.1) (by kernel_rfl) ?_
      try simp only [Act.put, q8a, q8b, q8c]
      refine grow_call 7 (some 23) (r7v (ar7 c [c, d])) 34 [.tmp 22] #[24] rfl rfl (by kernel_rfl) (fun _ _ _ h => h) (by kernel_rfl) hCalm rfl (enters_of Tryz.func34 (by kernel_rfl) rfl) (fun wz hS => paround_two c d _ wz (by first | exact hS.2 | exact hS.1.2) hv.2.2.1 hv.2.2.2) (by kernel_rfl) ?_
      try simp only [Act.put, q8a, q8b, q8c]
      refine grow_call 8 (some 24) (.bool true) 13 [.tmp 19, .tmp 23] #[39, 39] rfl rfl (by kernel_rfl) (fun _ _ _ h => h) (by kernel_rfl) hCalm rfl (enters_of Tryz.func13 (by kernel_rfl) rfl) (fun wz _ => (touch_any (ar7 a [a, b]) (ar7 c [c, d]) wz).eq (by rw [ht])) (by kernel_rfl) ?_
      try simp only [Act.put, q8a, q8b, q8c]
      refine grow_take 9 (some 25) ?_ rfl rfl (by kernel_rfl) (fun _ _ _ h => h) (by kernel_rfl) hCalm ?_ ?_
      rotate_left
      · intro wS hS; (try dsimp only at hS); go_simp <;> with_reducible rfl
      try simp only [Act.put, q8a, q8b, q8c]
      refine grow_take 10 (some 26) ?_ rfl rfl (by kernel_rfl) (fun _ _ _ h => h) (by kernel_rfl) hCalm ?_ ?_
      rotate_left
      · intro wS hS; (try dsimp only at hS); go_simp <;> with_reducible rfl
      try simp only [Act.put, q8a, q8b, q8c]
      refine grow_take 11 (some 27) ?_ rfl rfl (by kernel_rfl) (fun _ _ _ h => h) (by kernel_rfl) hCalm ?_ ?_
      rotate_left
      · intro wS hS; (try dsimp only at hS); go_simp <;> with_reducible rfl
      try simp only [Act.put, q8a, q8b, q8c]
      refine grow_take 12 (some 28) ?_ rfl rfl (by kernel_rfl) (fun _ _ _ h => h) (by kernel_rfl) hCalm ?_ ?_
      rotate_left
      · intro wS hS; (try dsimp only at hS); go_simp <;> with_reducible rfl
      try simp only [Act.put, q8a, q8b, q8c]
      refine grow_take 14 (some 30) ?_ rfl rfl (by kernel_rfl) (fun _ _ _ h => h) (by kernel_rfl) hCalm ?_ ?_
      rotate_left
      · intro wS hS; (try dsimp only at hS); go_simp <;> with_reducible rfl
      try simp only [Act.put, q8a, q8b, q8c]
      refine grow_take 15 (some 31) ?_ rfl rfl (by kernel_rfl) (fun _ _ _ h => h) (by kernel_rfl) hCalm ?_ ?_
      rotate_left
      · intro wS hS; (try dsimp only at hS); go_simp <;> with_reducible rfl
      try simp only [Act.put, q8a, q8b, q8c]
      refine grow_take 16 (some 32) ?_ rfl rfl (by kernel_rfl) (fun _ _ _ h => h) (by kernel_rfl) hCalm ?_ ?_
      rotate_left
      · intro wS hS; (try dsimp only at hS); go_simp <;> with_reducible rfl
      try simp only [Act.put, q8a, q8b, q8c]
      refine grow_call 13 (some 29) (.int .i64 s1) 10 [.tmp 26, .tmp 27, .tmp 28] #[31, 31, 31] rfl rfl (by kernel_rfl) (fun _ _ _ h => h) (by kernel_rfl) hCalm rfl (enters_of Tryz.func10 (by kernel_rfl) rfl) (fun wz _ => HS1.out wz) (by kernel_rfl) ?_
      try simp only [Act.put, q8a, q8b, q8c]
      refine grow_call 17 (some 33) (.int .i64 s2) 10 [.tmp 30, .tmp 31, .tmp 32] #[31, 31, 31] rfl rfl (by kernel_rfl) (fun _ _ _ h => h) (by kernel_rfl) hCalm rfl (enters_of Tryz.func10 (by kernel_rfl) rfl) (fun wz _ => HS2.out wz) (by kernel_rfl) ?_
      try simp only [Act.put, q8a, q8b, q8c]
      refine grow_take 18 (some 34) ?_ rfl rfl (by kernel_rfl) (fun _ _ _ h => h) (by kernel_rfl) hCalm ?_ ?_
      rotate_left
      · intro wS hS; (try dsimp only at hS); go_simp <;> with_reducible rfl
      try simp only [Act.put, q8a, q8b, q8c]
      refine grow_take 19 (some 35) (.bool true) rfl rfl (by kernel_rfl) (fun _ _ _ h => h) (by kernel_rfl) hCalm ?_ ?_
      · intro wS hS; (try dsimp only at hS); go_simp
      try simp only [Act.put, q8a, q8b, q8c]
      refine grow_take 20 (some 36) ?_ rfl rfl (by kernel_rfl) (fun _ _ _ h => h) (by kernel_rfl) hCalm ?_ ?_
      rotate_left
      · intro wS hS; (try dsimp only at hS); go_simp <;> with_reducible rfl
      try simp only [Act.put, q8a, q8b, q8c]
      refine grow_take 21 (some 37) ?_ rfl rfl (by kernel_rfl) (fun _ _ _ h => h) (by kernel_rfl) hCalm ?_ ?_
      rotate_left
      · intro wS hS; (try dsimp only at hS); go_simp <;> with_reducible rfl
      try simp only [Act.put, q8a, q8b, q8c]
      refine grow_take 22 (some 38) ?_ rfl rfl (by kernel_rfl) (fun _ _ _ h => h) (by kernel_rfl) hCalm ?_ ?_
      rotate_left
      · intro wS hS; (try dsimp only at hS); go_simp <;> with_reducible rfl
      try simp only [Act.put, q8a, q8b, q8c]
      refine grow_take 23 (some 39) ?_ rfl rfl (by kernel_rfl) (fun _ _ _ h => h) (by kernel_rfl) hCalm ?_ ?_
      rotate_left
      · intro wS hS; (try dsimp only at hS); go_simp <;> with_reducible rfl
      try simp only [Act.put, q8a, q8b, q8c]
      refine grow_take 24 (some 40) ?_ rfl rfl (by kernel_rfl) (fun _ _ _ h => h) (by kernel_rfl) hCalm ?_ ?_
      rotate_left
      · intro wS hS; (try dsimp only at hS); go_simp <;> with_reducible rfl
      try simp only [Act.put, q8a, q8b, q8c]
      refine grow_take 26 (some 42) ?_ rfl rfl (by kernel_rfl) (fun _ _ _ h => h) (by kernel_rfl) hCalm ?_ ?_
      rotate_left
      · intro wS hS; (try dsimp only at hS); go_simp <;> with_reducible rfl
      try simp only [Act.put, q8a, q8b, q8c]
      refine grow_take 27 (some 43) ?_ rfl rfl (by kernel_rfl) (fun _ _ _ h => h) (by kernel_rfl) hCalm ?_ ?_
      rotate_left
      · intro wS hS; (try dsimp only at hS); go_simp <;> with_reducible rfl
      try simp only [Act.put, q8a, q8b, q8c]
      refine grow_take 28 (some 44) ?_ rfl rfl (by kernel_rfl) (fun _ _ _ h => h) (by kernel_rfl) hCalm ?_ ?_
      rotate_left
      · intro wS hS; (try dsimp only at hS); go_simp <;> with_reducible rfl
      try simp only [Act.put, q8a, q8b, q8c]
      refine grow_call 25 (some 41) (.int .i64 s3) 10 [.tmp 38, .tmp 39, .tmp 40] #[31, 31, 31] rfl rfl (by kernel_rfl) (fun _ _ _ h => h) (by kernel_rfl) hCalm rfl (enters_of Tryz.func10 (by kernel_rfl) rfl) (fun wz _ => HS3.out wz) (by kernel_rfl) ?_
      try simp only [Act.put, q8a, q8b, q8c]
      refine grow_call 29 (some 45) (.int .i64 s4) 10 [.tmp 42, .tmp 43, .tmp 44] #[31, 31, 31] rfl rfl (by kernel_rfl) (fun _ _ _ h => h) (by kernel_rfl) hCalm rfl (enters_of Tryz.func10 (by kernel_rfl) rfl) (fun wz _ => HS4.out wz) (by kernel_rfl) ?_
      try simp only [Act.put, q8a, q8b, q8c]
      refine grow_take 30 (some 46) ?_ rfl rfl (by kernel_rfl) (fun _ _ _ h => h) (by kernel_rfl) hCalm ?_ ?_
      rotate_left
      · intro wS hS; (try dsimp only at hS); go_simp <;> with_reducible rfl
      try simp only [Act.put, q8a, q8b, q8c]
      refine grow_take 31 (some 47) ?_ rfl rfl (by kernel_rfl) (fun _ _ _ h => h) (by kernel_rfl) hCalm ?_ ?_
      rotate_left
      · intro wS hS; (try dsimp only at hS); go_simp <;> with_reducible rfl
      try simp only [Act.put, q8a, q8b, q8c]
      refine grow_take 32 (some 48) ?_ rfl rfl (by kernel_rfl) (fun _ _ _ h => h) (by kernel_rfl) hCalm ?_ ?_
      rotate_left
      · intro wS hS; (try dsimp only at hS); go_simp <;> with_reducible rfl
      try simp only [Act.put, q8a, q8b, q8c]
      refine grow_take 33 (some 8) ?_ rfl rfl (by kernel_rfl) (fun _ _ _ h => h) (by kernel_rfl) hCalm ?_ ?_
      rotate_left
      · intro wS hS; (try dsimp only at hS); go_simp <;> with_reducible rfl
      try simp only [Act.put, q8a, q8b, q8c]
      refine grow_done (by kernel_rfl) (fun wA hA => ?_) _
      have hsz := HB_1.out.size
      have HBE := Lib.hid (HB_1.out.trans (hA.1.1.mono HB_1.out.size))
      go_wp2_with fail
      go_ret
      exact ⟨rfl, HBE.out⟩
     exact grow_nil
end Go.Proofs.YtpjbihfkedbenaaGreat
