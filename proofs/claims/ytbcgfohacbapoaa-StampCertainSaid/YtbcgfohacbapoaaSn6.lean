
/- The examples of the statements' package hold (sane). No conditions. -/
import Derived.Test.YtbcgfohacbapoaaSe6
namespace Go.Proofs.Ytbcgfohacbapoaa
open Go.RowKit Go.Lib

theorem sane_b1 (W : World) : Calls Try.prog 48 #[smv sb, smv sa] W fun e w' => e = .returned (.bool true) ∧ Below W.heap.size W w' := pbef6_any sb sa W
theorem sane_b2 (W : World) : Calls Try.prog 48 #[smv sa, smv sb] W fun e w' => e = .returned (.bool false) ∧ Below W.heap.size W w' := pbef6_any sa sb W
theorem sane_v1 (W : World) : Calls Try.prog 50 #[smv sa] W fun e w' => e = .returned (.bool true) ∧ Below W.heap.size W w' := by
  have := pvalid6_any sa W; rwa [decide_eq_true (by decide)] at this
theorem sane_v2 (W : World) : Calls Try.prog 50 #[.agg #[.int .i64 0, .int .i64 0, .int .i64 0]] W fun e w' => e = .returned (.bool false) ∧ Below W.heap.size W w' := by
  have := pvalid6_any ⟨0, 0, 0⟩ W; rwa [decide_eq_false (by decide)] at this
theorem sane_s (W : World) (p : Nat) (h : Smz W (some ⟨p, 0, none⟩) [sa, sb]) : Calls Try.prog 43 #[.slice (some ⟨p, 0, none⟩) 2 2] W fun e w' => (∃ A c, e = .returned (.slice A 2 c) ∧ Smz w' A [sb, sa]) ∧ Below W.heap.size W w' := by
  refine (psorted_any [sa, sb] (some ⟨p, 0, none⟩) 2 W ⟨h, by simp, by simp, by decide⟩ (by simp)).mono ?_
  rintro e w' ⟨⟨out, hs, A, c, rfl, hz, _⟩, hb⟩
  have h2 : IsSrt [sa, sb] [sb, sa] := ⟨List.Perm.swap _ _ _, by
    rw [List.pairwise_cons]
    refine ⟨fun z hz => ?_, List.pairwise_singleton _ _⟩
    simp at hz; subst hz; rfl⟩
  have := hs.unique h2
  subst this
  exact ⟨⟨A, c, rfl, hz⟩, hb⟩
theorem sane_e (W : World) (A : Option Addr) (c p : Nat) (h1 : Smz W A [sb, sa]) (h2 : Smz W (some ⟨p, 0, none⟩) [sb, sa]) : Calls Try.prog 42 #[.slice A 2 c, .slice (some ⟨p, 0, none⟩) 2 2] W fun e w' => e = .returned (.bool true) ∧ Below W.heap.size W w' := by
  have := rsamestamps_any [sb, sa] [sb, sa] A (some ⟨p, 0, none⟩) c 2 W h1 h2 (by simp) (by simp)
  rwa [decide_eq_true rfl] at this
theorem sane_k (W : World) (p q : Nat) (h1 : Kz W (some ⟨p, 0, none⟩) t0) (h2 : Kz W (some ⟨q, 0, none⟩) t0) : Calls Try.prog 56 #[.slice (some ⟨p, 0, none⟩) 2 2, .slice (some ⟨q, 0, none⟩) 2 2] W fun e w' => e = .returned (.bool true) ∧ Below W.heap.size W w' := by
  have := rsameskews_any t0 t0 (some ⟨p, 0, none⟩) (some ⟨q, 0, none⟩) 2 2 W h1 h2 (by simp) (by simp)
  rwa [decide_eq_true rfl] at this
set_option maxRecDepth 100000 in
set_option maxHeartbeats 16000000 in
theorem rexample_any (w : World) : Calls Try.prog 86 #[] w fun e w' => (∃ g1 g2, e = .returned (.tuple #[.slice (some ⟨g1, 0, none⟩) 2 2, .slice (some ⟨g2, 0, none⟩) 2 2]) ∧ Kz w' (some ⟨g1, 0, none⟩) l0 ∧ Mz w' (some ⟨g2, 0, none⟩) m0) ∧ Below w.heap.size w w' := by
  have K_0 : Hid (Blk ((w.alloc (.cells #[.int .i64 1, .int .i64 0, .int .i64 10, .int .i64 2, .int .i64 (-5), .int .i64 5] 77)).alloc (.cells #[.int .i64 1, .int .i64 108, .int .i64 2, .int .i64 100, .int .i64 1, .int .i64 200, .int .i64 2, .int .i64 201] 79)) w.heap.size 77 #[.int .i64 1, .int .i64 0, .int .i64 10, .int .i64 2, .int .i64 (-5), .int .i64 5]) := allocs_blk [(#[.int .i64 1, .int .i64 0, .int .i64 10, .int .i64 2, .int .i64 (-5), .int .i64 5], 77), (#[.int .i64 1, .int .i64 108, .int .i64 2, .int .i64 100, .int .i64 1, .int .i64 200, .int .i64 2, .int .i64 201], 79)] w 0 _ rfl
  have M_0 : Hid (Blk ((w.alloc (.cells #[.int .i64 1, .int .i64 0, .int .i64 10, .int .i64 2, .int .i64 (-5), .int .i64 5] 77)).alloc (.cells #[.int .i64 1, .int .i64 108, .int .i64 2, .int .i64 100, .int .i64 1, .int .i64 200, .int .i64 2, .int .i64 201] 79)) (w.heap.size + 1) 79 #[.int .i64 1, .int .i64 108, .int .i64 2, .int .i64 100, .int .i64 1, .int .i64 200, .int .i64 2, .int .i64 201]) := allocs_blk [(#[.int .i64 1, .int .i64 0, .int .i64 10, .int .i64 2, .int .i64 (-5), .int .i64 5], 77), (#[.int .i64 1, .int .i64 108, .int .i64 2, .int .i64 100, .int .i64 1, .int .i64 200, .int .i64 2, .int .i64 201], 79)] w 1 _ rfl
  have HB_0 : Hid (Below w.heap.size w ((w.alloc (.cells #[.int .i64 1, .int .i64 0, .int .i64 10, .int .i64 2, .int .i64 (-5), .int .i64 5] 77)).alloc (.cells #[.int .i64 1, .int .i64 108, .int .i64 2, .int .i64 100, .int .i64 1, .int .i64 200, .int .i64 2, .int .i64 201] 79))) := allocs_below [(#[.int .i64 1, .int .i64 0, .int .i64 10, .int .i64 2, .int .i64 (-5), .int .i64 5], 77), (#[.int .i64 1, .int .i64 108, .int .i64 2, .int .i64 100, .int .i64 1, .int .i64 200, .int .i64 2, .int .i64 201], 79)] w (Below.refl w.heap.size w) (Nat.le_refl _)
  go_enter Try.func86, Try.ntmps86
  go_wp2_with fail
  exact bodyPost_ret (v := .tuple #[.slice (some ⟨w.heap.size, 0, none⟩) 2 2, .slice (some ⟨w.heap.size + 1, 0, none⟩) 2 2]) (by kernel_rfl) rfl ⟨⟨_, _, rfl, rz_of_cells (l := l0) (cs := skc) (k := 3) (fun _ => rfl) K_0.out, rz_of_cells (l := m0) (cs := mtc) (k := 4) (fun _ => rfl) M_0.out⟩, HB_0.out⟩
set_option maxRecDepth 100000 in
set_option maxHeartbeats 16000000 in
theorem sane6_any (w : World) : Calls Try.prog 40 #[] w fun e w' => e = .returned (.bool true) ∧ Below w.heap.size w w' := by
  have HB_0 : Hid (Below w.heap.size w w) := Below.refl _ _
  go_enter Try.func40, Try.ntmps40
  go_wp2_with fail
  refine (rexample_any _).mono ?_
  rintro e v0 ⟨⟨g1, g2, rfl, hk, hm⟩, hb⟩
  have FK_0 := Lib.hid hk
  have FM_0 := Lib.hid hm
  have FK_1 : Hid (Kz v0 (some ⟨g1, 0, none⟩) l0) := Lib.hid FK_0.out
  have FM_1 : Hid (Mz v0 (some ⟨g2, 0, none⟩) m0) := Lib.hid FM_0.out
  clear FK_0 FM_0
  have HB_1 : Hid (Below w.heap.size w v0) := Lib.hid (HB_0.out.trans (hb.mono HB_0.out.size))
  clear hb HB_0
  go_wp2_with fail
  refine (sane_t1 _ g1 g2 FK_1.out FM_1.out).mono ?_
  rintro e v1 ⟨⟨g3, rfl, ht⟩, hb⟩
  have FT_1 := Lib.hid ht
  have FK_2 : Hid (Kz v1 (some ⟨g1, 0, none⟩) l0) := Lib.hid (FK_1.out.below hb (Nat.le_refl _))
  have FM_2 : Hid (Mz v1 (some ⟨g2, 0, none⟩) m0) := Lib.hid (FM_1.out.below hb (Nat.le_refl _))
  have FT_2 : Hid (Kz v1 (some ⟨g3, 0, none⟩) t0) := Lib.hid FT_1.out
  clear FK_1 FM_1 FT_1
  have HB_2 : Hid (Below w.heap.size w v1) := Lib.hid (HB_1.out.trans (hb.mono HB_1.out.size))
  clear hb HB_1
  go_wp2_with fail
  refine (sane_t2 _ g1 g2 FK_2.out FM_2.out).mono ?_
  rintro e v2 ⟨rfl, hb⟩
  have FK_3 : Hid (Kz v2 (some ⟨g1, 0, none⟩) l0) := Lib.hid (FK_2.out.below hb (Nat.le_refl _))
  have FM_3 : Hid (Mz v2 (some ⟨g2, 0, none⟩) m0) := Lib.hid (FM_2.out.below hb (Nat.le_refl _))
  have FT_3 : Hid (Kz v2 (some ⟨g3, 0, none⟩) t0) := Lib.hid (FT_2.out.below hb (Nat.le_refl _))
  clear FK_2 FM_2 FT_2
  have HB_3 : Hid (Below w.heap.size w v2) := Lib.hid (HB_2.out.trans (hb.mono HB_2.out.size))
  clear hb HB_2
  go_wp2_with fail
  refine (sane_w _ g1 FK_3.out).mono ?_
  rintro e v3 ⟨rfl, hb⟩
  have FK_4 : Hid (Kz (((v3.alloc (.cells #[.int .i64 90, .int .i64 101] 91)).alloc (.cells #[.int .i64 110, .int .i64 1, .int .i64 1] 64)).alloc (.cells #[.int .i64 103, .int .i64 2, .int .i64 1] 64)) (some ⟨g1, 0, none⟩) l0) := Lib.hid (FK_3.out.below (allocs_below [(#[.int .i64 90, .int .i64 101], 91), (#[.int .i64 110, .int .i64 1, .int .i64 1], 64), (#[.int .i64 103, .int .i64 2, .int .i64 1], 64)] _ hb hb.size) (Nat.le_refl _))
  have FM_4 : Hid (Mz (((v3.alloc (.cells #[.int .i64 90, .int .i64 101] 91)).alloc (.cells #[.int .i64 110, .int .i64 1, .int .i64 1] 64)).alloc (.cells #[.int .i64 103, .int .i64 2, .int .i64 1] 64)) (some ⟨g2, 0, none⟩) m0) := Lib.hid (FM_3.out.below (allocs_below [(#[.int .i64 90, .int .i64 101], 91), (#[.int .i64 110, .int .i64 1, .int .i64 1], 64), (#[.int .i64 103, .int .i64 2, .int .i64 1], 64)] _ hb hb.size) (Nat.le_refl _))
  have FT_4 : Hid (Kz (((v3.alloc (.cells #[.int .i64 90, .int .i64 101] 91)).alloc (.cells #[.int .i64 110, .int .i64 1, .int .i64 1] 64)).alloc (.cells #[.int .i64 103, .int .i64 2, .int .i64 1] 64)) (some ⟨g3, 0, none⟩) t0) := Lib.hid (FT_3.out.below (allocs_below [(#[.int .i64 90, .int .i64 101], 91), (#[.int .i64 110, .int .i64 1, .int .i64 1], 64), (#[.int .i64 103, .int .i64 2, .int .i64 1], 64)] _ hb hb.size) (Nat.le_refl _))
  clear FK_3 FM_3 FT_3
  have HB_4 : Hid (Below w.heap.size w (((v3.alloc (.cells #[.int .i64 90, .int .i64 101] 91)).alloc (.cells #[.int .i64 110, .int .i64 1, .int .i64 1] 64)).alloc (.cells #[.int .i64 103, .int .i64 2, .int .i64 1] 64))) := Lib.hid (allocs_below [(#[.int .i64 90, .int .i64 101], 91), (#[.int .i64 110, .int .i64 1, .int .i64 1], 64), (#[.int .i64 103, .int .i64 2, .int .i64 1], 64)] _ (HB_3.out.trans (hb.mono HB_3.out.size)) (HB_3.out.trans (hb.mono HB_3.out.size)).size)
  have S_4 : Hid (Blk (((v3.alloc (.cells #[.int .i64 90, .int .i64 101] 91)).alloc (.cells #[.int .i64 110, .int .i64 1, .int .i64 1] 64)).alloc (.cells #[.int .i64 103, .int .i64 2, .int .i64 1] 64)) v3.heap.size 91 #[.int .i64 90, .int .i64 101]) := Lib.hid (allocs_blk [(#[.int .i64 90, .int .i64 101], 91), (#[.int .i64 110, .int .i64 1, .int .i64 1], 64), (#[.int .i64 103, .int .i64 2, .int .i64 1], 64)] v3 0 _ rfl)
  have A_4 : Hid (Blk (((v3.alloc (.cells #[.int .i64 90, .int .i64 101] 91)).alloc (.cells #[.int .i64 110, .int .i64 1, .int .i64 1] 64)).alloc (.cells #[.int .i64 103, .int .i64 2, .int .i64 1] 64)) (v3.heap.size + 1) 64 #[.int .i64 110, .int .i64 1, .int .i64 1]) := Lib.hid (allocs_blk [(#[.int .i64 90, .int .i64 101], 91), (#[.int .i64 110, .int .i64 1, .int .i64 1], 64), (#[.int .i64 103, .int .i64 2, .int .i64 1], 64)] v3 1 _ rfl)
  have B_4 : Hid (Blk (((v3.alloc (.cells #[.int .i64 90, .int .i64 101] 91)).alloc (.cells #[.int .i64 110, .int .i64 1, .int .i64 1] 64)).alloc (.cells #[.int .i64 103, .int .i64 2, .int .i64 1] 64)) (v3.heap.size + 2) 64 #[.int .i64 103, .int .i64 2, .int .i64 1]) := Lib.hid (allocs_blk [(#[.int .i64 90, .int .i64 101], 91), (#[.int .i64 110, .int .i64 1, .int .i64 1], 64), (#[.int .i64 103, .int .i64 2, .int .i64 1], 64)] v3 2 _ rfl)
  clear hb HB_3
  have yy0 := A_4.out.cell (i := 0) (v := .int .i64 110) rfl; have yy1 := A_4.out.cell (i := 1) (v := .int .i64 1) rfl; have yy2 := A_4.out.cell (i := 2) (v := .int .i64 1) rfl
  have yy3 := B_4.out.cell (i := 0) (v := .int .i64 103) rfl; have yy4 := B_4.out.cell (i := 1) (v := .int .i64 2) rfl; have yy5 := B_4.out.cell (i := 2) (v := .int .i64 1) rfl
  go_wp2_with fail
  refine (sane_o0 _ g1 FK_4.out).mono ?_
  rintro e v4 ⟨rfl, hb⟩
  clear yy0 yy1 yy2 yy3 yy4 yy5
  have FK_5 : Hid (Kz v4 (some ⟨g1, 0, none⟩) l0) := Lib.hid (FK_4.out.below hb (Nat.le_refl _))
  have FM_5 : Hid (Mz v4 (some ⟨g2, 0, none⟩) m0) := Lib.hid (FM_4.out.below hb (Nat.le_refl _))
  have FT_5 : Hid (Kz v4 (some ⟨g3, 0, none⟩) t0) := Lib.hid (FT_4.out.below hb (Nat.le_refl _))
  clear FK_4 FM_4 FT_4
  have S_5 : Hid (Blk v4 v3.heap.size 91 #[.int .i64 90, .int .i64 101]) := Lib.hid (S_4.out.below hb S_4.out.lt)
  have A_5 : Hid (Blk v4 (v3.heap.size + 1) 64 #[.int .i64 110, .int .i64 1, .int .i64 1]) := Lib.hid (A_4.out.below hb A_4.out.lt)
  have B_5 : Hid (Blk v4 (v3.heap.size + 2) 64 #[.int .i64 103, .int .i64 2, .int .i64 1]) := Lib.hid (B_4.out.below hb B_4.out.lt)
  have HB_5 : Hid (Below w.heap.size w v4) := Lib.hid (HB_4.out.trans (hb.mono HB_4.out.size))
  clear hb S_4 A_4 B_4 HB_4
  have yy0 := A_5.out.cell (i := 0) (v := .int .i64 110) rfl; have yy1 := A_5.out.cell (i := 1) (v := .int .i64 1) rfl; have yy2 := A_5.out.cell (i := 2) (v := .int .i64 1) rfl
  have yy3 := B_5.out.cell (i := 0) (v := .int .i64 103) rfl; have yy4 := B_5.out.cell (i := 1) (v := .int .i64 2) rfl; have yy5 := B_5.out.cell (i := 2) (v := .int .i64 1) rfl
  go_wp2_with fail
  clear yy0 yy1 yy2 yy3 yy4 yy5
  refine wp_region_grow (S := (fun w' => w'.cell? ⟨(v3.heap.size + 1), 0, none⟩ = some (.int .i64 110) ∧ w'.cell? ⟨(v3.heap.size + 1), 1, none⟩ = some (.int .i64 1) ∧ w'.cell? ⟨(v3.heap.size + 1), 2, none⟩ = some (.int .i64 1) ∧ w'.cell? ⟨(v3.heap.size + 2), 0, none⟩ = some (.int .i64 103) ∧ w'.cell? ⟨(v3.heap.size + 2), 1, none⟩ = some (.int .i64 2) ∧ w'.cell? ⟨(v3.heap.size + 2), 2, none⟩ = some (.int .i64 1) ∧ Kz w' (some ⟨g1, 0, none⟩) l0 ∧ Mz w' (some ⟨g2, 0, none⟩) m0)) ((fun w' => Below v4.heap.size v4 w')) (by kernel_rfl) (⟨fun w2 h2 => ⟨(A_5.out.below h2 A_5.out.lt).cell (i := 0) (v := .int .i64 110) rfl, (A_5.out.below h2 A_5.out.lt).cell (i := 1) (v := .int .i64 1) rfl, (A_5.out.below h2 A_5.out.lt).cell (i := 2) (v := .int .i64 1) rfl, (B_5.out.below h2 B_5.out.lt).cell (i := 0) (v := .int .i64 103) rfl, (B_5.out.below h2 B_5.out.lt).cell (i := 1) (v := .int .i64 2) rfl, (B_5.out.below h2 B_5.out.lt).cell (i := 2) (v := .int .i64 1) rfl, FK_5.out.below h2 (Nat.le_refl _), FM_5.out.below h2 (Nat.le_refl _)⟩, fun w2 w3 h2 hb2 => h2.trans (hb2.mono h2.size)⟩) ((Below.refl v4.heap.size v4).drew) (fun hCalm => ?_)
  refine grow_take 0 (some 57) ?_ rfl rfl (by kernel_rfl) (fun _ _ _ h => h) (by kernel_rfl) hCalm ?_ ?_
  rotate_left
  · intro wS hS; (try dsimp only at hS); go_simp <;> with_reducible rfl
  try simp only [Act.put, List.setIfInBounds_toArray, List.set_cons_zero, List.set_cons_succ]
  refine grow_take 1 (some 58) ?_ rfl rfl (by kernel_rfl) (fun _ _ _ h => h) (by kernel_rfl) hCalm ?_ ?_
  rotate_left
  · intro wS hS; (try dsimp only at hS); go_simp <;> with_reducible rfl
  try simp only [Act.put, List.setIfInBounds_toArray, List.set_cons_zero, List.set_cons_succ]
  refine grow_take 2 (some 59) ?_ rfl rfl (by kernel_rfl) (fun _ _ _ h => h) (by kernel_rfl) hCalm ?_ ?_
  rotate_left
  · intro wS hS; (try dsimp only at hS); go_simp <;> with_reducible rfl
  try simp only [Act.put, List.setIfInBounds_toArray, List.set_cons_zero, List.set_cons_succ]
  refine grow_take 3 (some 60) ?_ rfl rfl (by kernel_rfl) (fun _ _ _ h => h) (by kernel_rfl) hCalm ?_ ?_
  rotate_left
  · intro wS hS; (try dsimp only at hS); go_simp <;> with_reducible rfl
  try simp only [Act.put, List.setIfInBounds_toArray, List.set_cons_zero, List.set_cons_succ]
  refine grow_take 4 (some 61) ?_ rfl rfl (by kernel_rfl) (fun _ _ _ h => h) (by kernel_rfl) hCalm ?_ ?_
  rotate_left
  · intro wS hS; (try dsimp only at hS); go_simp <;> with_reducible rfl
  try simp only [Act.put, List.setIfInBounds_toArray, List.set_cons_zero, List.set_cons_succ]
  refine grow_call 5 (some 62) (.tuple #[.int .i64 (-1), .int .i64 0]) 61 [.tmp 57, .tmp 59, .tmp 60, .tmp 61] #[80, 82, 64, 64] rfl rfl (by kernel_rfl) (fun _ _ _ h => h) (by kernel_rfl) hCalm rfl (enters_of Try.func61 (by kernel_rfl) rfl) (fun wz hS => sane_o1 wz g1 g2 hS.2.2.2.2.2.2.1 hS.2.2.2.2.2.2.2) (by kernel_rfl) ?_
  try simp only [Act.put, List.setIfInBounds_toArray, List.set_cons_zero, List.set_cons_succ]
  refine grow_take 6 (some 56) ?_ rfl rfl (by kernel_rfl) (fun _ _ _ h => h) (by kernel_rfl) hCalm ?_ ?_
  rotate_left
  · intro wS hS; (try dsimp only at hS); go_simp <;> with_reducible rfl
  try simp only [Act.put, List.setIfInBounds_toArray, List.set_cons_zero, List.set_cons_succ]
  refine grow_take 7 (some 63) ?_ rfl rfl (by kernel_rfl) (fun _ _ _ h => h) (by kernel_rfl) hCalm ?_ ?_
  rotate_left
  · intro wS hS; (try dsimp only at hS); go_simp <;> with_reducible rfl
  try simp only [Act.put, List.setIfInBounds_toArray, List.set_cons_zero, List.set_cons_succ]
  refine grow_take 8 (some 64) ?_ rfl rfl (by kernel_rfl) (fun _ _ _ h => h) (by kernel_rfl) hCalm ?_ ?_
  rotate_left
  · intro wS hS; (try dsimp only at hS); go_simp <;> with_reducible rfl
  try simp only [Act.put, List.setIfInBounds_toArray, List.set_cons_zero, List.set_cons_succ]
  refine grow_take 9 (some 15) ?_ rfl rfl (by kernel_rfl) (fun _ _ _ h => h) (by kernel_rfl) hCalm ?_ ?_
  rotate_left
  · intro wS hS; (try dsimp only at hS); go_simp <;> with_reducible rfl
  try simp only [Act.put, List.setIfInBounds_toArray, List.set_cons_zero, List.set_cons_succ]
  refine grow_take 10 (some 16) ?_ rfl rfl (by kernel_rfl) (fun _ _ _ h => h) (by kernel_rfl) hCalm ?_ ?_
  rotate_left
  · intro wS hS; (try dsimp only at hS); go_simp <;> with_reducible rfl
  try simp only [Act.put, List.setIfInBounds_toArray, List.set_cons_zero, List.set_cons_succ]
  refine grow_done (by kernel_rfl) (fun wA hA => ?_) _
  obtain ⟨v5, hv5⟩ : ∃ x, x = wA := ⟨_, rfl⟩
  rw [← hv5] at hA ⊢
  clear hv5
  have hb := hA; clear hA hCalm
  have FK_6 : Hid (Kz v5 (some ⟨g1, 0, none⟩) l0) := Lib.hid (FK_5.out.below hb (Nat.le_refl _))
  have FM_6 : Hid (Mz v5 (some ⟨g2, 0, none⟩) m0) := Lib.hid (FM_5.out.below hb (Nat.le_refl _))
  have FT_6 : Hid (Kz v5 (some ⟨g3, 0, none⟩) t0) := Lib.hid (FT_5.out.below hb (Nat.le_refl _))
  clear FK_5 FM_5 FT_5
  have S_6 : Hid (Blk v5 v3.heap.size 91 #[.int .i64 90, .int .i64 101]) := Lib.hid (S_5.out.below hb S_5.out.lt)
  have A_6 : Hid (Blk v5 (v3.heap.size + 1) 64 #[.int .i64 110, .int .i64 1, .int .i64 1]) := Lib.hid (A_5.out.below hb A_5.out.lt)
  have B_6 : Hid (Blk v5 (v3.heap.size + 2) 64 #[.int .i64 103, .int .i64 2, .int .i64 1]) := Lib.hid (B_5.out.below hb B_5.out.lt)
  have HB_6 : Hid (Below w.heap.size w v5) := Lib.hid (HB_5.out.trans (hb.mono HB_5.out.size))
  clear hb S_5 A_5 B_5 HB_5
  have HN := Lib.hid (rz_of_cells (l := [(⟨50, 3, 2⟩ : Sm)]) (cs := smc) (k := 3) (fun _ => rfl) (Blk.new v5 64 #[.int .i64 50, .int .i64 3, .int .i64 2]))
  go_wp2_with fail
  refine (sane_n _ _ HN.out).mono ?_
  rintro e v6 ⟨rfl, hb1⟩
  have hb := ((Below.refl v5.heap.size v5).alloc (Nat.le_refl _) _).trans (hb1.mono (by simp)); clear hb1 HN
  have FK_7 : Hid (Kz (v6.alloc (.cells #[.int .i64 51, .int .i64 1, .int .i64 7] 64)) (some ⟨g1, 0, none⟩) l0) := Lib.hid (FK_6.out.below (allocs_below [(#[.int .i64 51, .int .i64 1, .int .i64 7], 64)] _ hb hb.size) (Nat.le_refl _))
  have FM_7 : Hid (Mz (v6.alloc (.cells #[.int .i64 51, .int .i64 1, .int .i64 7] 64)) (some ⟨g2, 0, none⟩) m0) := Lib.hid (FM_6.out.below (allocs_below [(#[.int .i64 51, .int .i64 1, .int .i64 7], 64)] _ hb hb.size) (Nat.le_refl _))
  have FT_7 : Hid (Kz (v6.alloc (.cells #[.int .i64 51, .int .i64 1, .int .i64 7] 64)) (some ⟨g3, 0, none⟩) t0) := Lib.hid (FT_6.out.below (allocs_below [(#[.int .i64 51, .int .i64 1, .int .i64 7], 64)] _ hb hb.size) (Nat.le_refl _))
  clear FK_6 FM_6 FT_6
  have S_7 : Hid (Blk (v6.alloc (.cells #[.int .i64 51, .int .i64 1, .int .i64 7] 64)) v3.heap.size 91 #[.int .i64 90, .int .i64 101]) := Lib.hid (allocs_keep [(#[.int .i64 51, .int .i64 1, .int .i64 7], 64)] _ (S_6.out.below hb S_6.out.lt))
  have A_7 : Hid (Blk (v6.alloc (.cells #[.int .i64 51, .int .i64 1, .int .i64 7] 64)) (v3.heap.size + 1) 64 #[.int .i64 110, .int .i64 1, .int .i64 1]) := Lib.hid (allocs_keep [(#[.int .i64 51, .int .i64 1, .int .i64 7], 64)] _ (A_6.out.below hb A_6.out.lt))
  have B_7 : Hid (Blk (v6.alloc (.cells #[.int .i64 51, .int .i64 1, .int .i64 7] 64)) (v3.heap.size + 2) 64 #[.int .i64 103, .int .i64 2, .int .i64 1]) := Lib.hid (allocs_keep [(#[.int .i64 51, .int .i64 1, .int .i64 7], 64)] _ (B_6.out.below hb B_6.out.lt))
  have HB_7 : Hid (Below w.heap.size w (v6.alloc (.cells #[.int .i64 51, .int .i64 1, .int .i64 7] 64))) := Lib.hid (allocs_below [(#[.int .i64 51, .int .i64 1, .int .i64 7], 64)] _ (HB_6.out.trans (hb.mono HB_6.out.size)) (HB_6.out.trans (hb.mono HB_6.out.size)).size)
  have N_7 : Hid (Blk (v6.alloc (.cells #[.int .i64 51, .int .i64 1, .int .i64 7] 64)) v6.heap.size 64 #[.int .i64 51, .int .i64 1, .int .i64 7]) := Lib.hid (allocs_blk [(#[.int .i64 51, .int .i64 1, .int .i64 7], 64)] v6 0 _ rfl)
  clear hb S_6 A_6 B_6 HB_6
  have yy0 := A_7.out.cell (i := 0) (v := .int .i64 110) rfl; have yy1 := A_7.out.cell (i := 1) (v := .int .i64 1) rfl; have yy2 := A_7.out.cell (i := 2) (v := .int .i64 1) rfl
  have yy3 := B_7.out.cell (i := 0) (v := .int .i64 103) rfl; have yy4 := B_7.out.cell (i := 1) (v := .int .i64 2) rfl; have yy5 := B_7.out.cell (i := 2) (v := .int .i64 1) rfl
  go_wp2_with fail
  refine (sane_o2 _ g1 g2 FK_7.out FM_7.out).mono ?_
  rintro e v7 ⟨rfl, hb⟩
  clear yy0 yy1 yy2 yy3 yy4 yy5
  have FK_8 : Hid (Kz v7 (some ⟨g1, 0, none⟩) l0) := Lib.hid (FK_7.out.below hb (Nat.le_refl _))
  have FM_8 : Hid (Mz v7 (some ⟨g2, 0, none⟩) m0) := Lib.hid (FM_7.out.below hb (Nat.le_refl _))
  have FT_8 : Hid (Kz v7 (some ⟨g3, 0, none⟩) t0) := Lib.hid (FT_7.out.below hb (Nat.le_refl _))
  clear FK_7 FM_7 FT_7
  have S_8 : Hid (Blk v7 v3.heap.size 91 #[.int .i64 90, .int .i64 101]) := Lib.hid (S_7.out.below hb S_7.out.lt)
  have A_8 : Hid (Blk v7 (v3.heap.size + 1) 64 #[.int .i64 110, .int .i64 1, .int .i64 1]) := Lib.hid (A_7.out.below hb A_7.out.lt)
  have B_8 : Hid (Blk v7 (v3.heap.size + 2) 64 #[.int .i64 103, .int .i64 2, .int .i64 1]) := Lib.hid (B_7.out.below hb B_7.out.lt)
  have N_8 : Hid (Blk v7 v6.heap.size 64 #[.int .i64 51, .int .i64 1, .int .i64 7]) := Lib.hid (N_7.out.below hb N_7.out.lt)
  have HB_8 : Hid (Below w.heap.size w v7) := Lib.hid (HB_7.out.trans (hb.mono HB_7.out.size))
  clear hb S_7 A_7 B_7 N_7 HB_7
  have HN := Lib.hid (rz_of_cells (l := t0) (cs := skc) (k := 3) (fun _ => rfl) (Blk.new v7 77 #[.int .i64 1, .int .i64 3, .int .i64 10, .int .i64 2, .int .i64 (-5), .int .i64 2]))
  have HT9 := Lib.hid (FT_8.out.below ((Below.refl v7.heap.size v7).alloc (Nat.le_refl _) (.cells #[.int .i64 1, .int .i64 3, .int .i64 10, .int .i64 2, .int .i64 (-5), .int .i64 2] 77)) (Nat.le_refl _))
  go_wp2_with fail
  refine (sane_k _ _ _ HT9.out HN.out).mono ?_
  rintro e v8 ⟨rfl, hb1⟩
  have hb := ((Below.refl v7.heap.size v7).alloc (Nat.le_refl _) _).trans (hb1.mono (by simp)); clear hb1 HN HT9
  have FK_9 : Hid (Kz v8 (some ⟨g1, 0, none⟩) l0) := Lib.hid (FK_8.out.below hb (Nat.le_refl _))
  have FM_9 : Hid (Mz v8 (some ⟨g2, 0, none⟩) m0) := Lib.hid (FM_8.out.below hb (Nat.le_refl _))
  have FT_9 : Hid (Kz v8 (some ⟨g3, 0, none⟩) t0) := Lib.hid (FT_8.out.below hb (Nat.le_refl _))
  clear FK_8 FM_8 FT_8
  have S_9 : Hid (Blk v8 v3.heap.size 91 #[.int .i64 90, .int .i64 101]) := Lib.hid (S_8.out.below hb S_8.out.lt)
  have A_9 : Hid (Blk v8 (v3.heap.size + 1) 64 #[.int .i64 110, .int .i64 1, .int .i64 1]) := Lib.hid (A_8.out.below hb A_8.out.lt)
  have B_9 : Hid (Blk v8 (v3.heap.size + 2) 64 #[.int .i64 103, .int .i64 2, .int .i64 1]) := Lib.hid (B_8.out.below hb B_8.out.lt)
  have N_9 : Hid (Blk v8 v6.heap.size 64 #[.int .i64 51, .int .i64 1, .int .i64 7]) := Lib.hid (N_8.out.below hb N_8.out.lt)
  have HB_9 : Hid (Below w.heap.size w v8) := Lib.hid (HB_8.out.trans (hb.mono HB_8.out.size))
  clear hb S_8 A_8 B_8 N_8 HB_8
  have yy0 := S_9.out.cell (i := 0) (v := .int .i64 90) rfl; have yy1 := S_9.out.cell (i := 1) (v := .int .i64 101) rfl
  have yy2 := N_9.out.cell (i := 0) (v := .int .i64 51) rfl; have yy3 := N_9.out.cell (i := 1) (v := .int .i64 1) rfl; have yy4 := N_9.out.cell (i := 2) (v := .int .i64 7) rfl
  go_wp2_with fail
  clear yy0 yy1 yy2 yy3 yy4
  refine wp_region_grow (S := (fun w' => w'.cell? ⟨(v3.heap.size + 1), 0, none⟩ = some (.int .i64 110) ∧ w'.cell? ⟨(v3.heap.size + 1), 1, none⟩ = some (.int .i64 1) ∧ w'.cell? ⟨(v3.heap.size + 1), 2, none⟩ = some (.int .i64 1) ∧ w'.cell? ⟨(v3.heap.size + 2), 0, none⟩ = some (.int .i64 103) ∧ w'.cell? ⟨(v3.heap.size + 2), 1, none⟩ = some (.int .i64 2) ∧ w'.cell? ⟨(v3.heap.size + 2), 2, none⟩ = some (.int .i64 1) ∧ Kz w' (some ⟨g1, 0, none⟩) l0 ∧ Mz w' (some ⟨g2, 0, none⟩) m0)) ((fun w' => Below v8.heap.size v8 w')) (by kernel_rfl) (⟨fun w2 h2 => ⟨(A_9.out.below h2 A_9.out.lt).cell (i := 0) (v := .int .i64 110) rfl, (A_9.out.below h2 A_9.out.lt).cell (i := 1) (v := .int .i64 1) rfl, (A_9.out.below h2 A_9.out.lt).cell (i := 2) (v := .int .i64 1) rfl, (B_9.out.below h2 B_9.out.lt).cell (i := 0) (v := .int .i64 103) rfl, (B_9.out.below h2 B_9.out.lt).cell (i := 1) (v := .int .i64 2) rfl, (B_9.out.below h2 B_9.out.lt).cell (i := 2) (v := .int .i64 1) rfl, FK_9.out.below h2 (Nat.le_refl _), FM_9.out.below h2 (Nat.le_refl _)⟩, fun w2 w3 h2 hb2 => h2.trans (hb2.mono h2.size)⟩) ((Below.refl v8.heap.size v8).drew) (fun hCalm => ?_)
  refine grow_take 0 (some 139) ?_ rfl rfl (by kernel_rfl) (fun _ _ _ h => h) (by kernel_rfl) hCalm ?_ ?_
  rotate_left
  · intro wS hS; (try dsimp only at hS); go_simp <;> with_reducible rfl
  try simp only [Act.put, List.setIfInBounds_toArray, List.set_cons_zero, List.set_cons_succ]
  refine grow_take 1 (some 140) ?_ rfl rfl (by kernel_rfl) (fun _ _ _ h => h) (by kernel_rfl) hCalm ?_ ?_
  rotate_left
  · intro wS hS; (try dsimp only at hS); go_simp <;> with_reducible rfl
  try simp only [Act.put, List.setIfInBounds_toArray, List.set_cons_zero, List.set_cons_succ]
  refine grow_take 2 (some 141) ?_ rfl rfl (by kernel_rfl) (fun _ _ _ h => h) (by kernel_rfl) hCalm ?_ ?_
  rotate_left
  · intro wS hS; (try dsimp only at hS); go_simp <;> with_reducible rfl
  try simp only [Act.put, List.setIfInBounds_toArray, List.set_cons_zero, List.set_cons_succ]
  refine grow_take 3 (some 142) ?_ rfl rfl (by kernel_rfl) (fun _ _ _ h => h) (by kernel_rfl) hCalm ?_ ?_
  rotate_left
  · intro wS hS; (try dsimp only at hS); go_simp <;> with_reducible rfl
  try simp only [Act.put, List.setIfInBounds_toArray, List.set_cons_zero, List.set_cons_succ]
  refine grow_take 4 (some 143) ?_ rfl rfl (by kernel_rfl) (fun _ _ _ h => h) (by kernel_rfl) hCalm ?_ ?_
  rotate_left
  · intro wS hS; (try dsimp only at hS); go_simp <;> with_reducible rfl
  try simp only [Act.put, List.setIfInBounds_toArray, List.set_cons_zero, List.set_cons_succ]
  refine grow_take 5 (some 144) ?_ rfl rfl (by kernel_rfl) (fun _ _ _ h => h) (by kernel_rfl) hCalm ?_ ?_
  rotate_left
  · intro wS hS; (try dsimp only at hS); go_simp <;> with_reducible rfl
  try simp only [Act.put, List.setIfInBounds_toArray, List.set_cons_zero, List.set_cons_succ]
  refine grow_take 6 (some 145) ?_ rfl rfl (by kernel_rfl) (fun _ _ _ h => h) (by kernel_rfl) hCalm ?_ ?_
  rotate_left
  · intro wS hS; (try dsimp only at hS); go_simp <;> with_reducible rfl
  try simp only [Act.put, List.setIfInBounds_toArray, List.set_cons_zero, List.set_cons_succ]
  refine grow_call 7 (some 146) (.bool true) 48 [.tmp 144, .tmp 145] #[64, 64] rfl rfl (by kernel_rfl) (fun _ _ _ h => h) (by kernel_rfl) hCalm rfl (enters_of Try.func48 (by kernel_rfl) rfl) (fun wz _ => sane_b1 wz) (by kernel_rfl) ?_
  try simp only [Act.put, List.setIfInBounds_toArray, List.set_cons_zero, List.set_cons_succ]
  refine grow_take 8 (some 147) ?_ rfl rfl (by kernel_rfl) (fun _ _ _ h => h) (by kernel_rfl) hCalm ?_ ?_
  rotate_left
  · intro wS hS; (try dsimp only at hS); go_simp <;> with_reducible rfl
  try simp only [Act.put, List.setIfInBounds_toArray, List.set_cons_zero, List.set_cons_succ]
  refine grow_take 9 (some 148) ?_ rfl rfl (by kernel_rfl) (fun _ _ _ h => h) (by kernel_rfl) hCalm ?_ ?_
  rotate_left
  · intro wS hS; (try dsimp only at hS); go_simp <;> with_reducible rfl
  try simp only [Act.put, List.setIfInBounds_toArray, List.set_cons_zero, List.set_cons_succ]
  refine grow_take 10 (some 149) ?_ rfl rfl (by kernel_rfl) (fun _ _ _ h => h) (by kernel_rfl) hCalm ?_ ?_
  rotate_left
  · intro wS hS; (try dsimp only at hS); go_simp <;> with_reducible rfl
  try simp only [Act.put, List.setIfInBounds_toArray, List.set_cons_zero, List.set_cons_succ]
  refine grow_take 11 (some 150) ?_ rfl rfl (by kernel_rfl) (fun _ _ _ h => h) (by kernel_rfl) hCalm ?_ ?_
  rotate_left
  · intro wS hS; (try dsimp only at hS); go_simp <;> with_reducible rfl
  try simp only [Act.put, List.setIfInBounds_toArray, List.set_cons_zero, List.set_cons_succ]
  refine grow_call 12 (some 151) (.bool false) 48 [.tmp 149, .tmp 150] #[64, 64] rfl rfl (by kernel_rfl) (fun _ _ _ h => h) (by kernel_rfl) hCalm rfl (enters_of Try.func48 (by kernel_rfl) rfl) (fun wz _ => sane_b2 wz) (by kernel_rfl) ?_
  try simp only [Act.put, List.setIfInBounds_toArray, List.set_cons_zero, List.set_cons_succ]
  refine grow_take 13 (some 152) ?_ rfl rfl (by kernel_rfl) (fun _ _ _ h => h) (by kernel_rfl) hCalm ?_ ?_
  rotate_left
  · intro wS hS; (try dsimp only at hS); go_simp <;> with_reducible rfl
  try simp only [Act.put, List.setIfInBounds_toArray, List.set_cons_zero, List.set_cons_succ]
  refine grow_take 14 (some 153) ?_ rfl rfl (by kernel_rfl) (fun _ _ _ h => h) (by kernel_rfl) hCalm ?_ ?_
  rotate_left
  · intro wS hS; (try dsimp only at hS); go_simp <;> with_reducible rfl
  try simp only [Act.put, List.setIfInBounds_toArray, List.set_cons_zero, List.set_cons_succ]
  refine grow_take 15 (some 154) ?_ rfl rfl (by kernel_rfl) (fun _ _ _ h => h) (by kernel_rfl) hCalm ?_ ?_
  rotate_left
  · intro wS hS; (try dsimp only at hS); go_simp <;> with_reducible rfl
  try simp only [Act.put, List.setIfInBounds_toArray, List.set_cons_zero, List.set_cons_succ]
  refine grow_take 16 (some 155) ?_ rfl rfl (by kernel_rfl) (fun _ _ _ h => h) (by kernel_rfl) hCalm ?_ ?_
  rotate_left
  · intro wS hS; (try dsimp only at hS); go_simp <;> with_reducible rfl
  try simp only [Act.put, List.setIfInBounds_toArray, List.set_cons_zero, List.set_cons_succ]
  refine grow_call 17 (some 156) (.bool true) 50 [.tmp 155] #[64] rfl rfl (by kernel_rfl) (fun _ _ _ h => h) (by kernel_rfl) hCalm rfl (enters_of Try.func50 (by kernel_rfl) rfl) (fun wz _ => sane_v1 wz) (by kernel_rfl) ?_
  try simp only [Act.put, List.setIfInBounds_toArray, List.set_cons_zero, List.set_cons_succ]
  refine grow_take 18 (some 157) ?_ rfl rfl (by kernel_rfl) (fun _ _ _ h => h) (by kernel_rfl) hCalm ?_ ?_
  rotate_left
  · intro wS hS; (try dsimp only at hS); go_simp <;> with_reducible rfl
  try simp only [Act.put, List.setIfInBounds_toArray, List.set_cons_zero, List.set_cons_succ]
  refine grow_take 19 (some 158) ?_ rfl rfl (by kernel_rfl) (fun _ _ _ h => h) (by kernel_rfl) hCalm ?_ ?_
  rotate_left
  · intro wS hS; (try dsimp only at hS); go_simp <;> with_reducible rfl
  try simp only [Act.put, List.setIfInBounds_toArray, List.set_cons_zero, List.set_cons_succ]
  refine grow_take 20 (some 159) ?_ rfl rfl (by kernel_rfl) (fun _ _ _ h => h) (by kernel_rfl) hCalm ?_ ?_
  rotate_left
  · intro wS hS; (try dsimp only at hS); go_simp <;> with_reducible rfl
  try simp only [Act.put, List.setIfInBounds_toArray, List.set_cons_zero, List.set_cons_succ]
  refine grow_call 21 (some 160) (.bool false) 50 [.tmp 159] #[64] rfl rfl (by kernel_rfl) (fun _ _ _ h => h) (by kernel_rfl) hCalm rfl (enters_of Try.func50 (by kernel_rfl) rfl) (fun wz _ => sane_v2 wz) (by kernel_rfl) ?_
  try simp only [Act.put, List.setIfInBounds_toArray, List.set_cons_zero, List.set_cons_succ]
  refine grow_take 22 (some 161) ?_ rfl rfl (by kernel_rfl) (fun _ _ _ h => h) (by kernel_rfl) hCalm ?_ ?_
  rotate_left
  · intro wS hS; (try dsimp only at hS); go_simp <;> with_reducible rfl
  try simp only [Act.put, List.setIfInBounds_toArray, List.set_cons_zero, List.set_cons_succ]
  refine grow_take 23 (some 162) ?_ rfl rfl (by kernel_rfl) (fun _ _ _ h => h) (by kernel_rfl) hCalm ?_ ?_
  rotate_left
  · intro wS hS; (try dsimp only at hS); go_simp <;> with_reducible rfl
  try simp only [Act.put, List.setIfInBounds_toArray, List.set_cons_zero, List.set_cons_succ]
  refine grow_take 24 (some 163) ?_ rfl rfl (by kernel_rfl) (fun _ _ _ h => h) (by kernel_rfl) hCalm ?_ ?_
  rotate_left
  · intro wS hS; (try dsimp only at hS); go_simp <;> with_reducible rfl
  try simp only [Act.put, List.setIfInBounds_toArray, List.set_cons_zero, List.set_cons_succ]
  refine grow_take 25 (some 164) ?_ rfl rfl (by kernel_rfl) (fun _ _ _ h => h) (by kernel_rfl) hCalm ?_ ?_
  rotate_left
  · intro wS hS; (try dsimp only at hS); go_simp <;> with_reducible rfl
  try simp only [Act.put, List.setIfInBounds_toArray, List.set_cons_zero, List.set_cons_succ]
  refine grow_take 26 (some 165) ?_ rfl rfl (by kernel_rfl) (fun _ _ _ h => h) (by kernel_rfl) hCalm ?_ ?_
  rotate_left
  · intro wS hS; (try dsimp only at hS); go_simp <;> with_reducible rfl
  try simp only [Act.put, List.setIfInBounds_toArray, List.set_cons_zero, List.set_cons_succ]
  refine grow_call 27 (some 166) (.bool true) 57 [.tmp 164, .tmp 165] #[80, 82] rfl rfl (by kernel_rfl) (fun _ _ _ h => h) (by kernel_rfl) hCalm rfl (enters_of Try.func57 (by kernel_rfl) rfl) (fun wz hS => sane_p1 wz g1 g2 hS.2.2.2.2.2.2.1 hS.2.2.2.2.2.2.2) (by kernel_rfl) ?_
  try simp only [Act.put, List.setIfInBounds_toArray, List.set_cons_zero, List.set_cons_succ]
  refine grow_take 28 (some 167) ?_ rfl rfl (by kernel_rfl) (fun _ _ _ h => h) (by kernel_rfl) hCalm ?_ ?_
  rotate_left
  · intro wS hS; (try dsimp only at hS); go_simp <;> with_reducible rfl
  try simp only [Act.put, List.setIfInBounds_toArray, List.set_cons_zero, List.set_cons_succ]
  refine grow_take 29 (some 168) ?_ rfl rfl (by kernel_rfl) (fun _ _ _ h => h) (by kernel_rfl) hCalm ?_ ?_
  rotate_left
  · intro wS hS; (try dsimp only at hS); go_simp <;> with_reducible rfl
  try simp only [Act.put, List.setIfInBounds_toArray, List.set_cons_zero, List.set_cons_succ]
  refine grow_take 30 (some 169) ?_ rfl rfl (by kernel_rfl) (fun _ _ _ h => h) (by kernel_rfl) hCalm ?_ ?_
  rotate_left
  · intro wS hS; (try dsimp only at hS); go_simp <;> with_reducible rfl
  try simp only [Act.put, List.setIfInBounds_toArray, List.set_cons_zero, List.set_cons_succ]
  refine grow_call 31 (some 170) (.bool false) 57 [.const (Go.Value.slice none 0 0), .tmp 169] #[80, 82] rfl rfl (by kernel_rfl) (fun _ _ _ h => h) (by kernel_rfl) hCalm rfl (enters_of Try.func57 (by kernel_rfl) rfl) (fun wz hS => sane_p2 wz g2 hS.2.2.2.2.2.2.2) (by kernel_rfl) ?_
  try simp only [Act.put, List.setIfInBounds_toArray, List.set_cons_zero, List.set_cons_succ]
  refine grow_take 32 (some 171) ?_ rfl rfl (by kernel_rfl) (fun _ _ _ h => h) (by kernel_rfl) hCalm ?_ ?_
  rotate_left
  · intro wS hS; (try dsimp only at hS); go_simp <;> with_reducible rfl
  try simp only [Act.put, List.setIfInBounds_toArray, List.set_cons_zero, List.set_cons_succ]
  refine grow_take 33 (some 172) ?_ rfl rfl (by kernel_rfl) (fun _ _ _ h => h) (by kernel_rfl) hCalm ?_ ?_
  rotate_left
  · intro wS hS; (try dsimp only at hS); go_simp <;> with_reducible rfl
  try simp only [Act.put, List.setIfInBounds_toArray, List.set_cons_zero, List.set_cons_succ]
  refine grow_take 34 (some 173) ?_ rfl rfl (by kernel_rfl) (fun _ _ _ h => h) (by kernel_rfl) hCalm ?_ ?_
  rotate_left
  · intro wS hS; (try dsimp only at hS); go_simp <;> with_reducible rfl
  try simp only [Act.put, List.setIfInBounds_toArray, List.set_cons_zero, List.set_cons_succ]
  refine grow_take 35 (some 174) ?_ rfl rfl (by kernel_rfl) (fun _ _ _ h => h) (by kernel_rfl) hCalm ?_ ?_
  rotate_left
  · intro wS hS; (try dsimp only at hS); go_simp <;> with_reducible rfl
  try simp only [Act.put, List.setIfInBounds_toArray, List.set_cons_zero, List.set_cons_succ]
  refine grow_take 36 (some 175) ?_ rfl rfl (by kernel_rfl) (fun _ _ _ h => h) (by kernel_rfl) hCalm ?_ ?_
  rotate_left
  · intro wS hS; (try dsimp only at hS); go_simp <;> with_reducible rfl
  try simp only [Act.put, List.setIfInBounds_toArray, List.set_cons_zero, List.set_cons_succ]
  refine grow_take 39 (some 178) ?_ rfl rfl (by kernel_rfl) (fun _ _ _ h => h) (by kernel_rfl) hCalm ?_ ?_
  rotate_left
  · intro wS hS; (try dsimp only at hS); go_simp <;> with_reducible rfl
  try simp only [Act.put, List.setIfInBounds_toArray, List.set_cons_zero, List.set_cons_succ]
  refine grow_take 40 (some 179) ?_ rfl rfl (by kernel_rfl) (fun _ _ _ h => h) (by kernel_rfl) hCalm ?_ ?_
  rotate_left
  · intro wS hS; (try dsimp only at hS); go_simp <;> with_reducible rfl
  try simp only [Act.put, List.setIfInBounds_toArray, List.set_cons_zero, List.set_cons_succ]
  refine grow_each [37, 41] (by kernel_rfl) (by decide) ?_
  refine grow_cons 37 rfl (by kernel_rfl) (fun wA hA K hK => ?_) ?_
  case _ =>
    obtain ⟨p37, hp⟩ : ∃ b, b = wA.heap.size := ⟨_, rfl⟩
    have hnew : Smz (wA.alloc (.cells #[.int .i64 110, .int .i64 1, .int .i64 1, .int .i64 103, .int .i64 2, .int .i64 1] 64)) (some ⟨p37, 0, none⟩) [sa, sb] := by rw [hp]; exact rz_of_cells (l := [sa, sb]) (cs := smc) (k := 3) (fun _ => rfl) (Blk.new wA 64 #[.int .i64 110, .int .i64 1, .int .i64 1, .int .i64 103, .int .i64 2, .int .i64 1])
    go_simp
    rw [← hp]
    refine hK.out _ _ (fun w' => Below v8.heap.size v8 w' ∧ Smz w' (some ⟨p37, 0, none⟩) [sa, sb]) ⟨fun w2 h2 => ⟨(A_9.out.below h2.1 A_9.out.lt).cell (i := 0) (v := .int .i64 110) rfl, (A_9.out.below h2.1 A_9.out.lt).cell (i := 1) (v := .int .i64 1) rfl, (A_9.out.below h2.1 A_9.out.lt).cell (i := 2) (v := .int .i64 1) rfl, (B_9.out.below h2.1 B_9.out.lt).cell (i := 0) (v := .int .i64 103) rfl, (B_9.out.below h2.1 B_9.out.lt).cell (i := 1) (v := .int .i64 2) rfl, (B_9.out.below h2.1 B_9.out.lt).cell (i := 2) (v := .int .i64 1) rfl, FK_9.out.below h2.1 (Nat.le_refl _), FM_9.out.below h2.1 (Nat.le_refl _)⟩, fun w2 w3 h2 hb2 => ⟨h2.1.trans (hb2.mono h2.1.size), h2.2.below hb2 (Nat.le_refl _)⟩⟩ ⟨hA.alloc hA.size _, hnew⟩ ?_
    clear hnew hp hK K hA wA hCalm
    have hCalm : Calm (fun w' => w'.cell? ⟨(v3.heap.size + 1), 0, none⟩ = some (.int .i64 110) ∧ w'.cell? ⟨(v3.heap.size + 1), 1, none⟩ = some (.int .i64 1) ∧ w'.cell? ⟨(v3.heap.size + 1), 2, none⟩ = some (.int .i64 1) ∧ w'.cell? ⟨(v3.heap.size + 2), 0, none⟩ = some (.int .i64 103) ∧ w'.cell? ⟨(v3.heap.size + 2), 1, none⟩ = some (.int .i64 2) ∧ w'.cell? ⟨(v3.heap.size + 2), 2, none⟩ = some (.int .i64 1) ∧ Kz w' (some ⟨g1, 0, none⟩) l0 ∧ Mz w' (some ⟨g2, 0, none⟩) m0) (fun w' => Below v8.heap.size v8 w' ∧ Smz w' (some ⟨p37, 0, none⟩) [sa, sb]) := ⟨fun w2 h2 => ⟨(A_9.out.below h2.1 A_9.out.lt).cell (i := 0) (v := .int .i64 110) rfl, (A_9.out.below h2.1 A_9.out.lt).cell (i := 1) (v := .int .i64 1) rfl, (A_9.out.below h2.1 A_9.out.lt).cell (i := 2) (v := .int .i64 1) rfl, (B_9.out.below h2.1 B_9.out.lt).cell (i := 0) (v := .int .i64 103) rfl, (B_9.out.below h2.1 B_9.out.lt).cell (i := 1) (v := .int .i64 2) rfl, (B_9.out.below h2.1 B_9.out.lt).cell (i := 2) (v := .int .i64 1) rfl, FK_9.out.below h2.1 (Nat.le_refl _), FM_9.out.below h2.1 (Nat.le_refl _)⟩, fun w2 w3 h2 hb2 => ⟨h2.1.trans (hb2.mono h2.1.size), h2.2.below hb2 (Nat.le_refl _)⟩⟩
    try simp only [Act.put, List.setIfInBounds_toArray, List.set_cons_zero, List.set_cons_succ]
    refine grow_each [38, 41] (by kernel_rfl) (by decide) ?_
    refine grow_cons 38 rfl (by kernel_rfl) (fun wA hA K hK => ?_) ?_
    case _ =>
      go_simp
      refine (sane_s wA p37 hA.2).mono ?_
      rintro e v ⟨⟨A38, c38, rfl, hz⟩, hb⟩
      refine hK.out _ _ (fun w' => Below v8.heap.size v8 w' ∧ Smz w' (some ⟨p37, 0, none⟩) [sa, sb] ∧ Smz w' A38 [sb, sa]) ⟨fun w2 h2 => ⟨(A_9.out.below h2.1 A_9.out.lt).cell (i := 0) (v := .int .i64 110) rfl, (A_9.out.below h2.1 A_9.out.lt).cell (i := 1) (v := .int .i64 1) rfl, (A_9.out.below h2.1 A_9.out.lt).cell (i := 2) (v := .int .i64 1) rfl, (B_9.out.below h2.1 B_9.out.lt).cell (i := 0) (v := .int .i64 103) rfl, (B_9.out.below h2.1 B_9.out.lt).cell (i := 1) (v := .int .i64 2) rfl, (B_9.out.below h2.1 B_9.out.lt).cell (i := 2) (v := .int .i64 1) rfl, FK_9.out.below h2.1 (Nat.le_refl _), FM_9.out.below h2.1 (Nat.le_refl _)⟩, fun w2 w3 h2 hb2 => ⟨h2.1.trans (hb2.mono h2.1.size), h2.2.1.below hb2 (Nat.le_refl _), h2.2.2.below hb2 (Nat.le_refl _)⟩⟩ ⟨hA.1.trans (hb.mono hA.1.size), hA.2.below hb (Nat.le_refl _), hz⟩ ?_
      clear hz hb hK K hA wA hCalm
      have hCalm : Calm (fun w' => w'.cell? ⟨(v3.heap.size + 1), 0, none⟩ = some (.int .i64 110) ∧ w'.cell? ⟨(v3.heap.size + 1), 1, none⟩ = some (.int .i64 1) ∧ w'.cell? ⟨(v3.heap.size + 1), 2, none⟩ = some (.int .i64 1) ∧ w'.cell? ⟨(v3.heap.size + 2), 0, none⟩ = some (.int .i64 103) ∧ w'.cell? ⟨(v3.heap.size + 2), 1, none⟩ = some (.int .i64 2) ∧ w'.cell? ⟨(v3.heap.size + 2), 2, none⟩ = some (.int .i64 1) ∧ Kz w' (some ⟨g1, 0, none⟩) l0 ∧ Mz w' (some ⟨g2, 0, none⟩) m0) (fun w' => Below v8.heap.size v8 w' ∧ Smz w' (some ⟨p37, 0, none⟩) [sa, sb] ∧ Smz w' A38 [sb, sa]) := ⟨fun w2 h2 => ⟨(A_9.out.below h2.1 A_9.out.lt).cell (i := 0) (v := .int .i64 110) rfl, (A_9.out.below h2.1 A_9.out.lt).cell (i := 1) (v := .int .i64 1) rfl, (A_9.out.below h2.1 A_9.out.lt).cell (i := 2) (v := .int .i64 1) rfl, (B_9.out.below h2.1 B_9.out.lt).cell (i := 0) (v := .int .i64 103) rfl, (B_9.out.below h2.1 B_9.out.lt).cell (i := 1) (v := .int .i64 2) rfl, (B_9.out.below h2.1 B_9.out.lt).cell (i := 2) (v := .int .i64 1) rfl, FK_9.out.below h2.1 (Nat.le_refl _), FM_9.out.below h2.1 (Nat.le_refl _)⟩, fun w2 w3 h2 hb2 => ⟨h2.1.trans (hb2.mono h2.1.size), h2.2.1.below hb2 (Nat.le_refl _), h2.2.2.below hb2 (Nat.le_refl _)⟩⟩
      try simp only [Act.put, List.setIfInBounds_toArray, List.set_cons_zero, List.set_cons_succ]
      refine grow_each [41] (by kernel_rfl) (by decide) ?_
      refine grow_cons 41 rfl (by kernel_rfl) (fun wA hA K hK => ?_) grow_nil
      obtain ⟨p41, hp⟩ : ∃ b, b = wA.heap.size := ⟨_, rfl⟩
      have hnew : Smz (wA.alloc (.cells #[.int .i64 103, .int .i64 2, .int .i64 1, .int .i64 110, .int .i64 1, .int .i64 1] 64)) (some ⟨p41, 0, none⟩) [sb, sa] := by rw [hp]; exact rz_of_cells (l := [sb, sa]) (cs := smc) (k := 3) (fun _ => rfl) (Blk.new wA 64 #[.int .i64 103, .int .i64 2, .int .i64 1, .int .i64 110, .int .i64 1, .int .i64 1])
      go_simp
      rw [← hp]
      refine hK.out _ _ (fun w' => Below v8.heap.size v8 w' ∧ Smz w' (some ⟨p37, 0, none⟩) [sa, sb] ∧ Smz w' A38 [sb, sa] ∧ Smz w' (some ⟨p41, 0, none⟩) [sb, sa]) ⟨fun w2 h2 => ⟨(A_9.out.below h2.1 A_9.out.lt).cell (i := 0) (v := .int .i64 110) rfl, (A_9.out.below h2.1 A_9.out.lt).cell (i := 1) (v := .int .i64 1) rfl, (A_9.out.below h2.1 A_9.out.lt).cell (i := 2) (v := .int .i64 1) rfl, (B_9.out.below h2.1 B_9.out.lt).cell (i := 0) (v := .int .i64 103) rfl, (B_9.out.below h2.1 B_9.out.lt).cell (i := 1) (v := .int .i64 2) rfl, (B_9.out.below h2.1 B_9.out.lt).cell (i := 2) (v := .int .i64 1) rfl, FK_9.out.below h2.1 (Nat.le_refl _), FM_9.out.below h2.1 (Nat.le_refl _)⟩, fun w2 w3 h2 hb2 => ⟨h2.1.trans (hb2.mono h2.1.size), h2.2.1.below hb2 (Nat.le_refl _), h2.2.2.1.below hb2 (Nat.le_refl _), h2.2.2.2.below hb2 (Nat.le_refl _)⟩⟩ ⟨hA.1.alloc hA.1.size _, hA.2.1.below ((Below.refl _ _).alloc (Nat.le_refl _) _) (Nat.le_refl _), hA.2.2.below ((Below.refl _ _).alloc (Nat.le_refl _) _) (Nat.le_refl _), hnew⟩ ?_
      clear hnew hp hK K hA wA hCalm
      have hCalm : Calm (fun w' => w'.cell? ⟨(v3.heap.size + 1), 0, none⟩ = some (.int .i64 110) ∧ w'.cell? ⟨(v3.heap.size + 1), 1, none⟩ = some (.int .i64 1) ∧ w'.cell? ⟨(v3.heap.size + 1), 2, none⟩ = some (.int .i64 1) ∧ w'.cell? ⟨(v3.heap.size + 2), 0, none⟩ = some (.int .i64 103) ∧ w'.cell? ⟨(v3.heap.size + 2), 1, none⟩ = some (.int .i64 2) ∧ w'.cell? ⟨(v3.heap.size + 2), 2, none⟩ = some (.int .i64 1) ∧ Kz w' (some ⟨g1, 0, none⟩) l0 ∧ Mz w' (some ⟨g2, 0, none⟩) m0) (fun w' => Below v8.heap.size v8 w' ∧ Smz w' (some ⟨p37, 0, none⟩) [sa, sb] ∧ Smz w' A38 [sb, sa] ∧ Smz w' (some ⟨p41, 0, none⟩) [sb, sa]) := ⟨fun w2 h2 => ⟨(A_9.out.below h2.1 A_9.out.lt).cell (i := 0) (v := .int .i64 110) rfl, (A_9.out.below h2.1 A_9.out.lt).cell (i := 1) (v := .int .i64 1) rfl, (A_9.out.below h2.1 A_9.out.lt).cell (i := 2) (v := .int .i64 1) rfl, (B_9.out.below h2.1 B_9.out.lt).cell (i := 0) (v := .int .i64 103) rfl, (B_9.out.below h2.1 B_9.out.lt).cell (i := 1) (v := .int .i64 2) rfl, (B_9.out.below h2.1 B_9.out.lt).cell (i := 2) (v := .int .i64 1) rfl, FK_9.out.below h2.1 (Nat.le_refl _), FM_9.out.below h2.1 (Nat.le_refl _)⟩, fun w2 w3 h2 hb2 => ⟨h2.1.trans (hb2.mono h2.1.size), h2.2.1.below hb2 (Nat.le_refl _), h2.2.2.1.below hb2 (Nat.le_refl _), h2.2.2.2.below hb2 (Nat.le_refl _)⟩⟩
      try simp only [Act.put, List.setIfInBounds_toArray, List.set_cons_zero, List.set_cons_succ]
      refine grow_each [42] (by kernel_rfl) (by decide) ?_
      refine grow_cons 42 rfl (by kernel_rfl) (fun wA hA K hK => ?_) grow_nil
      go_simp
      refine (sane_e wA A38 c38 p41 hA.2.2.1 hA.2.2.2).mono ?_
      rintro e v ⟨rfl, hb⟩
      refine hK.out _ _ (fun w' => Below v8.heap.size v8 w' ∧ Smz w' (some ⟨p37, 0, none⟩) [sa, sb] ∧ Smz w' A38 [sb, sa] ∧ Smz w' (some ⟨p41, 0, none⟩) [sb, sa]) ⟨fun w2 h2 => ⟨(A_9.out.below h2.1 A_9.out.lt).cell (i := 0) (v := .int .i64 110) rfl, (A_9.out.below h2.1 A_9.out.lt).cell (i := 1) (v := .int .i64 1) rfl, (A_9.out.below h2.1 A_9.out.lt).cell (i := 2) (v := .int .i64 1) rfl, (B_9.out.below h2.1 B_9.out.lt).cell (i := 0) (v := .int .i64 103) rfl, (B_9.out.below h2.1 B_9.out.lt).cell (i := 1) (v := .int .i64 2) rfl, (B_9.out.below h2.1 B_9.out.lt).cell (i := 2) (v := .int .i64 1) rfl, FK_9.out.below h2.1 (Nat.le_refl _), FM_9.out.below h2.1 (Nat.le_refl _)⟩, fun w2 w3 h2 hb2 => ⟨h2.1.trans (hb2.mono h2.1.size), h2.2.1.below hb2 (Nat.le_refl _), h2.2.2.1.below hb2 (Nat.le_refl _), h2.2.2.2.below hb2 (Nat.le_refl _)⟩⟩ ⟨hA.1.trans (hb.mono hA.1.size), hA.2.1.below hb (Nat.le_refl _), hA.2.2.1.below hb (Nat.le_refl _), hA.2.2.2.below hb (Nat.le_refl _)⟩ ?_
      clear hb hK K hA wA hCalm
      have hCalm : Calm (fun w' => w'.cell? ⟨(v3.heap.size + 1), 0, none⟩ = some (.int .i64 110) ∧ w'.cell? ⟨(v3.heap.size + 1), 1, none⟩ = some (.int .i64 1) ∧ w'.cell? ⟨(v3.heap.size + 1), 2, none⟩ = some (.int .i64 1) ∧ w'.cell? ⟨(v3.heap.size + 2), 0, none⟩ = some (.int .i64 103) ∧ w'.cell? ⟨(v3.heap.size + 2), 1, none⟩ = some (.int .i64 2) ∧ w'.cell? ⟨(v3.heap.size + 2), 2, none⟩ = some (.int .i64 1) ∧ Kz w' (some ⟨g1, 0, none⟩) l0 ∧ Mz w' (some ⟨g2, 0, none⟩) m0) (fun w' => Below v8.heap.size v8 w' ∧ Smz w' (some ⟨p37, 0, none⟩) [sa, sb] ∧ Smz w' A38 [sb, sa] ∧ Smz w' (some ⟨p41, 0, none⟩) [sb, sa]) := ⟨fun w2 h2 => ⟨(A_9.out.below h2.1 A_9.out.lt).cell (i := 0) (v := .int .i64 110) rfl, (A_9.out.below h2.1 A_9.out.lt).cell (i := 1) (v := .int .i64 1) rfl, (A_9.out.below h2.1 A_9.out.lt).cell (i := 2) (v := .int .i64 1) rfl, (B_9.out.below h2.1 B_9.out.lt).cell (i := 0) (v := .int .i64 103) rfl, (B_9.out.below h2.1 B_9.out.lt).cell (i := 1) (v := .int .i64 2) rfl, (B_9.out.below h2.1 B_9.out.lt).cell (i := 2) (v := .int .i64 1) rfl, FK_9.out.below h2.1 (Nat.le_refl _), FM_9.out.below h2.1 (Nat.le_refl _)⟩, fun w2 w3 h2 hb2 => ⟨h2.1.trans (hb2.mono h2.1.size), h2.2.1.below hb2 (Nat.le_refl _), h2.2.2.1.below hb2 (Nat.le_refl _), h2.2.2.2.below hb2 (Nat.le_refl _)⟩⟩
      try simp only [Act.put, List.setIfInBounds_toArray, List.set_cons_zero, List.set_cons_succ]
      refine grow_take 43 (some 182) ?_ rfl rfl (by kernel_rfl) (fun _ _ _ h => h) (by kernel_rfl) hCalm ?_ ?_
      rotate_left
      · intro wS hS; (try dsimp only at hS); go_simp <;> with_reducible rfl
      try simp only [Act.put, List.setIfInBounds_toArray, List.set_cons_zero, List.set_cons_succ]
      refine grow_take 44 (some 0) ?_ rfl rfl (by kernel_rfl) (fun _ _ _ h => h) (by kernel_rfl) hCalm ?_ ?_
      rotate_left
      · intro wS hS; (try dsimp only at hS); go_simp <;> with_reducible rfl
      try simp only [Act.put, List.setIfInBounds_toArray, List.set_cons_zero]
      refine grow_done (by kernel_rfl) (fun wA hA => ?_) _
      have hbb := hA.1
      go_wp2_with fail
      go_ret
      exact ⟨rfl, HB_9.out.trans (hbb.mono HB_9.out.size)⟩
    refine grow_cons 41 rfl (by kernel_rfl) (fun wA hA K hK => ?_) ?_
    case _ =>
      obtain ⟨p41, hp⟩ : ∃ b, b = wA.heap.size := ⟨_, rfl⟩
      have hnew : Smz (wA.alloc (.cells #[.int .i64 103, .int .i64 2, .int .i64 1, .int .i64 110, .int .i64 1, .int .i64 1] 64)) (some ⟨p41, 0, none⟩) [sb, sa] := by rw [hp]; exact rz_of_cells (l := [sb, sa]) (cs := smc) (k := 3) (fun _ => rfl) (Blk.new wA 64 #[.int .i64 103, .int .i64 2, .int .i64 1, .int .i64 110, .int .i64 1, .int .i64 1])
      go_simp
      rw [← hp]
      refine hK.out _ _ (fun w' => Below v8.heap.size v8 w' ∧ Smz w' (some ⟨p37, 0, none⟩) [sa, sb] ∧ Smz w' (some ⟨p41, 0, none⟩) [sb, sa]) ⟨fun w2 h2 => ⟨(A_9.out.below h2.1 A_9.out.lt).cell (i := 0) (v := .int .i64 110) rfl, (A_9.out.below h2.1 A_9.out.lt).cell (i := 1) (v := .int .i64 1) rfl, (A_9.out.below h2.1 A_9.out.lt).cell (i := 2) (v := .int .i64 1) rfl, (B_9.out.below h2.1 B_9.out.lt).cell (i := 0) (v := .int .i64 103) rfl, (B_9.out.below h2.1 B_9.out.lt).cell (i := 1) (v := .int .i64 2) rfl, (B_9.out.below h2.1 B_9.out.lt).cell (i := 2) (v := .int .i64 1) rfl, FK_9.out.below h2.1 (Nat.le_refl _), FM_9.out.below h2.1 (Nat.le_refl _)⟩, fun w2 w3 h2 hb2 => ⟨h2.1.trans (hb2.mono h2.1.size), h2.2.1.below hb2 (Nat.le_refl _), h2.2.2.below hb2 (Nat.le_refl _)⟩⟩ ⟨hA.1.alloc hA.1.size _, hA.2.below ((Below.refl _ _).alloc (Nat.le_refl _) _) (Nat.le_refl _), hnew⟩ ?_
      clear hnew hp hK K hA wA hCalm
      have hCalm : Calm (fun w' => w'.cell? ⟨(v3.heap.size + 1), 0, none⟩ = some (.int .i64 110) ∧ w'.cell? ⟨(v3.heap.size + 1), 1, none⟩ = some (.int .i64 1) ∧ w'.cell? ⟨(v3.heap.size + 1), 2, none⟩ = some (.int .i64 1) ∧ w'.cell? ⟨(v3.heap.size + 2), 0, none⟩ = some (.int .i64 103) ∧ w'.cell? ⟨(v3.heap.size + 2), 1, none⟩ = some (.int .i64 2) ∧ w'.cell? ⟨(v3.heap.size + 2), 2, none⟩ = some (.int .i64 1) ∧ Kz w' (some ⟨g1, 0, none⟩) l0 ∧ Mz w' (some ⟨g2, 0, none⟩) m0) (fun w' => Below v8.heap.size v8 w' ∧ Smz w' (some ⟨p37, 0, none⟩) [sa, sb] ∧ Smz w' (some ⟨p41, 0, none⟩) [sb, sa]) := ⟨fun w2 h2 => ⟨(A_9.out.below h2.1 A_9.out.lt).cell (i := 0) (v := .int .i64 110) rfl, (A_9.out.below h2.1 A_9.out.lt).cell (i := 1) (v := .int .i64 1) rfl, (A_9.out.below h2.1 A_9.out.lt).cell (i := 2) (v := .int .i64 1) rfl, (B_9.out.below h2.1 B_9.out.lt).cell (i := 0) (v := .int .i64 103) rfl, (B_9.out.below h2.1 B_9.out.lt).cell (i := 1) (v := .int .i64 2) rfl, (B_9.out.below h2.1 B_9.out.lt).cell (i := 2) (v := .int .i64 1) rfl, FK_9.out.below h2.1 (Nat.le_refl _), FM_9.out.below h2.1 (Nat.le_refl _)⟩, fun w2 w3 h2 hb2 => ⟨h2.1.trans (hb2.mono h2.1.size), h2.2.1.below hb2 (Nat.le_refl _), h2.2.2.below hb2 (Nat.le_refl _)⟩⟩
      try simp only [Act.put, List.setIfInBounds_toArray, List.set_cons_zero, List.set_cons_succ]
      refine grow_each [38] (by kernel_rfl) (by decide) ?_
      refine grow_cons 38 rfl (by kernel_rfl) (fun wA hA K hK => ?_) grow_nil
      go_simp
      refine (sane_s wA p37 hA.2.1).mono ?_
      rintro e v ⟨⟨A38, c38, rfl, hz⟩, hb⟩
      refine hK.out _ _ (fun w' => Below v8.heap.size v8 w' ∧ Smz w' (some ⟨p37, 0, none⟩) [sa, sb] ∧ Smz w' (some ⟨p41, 0, none⟩) [sb, sa] ∧ Smz w' A38 [sb, sa]) ⟨fun w2 h2 => ⟨(A_9.out.below h2.1 A_9.out.lt).cell (i := 0) (v := .int .i64 110) rfl, (A_9.out.below h2.1 A_9.out.lt).cell (i := 1) (v := .int .i64 1) rfl, (A_9.out.below h2.1 A_9.out.lt).cell (i := 2) (v := .int .i64 1) rfl, (B_9.out.below h2.1 B_9.out.lt).cell (i := 0) (v := .int .i64 103) rfl, (B_9.out.below h2.1 B_9.out.lt).cell (i := 1) (v := .int .i64 2) rfl, (B_9.out.below h2.1 B_9.out.lt).cell (i := 2) (v := .int .i64 1) rfl, FK_9.out.below h2.1 (Nat.le_refl _), FM_9.out.below h2.1 (Nat.le_refl _)⟩, fun w2 w3 h2 hb2 => ⟨h2.1.trans (hb2.mono h2.1.size), h2.2.1.below hb2 (Nat.le_refl _), h2.2.2.1.below hb2 (Nat.le_refl _), h2.2.2.2.below hb2 (Nat.le_refl _)⟩⟩ ⟨hA.1.trans (hb.mono hA.1.size), hA.2.1.below hb (Nat.le_refl _), hA.2.2.below hb (Nat.le_refl _), hz⟩ ?_
      clear hz hb hK K hA wA hCalm
      have hCalm : Calm (fun w' => w'.cell? ⟨(v3.heap.size + 1), 0, none⟩ = some (.int .i64 110) ∧ w'.cell? ⟨(v3.heap.size + 1), 1, none⟩ = some (.int .i64 1) ∧ w'.cell? ⟨(v3.heap.size + 1), 2, none⟩ = some (.int .i64 1) ∧ w'.cell? ⟨(v3.heap.size + 2), 0, none⟩ = some (.int .i64 103) ∧ w'.cell? ⟨(v3.heap.size + 2), 1, none⟩ = some (.int .i64 2) ∧ w'.cell? ⟨(v3.heap.size + 2), 2, none⟩ = some (.int .i64 1) ∧ Kz w' (some ⟨g1, 0, none⟩) l0 ∧ Mz w' (some ⟨g2, 0, none⟩) m0) (fun w' => Below v8.heap.size v8 w' ∧ Smz w' (some ⟨p37, 0, none⟩) [sa, sb] ∧ Smz w' (some ⟨p41, 0, none⟩) [sb, sa] ∧ Smz w' A38 [sb, sa]) := ⟨fun w2 h2 => ⟨(A_9.out.below h2.1 A_9.out.lt).cell (i := 0) (v := .int .i64 110) rfl, (A_9.out.below h2.1 A_9.out.lt).cell (i := 1) (v := .int .i64 1) rfl, (A_9.out.below h2.1 A_9.out.lt).cell (i := 2) (v := .int .i64 1) rfl, (B_9.out.below h2.1 B_9.out.lt).cell (i := 0) (v := .int .i64 103) rfl, (B_9.out.below h2.1 B_9.out.lt).cell (i := 1) (v := .int .i64 2) rfl, (B_9.out.below h2.1 B_9.out.lt).cell (i := 2) (v := .int .i64 1) rfl, FK_9.out.below h2.1 (Nat.le_refl _), FM_9.out.below h2.1 (Nat.le_refl _)⟩, fun w2 w3 h2 hb2 => ⟨h2.1.trans (hb2.mono h2.1.size), h2.2.1.below hb2 (Nat.le_refl _), h2.2.2.1.below hb2 (Nat.le_refl _), h2.2.2.2.below hb2 (Nat.le_refl _)⟩⟩
      try simp only [Act.put, List.setIfInBounds_toArray, List.set_cons_zero, List.set_cons_succ]
      refine grow_each [42] (by kernel_rfl) (by decide) ?_
      refine grow_cons 42 rfl (by kernel_rfl) (fun wA hA K hK => ?_) grow_nil
      go_simp
      refine (sane_e wA A38 c38 p41 hA.2.2.2 hA.2.2.1).mono ?_
      rintro e v ⟨rfl, hb⟩
      refine hK.out _ _ (fun w' => Below v8.heap.size v8 w' ∧ Smz w' (some ⟨p37, 0, none⟩) [sa, sb] ∧ Smz w' (some ⟨p41, 0, none⟩) [sb, sa] ∧ Smz w' A38 [sb, sa]) ⟨fun w2 h2 => ⟨(A_9.out.below h2.1 A_9.out.lt).cell (i := 0) (v := .int .i64 110) rfl, (A_9.out.below h2.1 A_9.out.lt).cell (i := 1) (v := .int .i64 1) rfl, (A_9.out.below h2.1 A_9.out.lt).cell (i := 2) (v := .int .i64 1) rfl, (B_9.out.below h2.1 B_9.out.lt).cell (i := 0) (v := .int .i64 103) rfl, (B_9.out.below h2.1 B_9.out.lt).cell (i := 1) (v := .int .i64 2) rfl, (B_9.out.below h2.1 B_9.out.lt).cell (i := 2) (v := .int .i64 1) rfl, FK_9.out.below h2.1 (Nat.le_refl _), FM_9.out.below h2.1 (Nat.le_refl _)⟩, fun w2 w3 h2 hb2 => ⟨h2.1.trans (hb2.mono h2.1.size), h2.2.1.below hb2 (Nat.le_refl _), h2.2.2.1.below hb2 (Nat.le_refl _), h2.2.2.2.below hb2 (Nat.le_refl _)⟩⟩ ⟨hA.1.trans (hb.mono hA.1.size), hA.2.1.below hb (Nat.le_refl _), hA.2.2.1.below hb (Nat.le_refl _), hA.2.2.2.below hb (Nat.le_refl _)⟩ ?_
      clear hb hK K hA wA hCalm
      have hCalm : Calm (fun w' => w'.cell? ⟨(v3.heap.size + 1), 0, none⟩ = some (.int .i64 110) ∧ w'.cell? ⟨(v3.heap.size + 1), 1, none⟩ = some (.int .i64 1) ∧ w'.cell? ⟨(v3.heap.size + 1), 2, none⟩ = some (.int .i64 1) ∧ w'.cell? ⟨(v3.heap.size + 2), 0, none⟩ = some (.int .i64 103) ∧ w'.cell? ⟨(v3.heap.size + 2), 1, none⟩ = some (.int .i64 2) ∧ w'.cell? ⟨(v3.heap.size + 2), 2, none⟩ = some (.int .i64 1) ∧ Kz w' (some ⟨g1, 0, none⟩) l0 ∧ Mz w' (some ⟨g2, 0, none⟩) m0) (fun w' => Below v8.heap.size v8 w' ∧ Smz w' (some ⟨p37, 0, none⟩) [sa, sb] ∧ Smz w' (some ⟨p41, 0, none⟩) [sb, sa] ∧ Smz w' A38 [sb, sa]) := ⟨fun w2 h2 => ⟨(A_9.out.below h2.1 A_9.out.lt).cell (i := 0) (v := .int .i64 110) rfl, (A_9.out.below h2.1 A_9.out.lt).cell (i := 1) (v := .int .i64 1) rfl, (A_9.out.below h2.1 A_9.out.lt).cell (i := 2) (v := .int .i64 1) rfl, (B_9.out.below h2.1 B_9.out.lt).cell (i := 0) (v := .int .i64 103) rfl, (B_9.out.below h2.1 B_9.out.lt).cell (i := 1) (v := .int .i64 2) rfl, (B_9.out.below h2.1 B_9.out.lt).cell (i := 2) (v := .int .i64 1) rfl, FK_9.out.below h2.1 (Nat.le_refl _), FM_9.out.below h2.1 (Nat.le_refl _)⟩, fun w2 w3 h2 hb2 => ⟨h2.1.trans (hb2.mono h2.1.size), h2.2.1.below hb2 (Nat.le_refl _), h2.2.2.1.below hb2 (Nat.le_refl _), h2.2.2.2.below hb2 (Nat.le_refl _)⟩⟩
      try simp only [Act.put, List.setIfInBounds_toArray, List.set_cons_zero, List.set_cons_succ]
      refine grow_take 43 (some 182) ?_ rfl rfl (by kernel_rfl) (fun _ _ _ h => h) (by kernel_rfl) hCalm ?_ ?_
      rotate_left
      · intro wS hS; (try dsimp only at hS); go_simp <;> with_reducible rfl
      try simp only [Act.put, List.setIfInBounds_toArray, List.set_cons_zero, List.set_cons_succ]
      refine grow_take 44 (some 0) ?_ rfl rfl (by kernel_rfl) (fun _ _ _ h => h) (by kernel_rfl) hCalm ?_ ?_
      rotate_left
      · intro wS hS; (try dsimp only at hS); go_simp <;> with_reducible rfl
      try simp only [Act.put, List.setIfInBounds_toArray, List.set_cons_zero]
      refine grow_done (by kernel_rfl) (fun wA hA => ?_) _
      have hbb := hA.1
      go_wp2_with fail
      go_ret
      exact ⟨rfl, HB_9.out.trans (hbb.mono HB_9.out.size)⟩
    exact grow_nil
  refine grow_cons 41 rfl (by kernel_rfl) (fun wA hA K hK => ?_) ?_
  case _ =>
    obtain ⟨p41, hp⟩ : ∃ b, b = wA.heap.size := ⟨_, rfl⟩
    have hnew : Smz (wA.alloc (.cells #[.int .i64 103, .int .i64 2, .int .i64 1, .int .i64 110, .int .i64 1, .int .i64 1] 64)) (some ⟨p41, 0, none⟩) [sb, sa] := by rw [hp]; exact rz_of_cells (l := [sb, sa]) (cs := smc) (k := 3) (fun _ => rfl) (Blk.new wA 64 #[.int .i64 103, .int .i64 2, .int .i64 1, .int .i64 110, .int .i64 1, .int .i64 1])
    go_simp
    rw [← hp]
    refine hK.out _ _ (fun w' => Below v8.heap.size v8 w' ∧ Smz w' (some ⟨p41, 0, none⟩) [sb, sa]) ⟨fun w2 h2 => ⟨(A_9.out.below h2.1 A_9.out.lt).cell (i := 0) (v := .int .i64 110) rfl, (A_9.out.below h2.1 A_9.out.lt).cell (i := 1) (v := .int .i64 1) rfl, (A_9.out.below h2.1 A_9.out.lt).cell (i := 2) (v := .int .i64 1) rfl, (B_9.out.below h2.1 B_9.out.lt).cell (i := 0) (v := .int .i64 103) rfl, (B_9.out.below h2.1 B_9.out.lt).cell (i := 1) (v := .int .i64 2) rfl, (B_9.out.below h2.1 B_9.out.lt).cell (i := 2) (v := .int .i64 1) rfl, FK_9.out.below h2.1 (Nat.le_refl _), FM_9.out.below h2.1 (Nat.le_refl _)⟩, fun w2 w3 h2 hb2 => ⟨h2.1.trans (hb2.mono h2.1.size), h2.2.below hb2 (Nat.le_refl _)⟩⟩ ⟨hA.alloc hA.size _, hnew⟩ ?_
    clear hnew hp hK K hA wA hCalm
    have hCalm : Calm (fun w' => w'.cell? ⟨(v3.heap.size + 1), 0, none⟩ = some (.int .i64 110) ∧ w'.cell? ⟨(v3.heap.size + 1), 1, none⟩ = some (.int .i64 1) ∧ w'.cell? ⟨(v3.heap.size + 1), 2, none⟩ = some (.int .i64 1) ∧ w'.cell? ⟨(v3.heap.size + 2), 0, none⟩ = some (.int .i64 103) ∧ w'.cell? ⟨(v3.heap.size + 2), 1, none⟩ = some (.int .i64 2) ∧ w'.cell? ⟨(v3.heap.size + 2), 2, none⟩ = some (.int .i64 1) ∧ Kz w' (some ⟨g1, 0, none⟩) l0 ∧ Mz w' (some ⟨g2, 0, none⟩) m0) (fun w' => Below v8.heap.size v8 w' ∧ Smz w' (some ⟨p41, 0, none⟩) [sb, sa]) := ⟨fun w2 h2 => ⟨(A_9.out.below h2.1 A_9.out.lt).cell (i := 0) (v := .int .i64 110) rfl, (A_9.out.below h2.1 A_9.out.lt).cell (i := 1) (v := .int .i64 1) rfl, (A_9.out.below h2.1 A_9.out.lt).cell (i := 2) (v := .int .i64 1) rfl, (B_9.out.below h2.1 B_9.out.lt).cell (i := 0) (v := .int .i64 103) rfl, (B_9.out.below h2.1 B_9.out.lt).cell (i := 1) (v := .int .i64 2) rfl, (B_9.out.below h2.1 B_9.out.lt).cell (i := 2) (v := .int .i64 1) rfl, FK_9.out.below h2.1 (Nat.le_refl _), FM_9.out.below h2.1 (Nat.le_refl _)⟩, fun w2 w3 h2 hb2 => ⟨h2.1.trans (hb2.mono h2.1.size), h2.2.below hb2 (Nat.le_refl _)⟩⟩
    try simp only [Act.put, List.setIfInBounds_toArray, List.set_cons_zero, List.set_cons_succ]
    refine grow_each [37] (by kernel_rfl) (by decide) ?_
    refine grow_cons 37 rfl (by kernel_rfl) (fun wA hA K hK => ?_) grow_nil
    obtain ⟨p37, hp⟩ : ∃ b, b = wA.heap.size := ⟨_, rfl⟩
    have hnew : Smz (wA.alloc (.cells #[.int .i64 110, .int .i64 1, .int .i64 1, .int .i64 103, .int .i64 2, .int .i64 1] 64)) (some ⟨p37, 0, none⟩) [sa, sb] := by rw [hp]; exact rz_of_cells (l := [sa, sb]) (cs := smc) (k := 3) (fun _ => rfl) (Blk.new wA 64 #[.int .i64 110, .int .i64 1, .int .i64 1, .int .i64 103, .int .i64 2, .int .i64 1])
    go_simp
    rw [← hp]
    refine hK.out _ _ (fun w' => Below v8.heap.size v8 w' ∧ Smz w' (some ⟨p41, 0, none⟩) [sb, sa] ∧ Smz w' (some ⟨p37, 0, none⟩) [sa, sb]) ⟨fun w2 h2 => ⟨(A_9.out.below h2.1 A_9.out.lt).cell (i := 0) (v := .int .i64 110) rfl, (A_9.out.below h2.1 A_9.out.lt).cell (i := 1) (v := .int .i64 1) rfl, (A_9.out.below h2.1 A_9.out.lt).cell (i := 2) (v := .int .i64 1) rfl, (B_9.out.below h2.1 B_9.out.lt).cell (i := 0) (v := .int .i64 103) rfl, (B_9.out.below h2.1 B_9.out.lt).cell (i := 1) (v := .int .i64 2) rfl, (B_9.out.below h2.1 B_9.out.lt).cell (i := 2) (v := .int .i64 1) rfl, FK_9.out.below h2.1 (Nat.le_refl _), FM_9.out.below h2.1 (Nat.le_refl _)⟩, fun w2 w3 h2 hb2 => ⟨h2.1.trans (hb2.mono h2.1.size), h2.2.1.below hb2 (Nat.le_refl _), h2.2.2.below hb2 (Nat.le_refl _)⟩⟩ ⟨hA.1.alloc hA.1.size _, hA.2.below ((Below.refl _ _).alloc (Nat.le_refl _) _) (Nat.le_refl _), hnew⟩ ?_
    clear hnew hp hK K hA wA hCalm
    have hCalm : Calm (fun w' => w'.cell? ⟨(v3.heap.size + 1), 0, none⟩ = some (.int .i64 110) ∧ w'.cell? ⟨(v3.heap.size + 1), 1, none⟩ = some (.int .i64 1) ∧ w'.cell? ⟨(v3.heap.size + 1), 2, none⟩ = some (.int .i64 1) ∧ w'.cell? ⟨(v3.heap.size + 2), 0, none⟩ = some (.int .i64 103) ∧ w'.cell? ⟨(v3.heap.size + 2), 1, none⟩ = some (.int .i64 2) ∧ w'.cell? ⟨(v3.heap.size + 2), 2, none⟩ = some (.int .i64 1) ∧ Kz w' (some ⟨g1, 0, none⟩) l0 ∧ Mz w' (some ⟨g2, 0, none⟩) m0) (fun w' => Below v8.heap.size v8 w' ∧ Smz w' (some ⟨p41, 0, none⟩) [sb, sa] ∧ Smz w' (some ⟨p37, 0, none⟩) [sa, sb]) := ⟨fun w2 h2 => ⟨(A_9.out.below h2.1 A_9.out.lt).cell (i := 0) (v := .int .i64 110) rfl, (A_9.out.below h2.1 A_9.out.lt).cell (i := 1) (v := .int .i64 1) rfl, (A_9.out.below h2.1 A_9.out.lt).cell (i := 2) (v := .int .i64 1) rfl, (B_9.out.below h2.1 B_9.out.lt).cell (i := 0) (v := .int .i64 103) rfl, (B_9.out.below h2.1 B_9.out.lt).cell (i := 1) (v := .int .i64 2) rfl, (B_9.out.below h2.1 B_9.out.lt).cell (i := 2) (v := .int .i64 1) rfl, FK_9.out.below h2.1 (Nat.le_refl _), FM_9.out.below h2.1 (Nat.le_refl _)⟩, fun w2 w3 h2 hb2 => ⟨h2.1.trans (hb2.mono h2.1.size), h2.2.1.below hb2 (Nat.le_refl _), h2.2.2.below hb2 (Nat.le_refl _)⟩⟩
    try simp only [Act.put, List.setIfInBounds_toArray, List.set_cons_zero, List.set_cons_succ]
    refine grow_each [38] (by kernel_rfl) (by decide) ?_
    refine grow_cons 38 rfl (by kernel_rfl) (fun wA hA K hK => ?_) grow_nil
    go_simp
    refine (sane_s wA p37 hA.2.2).mono ?_
    rintro e v ⟨⟨A38, c38, rfl, hz⟩, hb⟩
    refine hK.out _ _ (fun w' => Below v8.heap.size v8 w' ∧ Smz w' (some ⟨p41, 0, none⟩) [sb, sa] ∧ Smz w' (some ⟨p37, 0, none⟩) [sa, sb] ∧ Smz w' A38 [sb, sa]) ⟨fun w2 h2 => ⟨(A_9.out.below h2.1 A_9.out.lt).cell (i := 0) (v := .int .i64 110) rfl, (A_9.out.below h2.1 A_9.out.lt).cell (i := 1) (v := .int .i64 1) rfl, (A_9.out.below h2.1 A_9.out.lt).cell (i := 2) (v := .int .i64 1) rfl, (B_9.out.below h2.1 B_9.out.lt).cell (i := 0) (v := .int .i64 103) rfl, (B_9.out.below h2.1 B_9.out.lt).cell (i := 1) (v := .int .i64 2) rfl, (B_9.out.below h2.1 B_9.out.lt).cell (i := 2) (v := .int .i64 1) rfl, FK_9.out.below h2.1 (Nat.le_refl _), FM_9.out.below h2.1 (Nat.le_refl _)⟩, fun w2 w3 h2 hb2 => ⟨h2.1.trans (hb2.mono h2.1.size), h2.2.1.below hb2 (Nat.le_refl _), h2.2.2.1.below hb2 (Nat.le_refl _), h2.2.2.2.below hb2 (Nat.le_refl _)⟩⟩ ⟨hA.1.trans (hb.mono hA.1.size), hA.2.1.below hb (Nat.le_refl _), hA.2.2.below hb (Nat.le_refl _), hz⟩ ?_
    clear hz hb hK K hA wA hCalm
    have hCalm : Calm (fun w' => w'.cell? ⟨(v3.heap.size + 1), 0, none⟩ = some (.int .i64 110) ∧ w'.cell? ⟨(v3.heap.size + 1), 1, none⟩ = some (.int .i64 1) ∧ w'.cell? ⟨(v3.heap.size + 1), 2, none⟩ = some (.int .i64 1) ∧ w'.cell? ⟨(v3.heap.size + 2), 0, none⟩ = some (.int .i64 103) ∧ w'.cell? ⟨(v3.heap.size + 2), 1, none⟩ = some (.int .i64 2) ∧ w'.cell? ⟨(v3.heap.size + 2), 2, none⟩ = some (.int .i64 1) ∧ Kz w' (some ⟨g1, 0, none⟩) l0 ∧ Mz w' (some ⟨g2, 0, none⟩) m0) (fun w' => Below v8.heap.size v8 w' ∧ Smz w' (some ⟨p41, 0, none⟩) [sb, sa] ∧ Smz w' (some ⟨p37, 0, none⟩) [sa, sb] ∧ Smz w' A38 [sb, sa]) := ⟨fun w2 h2 => ⟨(A_9.out.below h2.1 A_9.out.lt).cell (i := 0) (v := .int .i64 110) rfl, (A_9.out.below h2.1 A_9.out.lt).cell (i := 1) (v := .int .i64 1) rfl, (A_9.out.below h2.1 A_9.out.lt).cell (i := 2) (v := .int .i64 1) rfl, (B_9.out.below h2.1 B_9.out.lt).cell (i := 0) (v := .int .i64 103) rfl, (B_9.out.below h2.1 B_9.out.lt).cell (i := 1) (v := .int .i64 2) rfl, (B_9.out.below h2.1 B_9.out.lt).cell (i := 2) (v := .int .i64 1) rfl, FK_9.out.below h2.1 (Nat.le_refl _), FM_9.out.below h2.1 (Nat.le_refl _)⟩, fun w2 w3 h2 hb2 => ⟨h2.1.trans (hb2.mono h2.1.size), h2.2.1.below hb2 (Nat.le_refl _), h2.2.2.1.below hb2 (Nat.le_refl _), h2.2.2.2.below hb2 (Nat.le_refl _)⟩⟩
    try simp only [Act.put, List.setIfInBounds_toArray, List.set_cons_zero, List.set_cons_succ]
    refine grow_each [42] (by kernel_rfl) (by decide) ?_
    refine grow_cons 42 rfl (by kernel_rfl) (fun wA hA K hK => ?_) grow_nil
    go_simp
    refine (sane_e wA A38 c38 p41 hA.2.2.2 hA.2.1).mono ?_
    rintro e v ⟨rfl, hb⟩
    refine hK.out _ _ (fun w' => Below v8.heap.size v8 w' ∧ Smz w' (some ⟨p41, 0, none⟩) [sb, sa] ∧ Smz w' (some ⟨p37, 0, none⟩) [sa, sb] ∧ Smz w' A38 [sb, sa]) ⟨fun w2 h2 => ⟨(A_9.out.below h2.1 A_9.out.lt).cell (i := 0) (v := .int .i64 110) rfl, (A_9.out.below h2.1 A_9.out.lt).cell (i := 1) (v := .int .i64 1) rfl, (A_9.out.below h2.1 A_9.out.lt).cell (i := 2) (v := .int .i64 1) rfl, (B_9.out.below h2.1 B_9.out.lt).cell (i := 0) (v := .int .i64 103) rfl, (B_9.out.below h2.1 B_9.out.lt).cell (i := 1) (v := .int .i64 2) rfl, (B_9.out.below h2.1 B_9.out.lt).cell (i := 2) (v := .int .i64 1) rfl, FK_9.out.below h2.1 (Nat.le_refl _), FM_9.out.below h2.1 (Nat.le_refl _)⟩, fun w2 w3 h2 hb2 => ⟨h2.1.trans (hb2.mono h2.1.size), h2.2.1.below hb2 (Nat.le_refl _), h2.2.2.1.below hb2 (Nat.le_refl _), h2.2.2.2.below hb2 (Nat.le_refl _)⟩⟩ ⟨hA.1.trans (hb.mono hA.1.size), hA.2.1.below hb (Nat.le_refl _), hA.2.2.1.below hb (Nat.le_refl _), hA.2.2.2.below hb (Nat.le_refl _)⟩ ?_
    clear hb hK K hA wA hCalm
    have hCalm : Calm (fun w' => w'.cell? ⟨(v3.heap.size + 1), 0, none⟩ = some (.int .i64 110) ∧ w'.cell? ⟨(v3.heap.size + 1), 1, none⟩ = some (.int .i64 1) ∧ w'.cell? ⟨(v3.heap.size + 1), 2, none⟩ = some (.int .i64 1) ∧ w'.cell? ⟨(v3.heap.size + 2), 0, none⟩ = some (.int .i64 103) ∧ w'.cell? ⟨(v3.heap.size + 2), 1, none⟩ = some (.int .i64 2) ∧ w'.cell? ⟨(v3.heap.size + 2), 2, none⟩ = some (.int .i64 1) ∧ Kz w' (some ⟨g1, 0, none⟩) l0 ∧ Mz w' (some ⟨g2, 0, none⟩) m0) (fun w' => Below v8.heap.size v8 w' ∧ Smz w' (some ⟨p41, 0, none⟩) [sb, sa] ∧ Smz w' (some ⟨p37, 0, none⟩) [sa, sb] ∧ Smz w' A38 [sb, sa]) := ⟨fun w2 h2 => ⟨(A_9.out.below h2.1 A_9.out.lt).cell (i := 0) (v := .int .i64 110) rfl, (A_9.out.below h2.1 A_9.out.lt).cell (i := 1) (v := .int .i64 1) rfl, (A_9.out.below h2.1 A_9.out.lt).cell (i := 2) (v := .int .i64 1) rfl, (B_9.out.below h2.1 B_9.out.lt).cell (i := 0) (v := .int .i64 103) rfl, (B_9.out.below h2.1 B_9.out.lt).cell (i := 1) (v := .int .i64 2) rfl, (B_9.out.below h2.1 B_9.out.lt).cell (i := 2) (v := .int .i64 1) rfl, FK_9.out.below h2.1 (Nat.le_refl _), FM_9.out.below h2.1 (Nat.le_refl _)⟩, fun w2 w3 h2 hb2 => ⟨h2.1.trans (hb2.mono h2.1.size), h2.2.1.below hb2 (Nat.le_refl _), h2.2.2.1.below hb2 (Nat.le_refl _), h2.2.2.2.below hb2 (Nat.le_refl _)⟩⟩
    try simp only [Act.put, List.setIfInBounds_toArray, List.set_cons_zero, List.set_cons_succ]
    refine grow_take 43 (some 182) ?_ rfl rfl (by kernel_rfl) (fun _ _ _ h => h) (by kernel_rfl) hCalm ?_ ?_
    rotate_left
    · intro wS hS; (try dsimp only at hS); go_simp <;> with_reducible rfl
    try simp only [Act.put, List.setIfInBounds_toArray, List.set_cons_zero, List.set_cons_succ]
    refine grow_take 44 (some 0) ?_ rfl rfl (by kernel_rfl) (fun _ _ _ h => h) (by kernel_rfl) hCalm ?_ ?_
    rotate_left
    · intro wS hS; (try dsimp only at hS); go_simp <;> with_reducible rfl
    try simp only [Act.put, List.setIfInBounds_toArray, List.set_cons_zero]
    refine grow_done (by kernel_rfl) (fun wA hA => ?_) _
    have hbb := hA.1
    go_wp2_with fail
    go_ret
    exact ⟨rfl, HB_9.out.trans (hbb.mono HB_9.out.size)⟩
  exact grow_nil
end Go.Proofs.Ytbcgfohacbapoaa
