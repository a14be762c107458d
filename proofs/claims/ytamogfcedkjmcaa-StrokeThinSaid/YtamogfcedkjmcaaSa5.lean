
/- The contracts of small functions of package stroke: isFrom, isTolerance, onBoard, place, from, along, across. Conditions: numbers that do not overflow. -/
import Derived.Test.YtamogfcedkjmcaaPl5
import Derived.Test.YtamogfcedkjmcaaNr5
namespace Go.Proofs.Ytamogfcedkjmcaa
open Go.RowKit Go.Lib

set_option maxRecDepth 100000 in
set_option maxHeartbeats 4000000 in
theorem pfrom_any (n a b : Int) (w : World) :
    Calls Try.prog 47 #[.int .i64 n, .int .i64 a, .int .i64 b] w fun e w' => e = .returned (.bool (decide (a ≤ n ∧ n ≤ b))) ∧ Below w.heap.size w w' := by
  by_cases h1 : a ≤ n
  · by_cases h2 : n ≤ b
    · have e : decide (a ≤ n ∧ n ≤ b) = true := decide_eq_true ⟨h1, h2⟩
      rw [e]; clear e
      go_enter Try.func47, Try.ntmps47
      go_wp2_with fail
      go_ret
      exact ⟨rfl, Below.refl _ _⟩
    · have e : decide (a ≤ n ∧ n ≤ b) = false := decide_eq_false fun h => h2 h.2
      rw [e]; clear e
      go_enter Try.func47, Try.ntmps47
      go_wp2_with fail
      go_ret
      exact ⟨rfl, Below.refl _ _⟩
  · have e : decide (a ≤ n ∧ n ≤ b) = false := decide_eq_false fun h => h1 h.1
    rw [e]; clear e
    have hundef := un_none
    go_enter Try.func47, Try.ntmps47
    go_wp2_with fail
    go_ret
    exact ⟨rfl, Below.refl _ _⟩
theorem pfrom_yes (n a b : Int) (w : World) (h : a ≤ n ∧ n ≤ b) :
    Calls Try.prog 47 #[.int .i64 n, .int .i64 a, .int .i64 b] w fun e w' => e = .returned (.bool true) ∧ Below w.heap.size w w' := by
  have := pfrom_any n a b w
  rwa [decide_eq_true h] at this
theorem pfrom_not (n a b : Int) (w : World) (h : ¬ (a ≤ n ∧ n ≤ b)) :
    Calls Try.prog 47 #[.int .i64 n, .int .i64 a, .int .i64 b] w fun e w' => e = .returned (.bool false) ∧ Below w.heap.size w w' := by
  have := pfrom_any n a b w
  rwa [decide_eq_false h] at this
set_option maxRecDepth 100000 in
set_option maxHeartbeats 4000000 in
theorem ptol_any (n : Int) (w : World) :
    Calls Try.prog 52 #[.int .i64 n] w fun e w' => e = .returned (.bool (decide (0 ≤ n ∧ n ≤ 1000))) ∧ Below w.heap.size w w' := by
  have HC := Lib.hid (pfrom_any n 0 1000 w)
  go_enter Try.func52, Try.ntmps52
  go_wp2_with fail
  refine HC.out.mono ?_
  rintro e v0 ⟨rfl, hb⟩
  have HB := Lib.hid hb; clear hb HC
  go_wp2_with fail
  go_ret
  exact ⟨by simp, HB.out⟩
theorem ptol_yes (n : Int) (w : World) (h : 0 ≤ n ∧ n ≤ 1000) :
    Calls Try.prog 52 #[.int .i64 n] w fun e w' => e = .returned (.bool true) ∧ Below w.heap.size w w' := by
  have := ptol_any n w
  rwa [decide_eq_true h] at this
theorem ptol_not (n : Int) (w : World) (h : ¬ (0 ≤ n ∧ n ≤ 1000)) :
    Calls Try.prog 52 #[.int .i64 n] w fun e w' => e = .returned (.bool false) ∧ Below w.heap.size w w' := by
  have := ptol_any n w
  rwa [decide_eq_false h] at this
set_option maxRecDepth 100000 in
set_option maxHeartbeats 4000000 in
theorem pon_yes (x y : Int) (w : World) (h : OnP x y) :
    Calls Try.prog 48 #[.agg #[.int .i64 x, .int .i64 y]] w fun e w' => e = .returned (.bool true) ∧ Below w.heap.size w w' := by
  have HX := Lib.hid (fun W => pfrom_yes x 0 4095 W ⟨h.1, h.2.1⟩); have HY := Lib.hid (fun W => pfrom_yes y 0 4095 W h.2.2); clear h
  have P_0 : Hid (Blk (w.alloc (.cells #[.int .i64 x, .int .i64 y] 29)) w.heap.size 29 #[.int .i64 x, .int .i64 y]) := allocs_blk [(#[.int .i64 x, .int .i64 y], 29)] w 0 _ rfl
  have HB_0 : Hid (Below w.heap.size w (w.alloc (.cells #[.int .i64 x, .int .i64 y] 29))) := allocs_below [(#[.int .i64 x, .int .i64 y], 29)] w (Below.refl w.heap.size w) (Nat.le_refl _)
  go_enter Try.func48, Try.ntmps48
  have yy0 := P_0.out.cell (i := 0) (v := .int .i64 x) rfl; have yy1 := P_0.out.cell (i := 1) (v := .int .i64 y) rfl
  go_wp2_with fail
  refine (HX.out _).mono ?_
  rintro e v0 ⟨rfl, hb⟩
  clear yy0 yy1
  have P_1 : Hid (Blk v0 w.heap.size 29 #[.int .i64 x, .int .i64 y]) := Lib.hid (P_0.out.below hb P_0.out.lt)
  have HB_1 : Hid (Below w.heap.size w v0) := Lib.hid (HB_0.out.trans (hb.mono HB_0.out.size))
  clear hb P_0 HB_0
  have yy0 := P_1.out.cell (i := 0) (v := .int .i64 x) rfl; have yy1 := P_1.out.cell (i := 1) (v := .int .i64 y) rfl
  go_wp2_with fail
  refine (HY.out _).mono ?_
  rintro e v1 ⟨rfl, hb⟩
  clear yy0 yy1
  have P_2 : Hid (Blk v1 w.heap.size 29 #[.int .i64 x, .int .i64 y]) := Lib.hid (P_1.out.below hb P_1.out.lt)
  have HB_2 : Hid (Below w.heap.size w v1) := Lib.hid (HB_1.out.trans (hb.mono HB_1.out.size))
  clear hb P_1 HB_1
  go_wp2_with fail
  go_ret
  exact ⟨rfl, HB_2.out⟩
set_option maxRecDepth 100000 in
set_option maxHeartbeats 4000000 in
theorem pon_not1 (x y : Int) (w : World) (h : ¬ (0 ≤ x ∧ x ≤ 4095)) :
    Calls Try.prog 48 #[.agg #[.int .i64 x, .int .i64 y]] w fun e w' => e = .returned (.bool false) ∧ Below w.heap.size w w' := by
  have HX := Lib.hid (fun W => pfrom_not x 0 4095 W h); clear h
  have P_0 : Hid (Blk (w.alloc (.cells #[.int .i64 x, .int .i64 y] 29)) w.heap.size 29 #[.int .i64 x, .int .i64 y]) := allocs_blk [(#[.int .i64 x, .int .i64 y], 29)] w 0 _ rfl
  have HB_0 : Hid (Below w.heap.size w (w.alloc (.cells #[.int .i64 x, .int .i64 y] 29))) := allocs_below [(#[.int .i64 x, .int .i64 y], 29)] w (Below.refl w.heap.size w) (Nat.le_refl _)
  go_enter Try.func48, Try.ntmps48
  have yy0 := P_0.out.cell (i := 0) (v := .int .i64 x) rfl; have yy1 := P_0.out.cell (i := 1) (v := .int .i64 y) rfl
  go_wp2_with fail
  refine (HX.out _).mono ?_
  rintro e v0 ⟨rfl, hb⟩
  clear yy0 yy1
  have P_1 : Hid (Blk v0 w.heap.size 29 #[.int .i64 x, .int .i64 y]) := Lib.hid (P_0.out.below hb P_0.out.lt)
  have HB_1 : Hid (Below w.heap.size w v0) := Lib.hid (HB_0.out.trans (hb.mono HB_0.out.size))
  clear hb P_0 HB_0
  have hundef := un_none
  go_wp2_with fail
  go_ret
  exact ⟨rfl, HB_1.out⟩
set_option maxRecDepth 100000 in
set_option maxHeartbeats 4000000 in
theorem pon_not2 (x y : Int) (w : World) (h0 : 0 ≤ x ∧ x ≤ 4095) (h : ¬ (0 ≤ y ∧ y ≤ 4095)) :
    Calls Try.prog 48 #[.agg #[.int .i64 x, .int .i64 y]] w fun e w' => e = .returned (.bool false) ∧ Below w.heap.size w w' := by
  have HX := Lib.hid (fun W => pfrom_yes x 0 4095 W h0); have HY := Lib.hid (fun W => pfrom_not y 0 4095 W h); clear h h0
  have P_0 : Hid (Blk (w.alloc (.cells #[.int .i64 x, .int .i64 y] 29)) w.heap.size 29 #[.int .i64 x, .int .i64 y]) := allocs_blk [(#[.int .i64 x, .int .i64 y], 29)] w 0 _ rfl
  have HB_0 : Hid (Below w.heap.size w (w.alloc (.cells #[.int .i64 x, .int .i64 y] 29))) := allocs_below [(#[.int .i64 x, .int .i64 y], 29)] w (Below.refl w.heap.size w) (Nat.le_refl _)
  go_enter Try.func48, Try.ntmps48
  have yy0 := P_0.out.cell (i := 0) (v := .int .i64 x) rfl; have yy1 := P_0.out.cell (i := 1) (v := .int .i64 y) rfl
  go_wp2_with fail
  refine (HX.out _).mono ?_
  rintro e v0 ⟨rfl, hb⟩
  clear yy0 yy1
  have P_1 : Hid (Blk v0 w.heap.size 29 #[.int .i64 x, .int .i64 y]) := Lib.hid (P_0.out.below hb P_0.out.lt)
  have HB_1 : Hid (Below w.heap.size w v0) := Lib.hid (HB_0.out.trans (hb.mono HB_0.out.size))
  clear hb P_0 HB_0
  have yy0 := P_1.out.cell (i := 0) (v := .int .i64 x) rfl; have yy1 := P_1.out.cell (i := 1) (v := .int .i64 y) rfl
  go_wp2_with fail
  refine (HY.out _).mono ?_
  rintro e v1 ⟨rfl, hb⟩
  clear yy0 yy1
  have P_2 : Hid (Blk v1 w.heap.size 29 #[.int .i64 x, .int .i64 y]) := Lib.hid (P_1.out.below hb P_1.out.lt)
  have HB_2 : Hid (Below w.heap.size w v1) := Lib.hid (HB_1.out.trans (hb.mono HB_1.out.size))
  clear hb P_1 HB_1
  go_wp2_with fail
  go_ret
  exact ⟨rfl, HB_2.out⟩
theorem pon_not (x y : Int) (w : World) (h : ¬ OnP x y) :
    Calls Try.prog 48 #[.agg #[.int .i64 x, .int .i64 y]] w fun e w' => e = .returned (.bool false) ∧ Below w.heap.size w w' := by
  by_cases h0 : 0 ≤ x ∧ x ≤ 4095
  · exact pon_not2 x y w h0 (fun h1 => h ⟨h0.1, h0.2, h1⟩)
  · exact pon_not1 x y w h0
set_option maxRecDepth 100000 in
set_option maxHeartbeats 4000000 in
theorem pplace_any (x y t p : Int) (w : World) :
    Calls Try.prog 42 #[.agg #[.int .i64 x, .int .i64 y, .int .i64 t, .int .i64 p]] w fun e w' => e = .returned (.agg #[.int .i64 x, .int .i64 y]) ∧ Below w.heap.size w w' := by
  have D_0 : Hid (Blk ((w.alloc (.cells #[.int .i64 x, .int .i64 y, .int .i64 t, .int .i64 p] 24)).alloc (.cells #[.int .i64 0, .int .i64 0] 29)) w.heap.size 24 #[.int .i64 x, .int .i64 y, .int .i64 t, .int .i64 p]) := allocs_blk [(#[.int .i64 x, .int .i64 y, .int .i64 t, .int .i64 p], 24), (#[.int .i64 0, .int .i64 0], 29)] w 0 _ rfl
  have R_0 : Hid (Blk ((w.alloc (.cells #[.int .i64 x, .int .i64 y, .int .i64 t, .int .i64 p] 24)).alloc (.cells #[.int .i64 0, .int .i64 0] 29)) (w.heap.size + 1) 29 #[.int .i64 0, .int .i64 0]) := allocs_blk [(#[.int .i64 x, .int .i64 y, .int .i64 t, .int .i64 p], 24), (#[.int .i64 0, .int .i64 0], 29)] w 1 _ rfl
  have HB_0 : Hid (Below w.heap.size w ((w.alloc (.cells #[.int .i64 x, .int .i64 y, .int .i64 t, .int .i64 p] 24)).alloc (.cells #[.int .i64 0, .int .i64 0] 29))) := allocs_below [(#[.int .i64 x, .int .i64 y, .int .i64 t, .int .i64 p], 24), (#[.int .i64 0, .int .i64 0], 29)] w (Below.refl w.heap.size w) (Nat.le_refl _)
  have yy0 := D_0.out.cell (i := 0) (v := .int .i64 x) rfl; have yy1 := D_0.out.cell (i := 1) (v := .int .i64 y) rfl; have yy2 := D_0.out.cell (i := 2) (v := .int .i64 t) rfl; have yy3 := D_0.out.cell (i := 3) (v := .int .i64 p) rfl
  have yy4 := R_0.out.cell (i := 0) (v := .int .i64 0) rfl; have yy5 := R_0.out.cell (i := 1) (v := .int .i64 0) rfl
  have fR := R_0.out.frozen 0; have fR1 := R_0.out.frozen 1
  go_enter Try.func42, Try.ntmps42
  go_wp2_with fail
  refine bodyPost_ret (v := .agg #[.int .i64 x, .int .i64 y]) (by simp [results, Try.results42, go_sem]) rfl ⟨rfl, ?_⟩
  exact allocs_below [(#[.int .i64 x, .int .i64 y, .int .i64 t, .int .i64 p], 24), (#[.int .i64 x, .int .i64 y], 29)] w (Below.refl _ _) (Nat.le_refl _)
set_option maxRecDepth 100000 in
set_option maxHeartbeats 4000000 in
theorem pdiff_any (ax ay bx by_ : Int) (w : World) (ha : OnP ax ay) (hb : OnP bx by_) :
    Calls Try.prog 43 #[.agg #[.int .i64 ax, .int .i64 ay], .agg #[.int .i64 bx, .int .i64 by_]] w fun e w' => e = .returned (.agg #[.int .i64 (bx - ax), .int .i64 (by_ - ay)]) ∧ Below w.heap.size w w' := by
  unfold OnP at ha hb
  have e1 : IntKind.i64.wrap (bx - ax) = bx - ax := IntWalk.i64_in _ (by omega)
  have e2 : IntKind.i64.wrap (by_ - ay) = by_ - ay := IntWalk.i64_in _ (by omega)
  clear ha hb
  have A_0 : Hid (Blk (((w.alloc (.cells #[.int .i64 ax, .int .i64 ay] 29)).alloc (.cells #[.int .i64 bx, .int .i64 by_] 29)).alloc (.cells #[.int .i64 0, .int .i64 0] 29)) w.heap.size 29 #[.int .i64 ax, .int .i64 ay]) := allocs_blk [(#[.int .i64 ax, .int .i64 ay], 29), (#[.int .i64 bx, .int .i64 by_], 29), (#[.int .i64 0, .int .i64 0], 29)] w 0 _ rfl
  have B_0 : Hid (Blk (((w.alloc (.cells #[.int .i64 ax, .int .i64 ay] 29)).alloc (.cells #[.int .i64 bx, .int .i64 by_] 29)).alloc (.cells #[.int .i64 0, .int .i64 0] 29)) (w.heap.size + 1) 29 #[.int .i64 bx, .int .i64 by_]) := allocs_blk [(#[.int .i64 ax, .int .i64 ay], 29), (#[.int .i64 bx, .int .i64 by_], 29), (#[.int .i64 0, .int .i64 0], 29)] w 1 _ rfl
  have R_0 : Hid (Blk (((w.alloc (.cells #[.int .i64 ax, .int .i64 ay] 29)).alloc (.cells #[.int .i64 bx, .int .i64 by_] 29)).alloc (.cells #[.int .i64 0, .int .i64 0] 29)) (w.heap.size + 2) 29 #[.int .i64 0, .int .i64 0]) := allocs_blk [(#[.int .i64 ax, .int .i64 ay], 29), (#[.int .i64 bx, .int .i64 by_], 29), (#[.int .i64 0, .int .i64 0], 29)] w 2 _ rfl
  have HB_0 : Hid (Below w.heap.size w (((w.alloc (.cells #[.int .i64 ax, .int .i64 ay] 29)).alloc (.cells #[.int .i64 bx, .int .i64 by_] 29)).alloc (.cells #[.int .i64 0, .int .i64 0] 29))) := allocs_below [(#[.int .i64 ax, .int .i64 ay], 29), (#[.int .i64 bx, .int .i64 by_], 29), (#[.int .i64 0, .int .i64 0], 29)] w (Below.refl w.heap.size w) (Nat.le_refl _)
  have yy0 := A_0.out.cell (i := 0) (v := .int .i64 ax) rfl; have yy1 := A_0.out.cell (i := 1) (v := .int .i64 ay) rfl
  have yy2 := B_0.out.cell (i := 0) (v := .int .i64 bx) rfl; have yy3 := B_0.out.cell (i := 1) (v := .int .i64 by_) rfl
  have yy4 := R_0.out.cell (i := 0) (v := .int .i64 0) rfl; have yy5 := R_0.out.cell (i := 1) (v := .int .i64 0) rfl
  have fR := R_0.out.frozen 0; have fR1 := R_0.out.frozen 1
  go_enter Try.func43, Try.ntmps43
  go_wp2_with fail
  refine bodyPost_ret (v := .agg #[.int .i64 (bx - ax), .int .i64 (by_ - ay)]) (by simp [results, Try.results43, go_sem]) rfl ⟨rfl, ?_⟩
  exact allocs_below [(#[.int .i64 ax, .int .i64 ay], 29), (#[.int .i64 bx, .int .i64 by_], 29), (#[.int .i64 (bx - ax), .int .i64 (by_ - ay)], 29)] w (Below.refl _ _) (Nat.le_refl _)
set_option maxRecDepth 100000 in
set_option maxHeartbeats 4000000 in
theorem palong_any (ax ay bx by_ : Int) (w : World) (ha : (-4095 ≤ ax ∧ ax ≤ 4095) ∧ (-4095 ≤ ay ∧ ay ≤ 4095)) (hb : (-4095 ≤ bx ∧ bx ≤ 4095) ∧ (-4095 ≤ by_ ∧ by_ ≤ 4095)) :
    Calls Try.prog 63 #[.agg #[.int .i64 ax, .int .i64 ay], .agg #[.int .i64 bx, .int .i64 by_]] w fun e w' => e = .returned (.int .i64 (ax * bx + ay * by_)) ∧ Below w.heap.size w w' := by
  have h1 := mul_le_of (a := ax) (b := bx) (n := 4095) (m := 4095) (by omega) (by omega) (by omega) (by omega)
  have h2 := mul_le_of (a := ay) (b := by_) (n := 4095) (m := 4095) (by omega) (by omega) (by omega) (by omega)
  have e1 : IntKind.i64.wrap (ax * bx) = ax * bx := IntWalk.i64_in _ (by omega)
  have e2 : IntKind.i64.wrap (ay * by_) = ay * by_ := IntWalk.i64_in _ (by omega)
  have e3 : IntKind.i64.wrap (ax * bx + ay * by_) = ax * bx + ay * by_ := IntWalk.i64_in _ (by omega)
  clear h1 h2 ha hb
  have A_0 : Hid (Blk ((w.alloc (.cells #[.int .i64 ax, .int .i64 ay] 29)).alloc (.cells #[.int .i64 bx, .int .i64 by_] 29)) w.heap.size 29 #[.int .i64 ax, .int .i64 ay]) := allocs_blk [(#[.int .i64 ax, .int .i64 ay], 29), (#[.int .i64 bx, .int .i64 by_], 29)] w 0 _ rfl
  have B_0 : Hid (Blk ((w.alloc (.cells #[.int .i64 ax, .int .i64 ay] 29)).alloc (.cells #[.int .i64 bx, .int .i64 by_] 29)) (w.heap.size + 1) 29 #[.int .i64 bx, .int .i64 by_]) := allocs_blk [(#[.int .i64 ax, .int .i64 ay], 29), (#[.int .i64 bx, .int .i64 by_], 29)] w 1 _ rfl
  have HB_0 : Hid (Below w.heap.size w ((w.alloc (.cells #[.int .i64 ax, .int .i64 ay] 29)).alloc (.cells #[.int .i64 bx, .int .i64 by_] 29))) := allocs_below [(#[.int .i64 ax, .int .i64 ay], 29), (#[.int .i64 bx, .int .i64 by_], 29)] w (Below.refl w.heap.size w) (Nat.le_refl _)
  have yy0 := A_0.out.cell (i := 0) (v := .int .i64 ax) rfl; have yy1 := A_0.out.cell (i := 1) (v := .int .i64 ay) rfl
  have yy2 := B_0.out.cell (i := 0) (v := .int .i64 bx) rfl; have yy3 := B_0.out.cell (i := 1) (v := .int .i64 by_) rfl
  go_enter Try.func63, Try.ntmps63
  go_wp2_with fail
  go_ret
  exact ⟨rfl, HB_0.out⟩
set_option maxRecDepth 100000 in
set_option maxHeartbeats 4000000 in
theorem pacross_any (ax ay bx by_ : Int) (w : World) (ha : (-4095 ≤ ax ∧ ax ≤ 4095) ∧ (-4095 ≤ ay ∧ ay ≤ 4095)) (hb : (-4095 ≤ bx ∧ bx ≤ 4095) ∧ (-4095 ≤ by_ ∧ by_ ≤ 4095)) :
    Calls Try.prog 64 #[.agg #[.int .i64 ax, .int .i64 ay], .agg #[.int .i64 bx, .int .i64 by_]] w fun e w' => e = .returned (.int .i64 (ax * by_ - ay * bx)) ∧ Below w.heap.size w w' := by
  have h1 := mul_le_of (a := ax) (b := by_) (n := 4095) (m := 4095) (by omega) (by omega) (by omega) (by omega)
  have h2 := mul_le_of (a := ay) (b := bx) (n := 4095) (m := 4095) (by omega) (by omega) (by omega) (by omega)
  have e1 : IntKind.i64.wrap (ax * by_) = ax * by_ := IntWalk.i64_in _ (by omega)
  have e2 : IntKind.i64.wrap (ay * bx) = ay * bx := IntWalk.i64_in _ (by omega)
  have e3 : IntKind.i64.wrap (ax * by_ - ay * bx) = ax * by_ - ay * bx := IntWalk.i64_in _ (by omega)
  clear h1 h2 ha hb
  have A_0 : Hid (Blk ((w.alloc (.cells #[.int .i64 ax, .int .i64 ay] 29)).alloc (.cells #[.int .i64 bx, .int .i64 by_] 29)) w.heap.size 29 #[.int .i64 ax, .int .i64 ay]) := allocs_blk [(#[.int .i64 ax, .int .i64 ay], 29), (#[.int .i64 bx, .int .i64 by_], 29)] w 0 _ rfl
  have B_0 : Hid (Blk ((w.alloc (.cells #[.int .i64 ax, .int .i64 ay] 29)).alloc (.cells #[.int .i64 bx, .int .i64 by_] 29)) (w.heap.size + 1) 29 #[.int .i64 bx, .int .i64 by_]) := allocs_blk [(#[.int .i64 ax, .int .i64 ay], 29), (#[.int .i64 bx, .int .i64 by_], 29)] w 1 _ rfl
  have HB_0 : Hid (Below w.heap.size w ((w.alloc (.cells #[.int .i64 ax, .int .i64 ay] 29)).alloc (.cells #[.int .i64 bx, .int .i64 by_] 29))) := allocs_below [(#[.int .i64 ax, .int .i64 ay], 29), (#[.int .i64 bx, .int .i64 by_], 29)] w (Below.refl w.heap.size w) (Nat.le_refl _)
  have yy0 := A_0.out.cell (i := 0) (v := .int .i64 ax) rfl; have yy1 := A_0.out.cell (i := 1) (v := .int .i64 ay) rfl
  have yy2 := B_0.out.cell (i := 0) (v := .int .i64 bx) rfl; have yy3 := B_0.out.cell (i := 1) (v := .int .i64 by_) rfl
  go_enter Try.func64, Try.ntmps64
  go_wp2_with fail
  go_ret
  exact ⟨rfl, HB_0.out⟩
end Go.Proofs.Ytamogfcedkjmcaa
