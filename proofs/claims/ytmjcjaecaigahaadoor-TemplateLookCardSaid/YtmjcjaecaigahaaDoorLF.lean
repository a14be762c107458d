/- The contracts of small functions of package stroke: isFrom, isTolerance, onBoard, place, from, along, across. Conditions: numbers that do not overflow. | The contracts of template's small functions: isFrom, size, lean, turn, onBoard, direction, Direction. Conditions: the table of directions read; sizes that do not overflow. | Slices of ints that read; the contracts of the reference's Ints and first. Conditions: the slices read. | The fewest indices that say enough: lists from 0 to an index, their order, the least one, and how it is found from those before. No conditions. -/
import Derived.Deep.CutRange
import Derived.Test.YtmjcjaecaigahaaDoorLE
import Derived.Test.YtmjcjaecaigahaaDoorLD
import Derived.Test.YtmjcjaecaigahaaDoorLC
import Derived.Test.YtmjcjaecaigahaaDoorLA
namespace Go.Proofs.YtmjcjaecaigahaaDoor
open Go.RowKit Go.Lib

set_option maxRecDepth 100000 in
set_option maxHeartbeats 4000000 in
theorem pfrom_any (n a b : Int) (w : World) :
    Calls Tryd.prog 66 #[.int .i64 n, .int .i64 a, .int .i64 b] w fun e w' => e = .returned (.bool (decide (a ≤ n ∧ n ≤ b))) ∧ Below w.heap.size w w' := by
  by_cases h1 : a ≤ n
  · by_cases h2 : n ≤ b
    · have e : decide (a ≤ n ∧ n ≤ b) = true := decide_eq_true ⟨h1, h2⟩
      rw [e]; clear e
      go_enter Tryd.func66, Tryd.ntmps66
      go_wp2_with fail
      go_ret
      exact ⟨rfl, Below.refl _ _⟩
    · have e : decide (a ≤ n ∧ n ≤ b) = false := decide_eq_false fun h => h2 h.2
      rw [e]; clear e
      go_enter Tryd.func66, Tryd.ntmps66
      go_wp2_with fail
      go_ret
      exact ⟨rfl, Below.refl _ _⟩
  · have e : decide (a ≤ n ∧ n ≤ b) = false := decide_eq_false fun h => h1 h.1
    rw [e]; clear e
    have hundef := un_none
    go_enter Tryd.func66, Tryd.ntmps66
    go_wp2_with fail
    go_ret
    exact ⟨rfl, Below.refl _ _⟩
theorem pfrom_yes (n a b : Int) (w : World) (h : a ≤ n ∧ n ≤ b) :
    Calls Tryd.prog 66 #[.int .i64 n, .int .i64 a, .int .i64 b] w fun e w' => e = .returned (.bool true) ∧ Below w.heap.size w w' := by
  have := pfrom_any n a b w
  rwa [decide_eq_true h] at this
theorem pfrom_not (n a b : Int) (w : World) (h : ¬ (a ≤ n ∧ n ≤ b)) :
    Calls Tryd.prog 66 #[.int .i64 n, .int .i64 a, .int .i64 b] w fun e w' => e = .returned (.bool false) ∧ Below w.heap.size w w' := by
  have := pfrom_any n a b w
  rwa [decide_eq_false h] at this
set_option maxRecDepth 100000 in
set_option maxHeartbeats 4000000 in
theorem ptol_any (n : Int) (w : World) :
    Calls Tryd.prog 86 #[.int .i64 n] w fun e w' => e = .returned (.bool (decide (0 ≤ n ∧ n ≤ 1000))) ∧ Below w.heap.size w w' := by
  have HC := Lib.hid (pfrom_any n 0 1000 w)
  go_enter Tryd.func86, Tryd.ntmps86
  go_wp2_with fail
  refine HC.out.mono ?_
  rintro e v0 ⟨rfl, hb⟩
  have HB := Lib.hid hb; clear hb HC
  go_wp2_with fail
  go_ret
  exact ⟨by simp, HB.out⟩
theorem ptol_yes (n : Int) (w : World) (h : 0 ≤ n ∧ n ≤ 1000) :
    Calls Tryd.prog 86 #[.int .i64 n] w fun e w' => e = .returned (.bool true) ∧ Below w.heap.size w w' := by
  have := ptol_any n w
  rwa [decide_eq_true h] at this
theorem ptol_not (n : Int) (w : World) (h : ¬ (0 ≤ n ∧ n ≤ 1000)) :
    Calls Tryd.prog 86 #[.int .i64 n] w fun e w' => e = .returned (.bool false) ∧ Below w.heap.size w w' := by
  have := ptol_any n w
  rwa [decide_eq_false h] at this
set_option maxRecDepth 100000 in
set_option maxHeartbeats 4000000 in
theorem pon_yes (x y : Int) (w : World) (h : OnP x y) :
    Calls Tryd.prog 93 #[.agg #[.int .i64 x, .int .i64 y]] w fun e w' => e = .returned (.bool true) ∧ Below w.heap.size w w' := by
  have HX := Lib.hid (fun W => pfrom_yes x 0 4095 W ⟨h.1, h.2.1⟩); have HY := Lib.hid (fun W => pfrom_yes y 0 4095 W h.2.2); clear h
  have P_0 : Hid (Blk (w.alloc (.cells #[.int .i64 x, .int .i64 y] 28)) w.heap.size 28 #[.int .i64 x, .int .i64 y]) := allocs_blk [(#[.int .i64 x, .int .i64 y], 28)] w 0 _ rfl
  have HB_0 : Hid (Below w.heap.size w (w.alloc (.cells #[.int .i64 x, .int .i64 y] 28))) := allocs_below [(#[.int .i64 x, .int .i64 y], 28)] w (Below.refl w.heap.size w) (Nat.le_refl _)
  go_enter Tryd.func93, Tryd.ntmps93
  have yy0 := P_0.out.cell (i := 0) (v := .int .i64 x) rfl; have yy1 := P_0.out.cell (i := 1) (v := .int .i64 y) rfl
  go_wp2_with fail
  refine (HX.out _).mono ?_
  rintro e v0 ⟨rfl, hb⟩
  clear yy0 yy1
  have P_1 : Hid (Blk v0 w.heap.size 28 #[.int .i64 x, .int .i64 y]) := Lib.hid (P_0.out.below hb P_0.out.lt)
  have HB_1 : Hid (Below w.heap.size w v0) := Lib.hid (HB_0.out.trans (hb.mono HB_0.out.size))
  clear hb P_0 HB_0
  have yy0 := P_1.out.cell (i := 0) (v := .int .i64 x) rfl; have yy1 := P_1.out.cell (i := 1) (v := .int .i64 y) rfl
  go_wp2_with fail
  refine (HY.out _).mono ?_
  rintro e v1 ⟨rfl, hb⟩
  clear yy0 yy1
  have P_2 : Hid (Blk v1 w.heap.size 28 #[.int .i64 x, .int .i64 y]) := Lib.hid (P_1.out.below hb P_1.out.lt)
  have HB_2 : Hid (Below w.heap.size w v1) := Lib.hid (HB_1.out.trans (hb.mono HB_1.out.size))
  clear hb P_1 HB_1
  go_wp2_with fail
  go_ret
  exact ⟨rfl, HB_2.out⟩
set_option maxRecDepth 100000 in
set_option maxHeartbeats 4000000 in
theorem pon_not1 (x y : Int) (w : World) (h : ¬ (0 ≤ x ∧ x ≤ 4095)) :
    Calls Tryd.prog 93 #[.agg #[.int .i64 x, .int .i64 y]] w fun e w' => e = .returned (.bool false) ∧ Below w.heap.size w w' := by
  have HX := Lib.hid (fun W => pfrom_not x 0 4095 W h); clear h
  have P_0 : Hid (Blk (w.alloc (.cells #[.int .i64 x, .int .i64 y] 28)) w.heap.size 28 #[.int .i64 x, .int .i64 y]) := allocs_blk [(#[.int .i64 x, .int .i64 y], 28)] w 0 _ rfl
  have HB_0 : Hid (Below w.heap.size w (w.alloc (.cells #[.int .i64 x, .int .i64 y] 28))) := allocs_below [(#[.int .i64 x, .int .i64 y], 28)] w (Below.refl w.heap.size w) (Nat.le_refl _)
  go_enter Tryd.func93, Tryd.ntmps93
  have yy0 := P_0.out.cell (i := 0) (v := .int .i64 x) rfl; have yy1 := P_0.out.cell (i := 1) (v := .int .i64 y) rfl
  go_wp2_with fail
  refine (HX.out _).mono ?_
  rintro e v0 ⟨rfl, hb⟩
  clear yy0 yy1
  have P_1 : Hid (Blk v0 w.heap.size 28 #[.int .i64 x, .int .i64 y]) := Lib.hid (P_0.out.below hb P_0.out.lt)
  have HB_1 : Hid (Below w.heap.size w v0) := Lib.hid (HB_0.out.trans (hb.mono HB_0.out.size))
  clear hb P_0 HB_0
  have hundef := un_none
  go_wp2_with fail
  go_ret
  exact ⟨rfl, HB_1.out⟩
set_option maxRecDepth 100000 in
set_option maxHeartbeats 4000000 in
theorem pon_not2 (x y : Int) (w : World) (h0 : 0 ≤ x ∧ x ≤ 4095) (h : ¬ (0 ≤ y ∧ y ≤ 4095)) :
    Calls Tryd.prog 93 #[.agg #[.int .i64 x, .int .i64 y]] w fun e w' => e = .returned (.bool false) ∧ Below w.heap.size w w' := by
  have HX := Lib.hid (fun W => pfrom_yes x 0 4095 W h0); have HY := Lib.hid (fun W => pfrom_not y 0 4095 W h); clear h h0
  have P_0 : Hid (Blk (w.alloc (.cells #[.int .i64 x, .int .i64 y] 28)) w.heap.size 28 #[.int .i64 x, .int .i64 y]) := allocs_blk [(#[.int .i64 x, .int .i64 y], 28)] w 0 _ rfl
  have HB_0 : Hid (Below w.heap.size w (w.alloc (.cells #[.int .i64 x, .int .i64 y] 28))) := allocs_below [(#[.int .i64 x, .int .i64 y], 28)] w (Below.refl w.heap.size w) (Nat.le_refl _)
  go_enter Tryd.func93, Tryd.ntmps93
  have yy0 := P_0.out.cell (i := 0) (v := .int .i64 x) rfl; have yy1 := P_0.out.cell (i := 1) (v := .int .i64 y) rfl
  go_wp2_with fail
  refine (HX.out _).mono ?_
  rintro e v0 ⟨rfl, hb⟩
  clear yy0 yy1
  have P_1 : Hid (Blk v0 w.heap.size 28 #[.int .i64 x, .int .i64 y]) := Lib.hid (P_0.out.below hb P_0.out.lt)
  have HB_1 : Hid (Below w.heap.size w v0) := Lib.hid (HB_0.out.trans (hb.mono HB_0.out.size))
  clear hb P_0 HB_0
  have yy0 := P_1.out.cell (i := 0) (v := .int .i64 x) rfl; have yy1 := P_1.out.cell (i := 1) (v := .int .i64 y) rfl
  go_wp2_with fail
  refine (HY.out _).mono ?_
  rintro e v1 ⟨rfl, hb⟩
  clear yy0 yy1
  have P_2 : Hid (Blk v1 w.heap.size 28 #[.int .i64 x, .int .i64 y]) := Lib.hid (P_1.out.below hb P_1.out.lt)
  have HB_2 : Hid (Below w.heap.size w v1) := Lib.hid (HB_1.out.trans (hb.mono HB_1.out.size))
  clear hb P_1 HB_1
  go_wp2_with fail
  go_ret
  exact ⟨rfl, HB_2.out⟩
theorem pon_not (x y : Int) (w : World) (h : ¬ OnP x y) :
    Calls Tryd.prog 93 #[.agg #[.int .i64 x, .int .i64 y]] w fun e w' => e = .returned (.bool false) ∧ Below w.heap.size w w' := by
  by_cases h0 : 0 ≤ x ∧ x ≤ 4095
  · exact pon_not2 x y w h0 (fun h1 => h ⟨h0.1, h0.2, h1⟩)
  · exact pon_not1 x y w h0
set_option maxRecDepth 100000 in
set_option maxHeartbeats 4000000 in
theorem pplace_any (x y t p : Int) (w : World) :
    Calls Tryd.prog 69 #[.agg #[.int .i64 x, .int .i64 y, .int .i64 t, .int .i64 p]] w fun e w' => e = .returned (.agg #[.int .i64 x, .int .i64 y]) ∧ Below w.heap.size w w' := by
  have D_0 : Hid (Blk ((w.alloc (.cells #[.int .i64 x, .int .i64 y, .int .i64 t, .int .i64 p] 69)).alloc (.cells #[.int .i64 0, .int .i64 0] 28)) w.heap.size 69 #[.int .i64 x, .int .i64 y, .int .i64 t, .int .i64 p]) := allocs_blk [(#[.int .i64 x, .int .i64 y, .int .i64 t, .int .i64 p], 69), (#[.int .i64 0, .int .i64 0], 28)] w 0 _ rfl
  have R_0 : Hid (Blk ((w.alloc (.cells #[.int .i64 x, .int .i64 y, .int .i64 t, .int .i64 p] 69)).alloc (.cells #[.int .i64 0, .int .i64 0] 28)) (w.heap.size + 1) 28 #[.int .i64 0, .int .i64 0]) := allocs_blk [(#[.int .i64 x, .int .i64 y, .int .i64 t, .int .i64 p], 69), (#[.int .i64 0, .int .i64 0], 28)] w 1 _ rfl
  have HB_0 : Hid (Below w.heap.size w ((w.alloc (.cells #[.int .i64 x, .int .i64 y, .int .i64 t, .int .i64 p] 69)).alloc (.cells #[.int .i64 0, .int .i64 0] 28))) := allocs_below [(#[.int .i64 x, .int .i64 y, .int .i64 t, .int .i64 p], 69), (#[.int .i64 0, .int .i64 0], 28)] w (Below.refl w.heap.size w) (Nat.le_refl _)
  have yy0 := D_0.out.cell (i := 0) (v := .int .i64 x) rfl; have yy1 := D_0.out.cell (i := 1) (v := .int .i64 y) rfl; have yy2 := D_0.out.cell (i := 2) (v := .int .i64 t) rfl; have yy3 := D_0.out.cell (i := 3) (v := .int .i64 p) rfl
  have yy4 := R_0.out.cell (i := 0) (v := .int .i64 0) rfl; have yy5 := R_0.out.cell (i := 1) (v := .int .i64 0) rfl
  have fR := R_0.out.frozen 0; have fR1 := R_0.out.frozen 1
  go_enter Tryd.func69, Tryd.ntmps69
  go_wp2_with fail
  refine bodyPost_ret (v := .agg #[.int .i64 x, .int .i64 y]) (by simp [results, Tryd.results69, go_sem]) rfl ⟨rfl, ?_⟩
  exact allocs_below [(#[.int .i64 x, .int .i64 y, .int .i64 t, .int .i64 p], 69), (#[.int .i64 x, .int .i64 y], 28)] w (Below.refl _ _) (Nat.le_refl _)
set_option maxRecDepth 100000 in
set_option maxHeartbeats 4000000 in
theorem pdiff_any (ax ay bx by_ : Int) (w : World) (ha : OnP ax ay) (hb : OnP bx by_) :
    Calls Tryd.prog 96 #[.agg #[.int .i64 ax, .int .i64 ay], .agg #[.int .i64 bx, .int .i64 by_]] w fun e w' => e = .returned (.agg #[.int .i64 (bx - ax), .int .i64 (by_ - ay)]) ∧ Below w.heap.size w w' := by
  unfold OnP at ha hb
  have e1 : IntKind.i64.wrap (bx - ax) = bx - ax := IntWalk.i64_in _ (by omega)
  have e2 : IntKind.i64.wrap (by_ - ay) = by_ - ay := IntWalk.i64_in _ (by omega)
  clear ha hb
  have A_0 : Hid (Blk (((w.alloc (.cells #[.int .i64 ax, .int .i64 ay] 28)).alloc (.cells #[.int .i64 bx, .int .i64 by_] 28)).alloc (.cells #[.int .i64 0, .int .i64 0] 28)) w.heap.size 28 #[.int .i64 ax, .int .i64 ay]) := allocs_blk [(#[.int .i64 ax, .int .i64 ay], 28), (#[.int .i64 bx, .int .i64 by_], 28), (#[.int .i64 0, .int .i64 0], 28)] w 0 _ rfl
  have B_0 : Hid (Blk (((w.alloc (.cells #[.int .i64 ax, .int .i64 ay] 28)).alloc (.cells #[.int .i64 bx, .int .i64 by_] 28)).alloc (.cells #[.int .i64 0, .int .i64 0] 28)) (w.heap.size + 1) 28 #[.int .i64 bx, .int .i64 by_]) := allocs_blk [(#[.int .i64 ax, .int .i64 ay], 28), (#[.int .i64 bx, .int .i64 by_], 28), (#[.int .i64 0, .int .i64 0], 28)] w 1 _ rfl
  have R_0 : Hid (Blk (((w.alloc (.cells #[.int .i64 ax, .int .i64 ay] 28)).alloc (.cells #[.int .i64 bx, .int .i64 by_] 28)).alloc (.cells #[.int .i64 0, .int .i64 0] 28)) (w.heap.size + 2) 28 #[.int .i64 0, .int .i64 0]) := allocs_blk [(#[.int .i64 ax, .int .i64 ay], 28), (#[.int .i64 bx, .int .i64 by_], 28), (#[.int .i64 0, .int .i64 0], 28)] w 2 _ rfl
  have HB_0 : Hid (Below w.heap.size w (((w.alloc (.cells #[.int .i64 ax, .int .i64 ay] 28)).alloc (.cells #[.int .i64 bx, .int .i64 by_] 28)).alloc (.cells #[.int .i64 0, .int .i64 0] 28))) := allocs_below [(#[.int .i64 ax, .int .i64 ay], 28), (#[.int .i64 bx, .int .i64 by_], 28), (#[.int .i64 0, .int .i64 0], 28)] w (Below.refl w.heap.size w) (Nat.le_refl _)
  have yy0 := A_0.out.cell (i := 0) (v := .int .i64 ax) rfl; have yy1 := A_0.out.cell (i := 1) (v := .int .i64 ay) rfl
  have yy2 := B_0.out.cell (i := 0) (v := .int .i64 bx) rfl; have yy3 := B_0.out.cell (i := 1) (v := .int .i64 by_) rfl
  have yy4 := R_0.out.cell (i := 0) (v := .int .i64 0) rfl; have yy5 := R_0.out.cell (i := 1) (v := .int .i64 0) rfl
  have fR := R_0.out.frozen 0; have fR1 := R_0.out.frozen 1
  go_enter Tryd.func96, Tryd.ntmps96
  go_wp2_with fail
  refine bodyPost_ret (v := .agg #[.int .i64 (bx - ax), .int .i64 (by_ - ay)]) (by simp [results, Tryd.results96, go_sem]) rfl ⟨rfl, ?_⟩
  exact allocs_below [(#[.int .i64 ax, .int .i64 ay], 28), (#[.int .i64 bx, .int .i64 by_], 28), (#[.int .i64 (bx - ax), .int .i64 (by_ - ay)], 28)] w (Below.refl _ _) (Nat.le_refl _)
set_option maxRecDepth 100000 in
set_option maxHeartbeats 4000000 in
theorem palong_any (ax ay bx by_ : Int) (w : World) (ha : (-4095 ≤ ax ∧ ax ≤ 4095) ∧ (-4095 ≤ ay ∧ ay ≤ 4095)) (hb : (-4095 ≤ bx ∧ bx ≤ 4095) ∧ (-4095 ≤ by_ ∧ by_ ≤ 4095)) :
    Calls Tryd.prog 102 #[.agg #[.int .i64 ax, .int .i64 ay], .agg #[.int .i64 bx, .int .i64 by_]] w fun e w' => e = .returned (.int .i64 (ax * bx + ay * by_)) ∧ Below w.heap.size w w' := by
  have h1 := mul_le_of (a := ax) (b := bx) (n := 4095) (m := 4095) (by omega) (by omega) (by omega) (by omega)
  have h2 := mul_le_of (a := ay) (b := by_) (n := 4095) (m := 4095) (by omega) (by omega) (by omega) (by omega)
  have e1 : IntKind.i64.wrap (ax * bx) = ax * bx := IntWalk.i64_in _ (by omega)
  have e2 : IntKind.i64.wrap (ay * by_) = ay * by_ := IntWalk.i64_in _ (by omega)
  have e3 : IntKind.i64.wrap (ax * bx + ay * by_) = ax * bx + ay * by_ := IntWalk.i64_in _ (by omega)
  clear h1 h2 ha hb
  have A_0 : Hid (Blk ((w.alloc (.cells #[.int .i64 ax, .int .i64 ay] 28)).alloc (.cells #[.int .i64 bx, .int .i64 by_] 28)) w.heap.size 28 #[.int .i64 ax, .int .i64 ay]) := allocs_blk [(#[.int .i64 ax, .int .i64 ay], 28), (#[.int .i64 bx, .int .i64 by_], 28)] w 0 _ rfl
  have B_0 : Hid (Blk ((w.alloc (.cells #[.int .i64 ax, .int .i64 ay] 28)).alloc (.cells #[.int .i64 bx, .int .i64 by_] 28)) (w.heap.size + 1) 28 #[.int .i64 bx, .int .i64 by_]) := allocs_blk [(#[.int .i64 ax, .int .i64 ay], 28), (#[.int .i64 bx, .int .i64 by_], 28)] w 1 _ rfl
  have HB_0 : Hid (Below w.heap.size w ((w.alloc (.cells #[.int .i64 ax, .int .i64 ay] 28)).alloc (.cells #[.int .i64 bx, .int .i64 by_] 28))) := allocs_below [(#[.int .i64 ax, .int .i64 ay], 28), (#[.int .i64 bx, .int .i64 by_], 28)] w (Below.refl w.heap.size w) (Nat.le_refl _)
  have yy0 := A_0.out.cell (i := 0) (v := .int .i64 ax) rfl; have yy1 := A_0.out.cell (i := 1) (v := .int .i64 ay) rfl
  have yy2 := B_0.out.cell (i := 0) (v := .int .i64 bx) rfl; have yy3 := B_0.out.cell (i := 1) (v := .int .i64 by_) rfl
  go_enter Tryd.func102, Tryd.ntmps102
  go_wp2_with fail
  go_ret
  exact ⟨rfl, HB_0.out⟩
set_option maxRecDepth 100000 in
set_option maxHeartbeats 4000000 in
theorem pacross_any (ax ay bx by_ : Int) (w : World) (ha : (-4095 ≤ ax ∧ ax ≤ 4095) ∧ (-4095 ≤ ay ∧ ay ≤ 4095)) (hb : (-4095 ≤ bx ∧ bx ≤ 4095) ∧ (-4095 ≤ by_ ∧ by_ ≤ 4095)) :
    Calls Tryd.prog 103 #[.agg #[.int .i64 ax, .int .i64 ay], .agg #[.int .i64 bx, .int .i64 by_]] w fun e w' => e = .returned (.int .i64 (ax * by_ - ay * bx)) ∧ Below w.heap.size w w' := by
  have h1 := mul_le_of (a := ax) (b := by_) (n := 4095) (m := 4095) (by omega) (by omega) (by omega) (by omega)
  have h2 := mul_le_of (a := ay) (b := bx) (n := 4095) (m := 4095) (by omega) (by omega) (by omega) (by omega)
  have e1 : IntKind.i64.wrap (ax * by_) = ax * by_ := IntWalk.i64_in _ (by omega)
  have e2 : IntKind.i64.wrap (ay * bx) = ay * bx := IntWalk.i64_in _ (by omega)
  have e3 : IntKind.i64.wrap (ax * by_ - ay * bx) = ax * by_ - ay * bx := IntWalk.i64_in _ (by omega)
  clear h1 h2 ha hb
  have A_0 : Hid (Blk ((w.alloc (.cells #[.int .i64 ax, .int .i64 ay] 28)).alloc (.cells #[.int .i64 bx, .int .i64 by_] 28)) w.heap.size 28 #[.int .i64 ax, .int .i64 ay]) := allocs_blk [(#[.int .i64 ax, .int .i64 ay], 28), (#[.int .i64 bx, .int .i64 by_], 28)] w 0 _ rfl
  have B_0 : Hid (Blk ((w.alloc (.cells #[.int .i64 ax, .int .i64 ay] 28)).alloc (.cells #[.int .i64 bx, .int .i64 by_] 28)) (w.heap.size + 1) 28 #[.int .i64 bx, .int .i64 by_]) := allocs_blk [(#[.int .i64 ax, .int .i64 ay], 28), (#[.int .i64 bx, .int .i64 by_], 28)] w 1 _ rfl
  have HB_0 : Hid (Below w.heap.size w ((w.alloc (.cells #[.int .i64 ax, .int .i64 ay] 28)).alloc (.cells #[.int .i64 bx, .int .i64 by_] 28))) := allocs_below [(#[.int .i64 ax, .int .i64 ay], 28), (#[.int .i64 bx, .int .i64 by_], 28)] w (Below.refl w.heap.size w) (Nat.le_refl _)
  have yy0 := A_0.out.cell (i := 0) (v := .int .i64 ax) rfl; have yy1 := A_0.out.cell (i := 1) (v := .int .i64 ay) rfl
  have yy2 := B_0.out.cell (i := 0) (v := .int .i64 bx) rfl; have yy3 := B_0.out.cell (i := 1) (v := .int .i64 by_) rfl
  go_enter Tryd.func103, Tryd.ntmps103
  go_wp2_with fail
  go_ret
  exact ⟨rfl, HB_0.out⟩
end Go.Proofs.YtmjcjaecaigahaaDoor
namespace Go.Proofs.YtmjcjaecaigahaaDoor
open Go.RowKit Go.Lib

/-- Not farther from 0 than a million. -/
def Sm8 (n : Int) : Prop := -1000000 ≤ n ∧ n ≤ 1000000
def cps8 : List Int := [5, 6, 7, 4, 0, 0, 3, 2, 1]
/-- The table of directions, as the program's text lays it. -/
def Cp8 (w : World) : Prop := 1 < w.heap.size ∧ ∀ i, i < 9 → w.cell? ⟨1, i, none⟩ = some (.int .i64 (cps8.getD i 0))
theorem Cp8.below {w w' : World} {B : Nat} (h : Cp8 w) (hb : Below B w w') (hB : w.heap.size ≤ B) : Cp8 w' :=
  ⟨Nat.lt_of_lt_of_le h.1 hb.size, fun i hi => (hb.cell (p := ⟨1, i, none⟩) (Nat.lt_of_lt_of_le h.1 hB)).trans (h.2 i hi)⟩
def ln8 (n m : Int) : Int := if 2 * max n (-n) ≤ max m (-m) then 0 else if n < 0 then -1 else 1
theorem ln8_three (n m : Int) : ln8 n m = 0 ∨ ln8 n m = -1 ∨ ln8 n m = 1 := by
  unfold ln8
  split
  · exact Or.inl rfl
  · split
    · exact Or.inr (Or.inl rfl)
    · exact Or.inr (Or.inr rfl)
/-- The direction of a way. -/
def dir8 (x y : Int) : Int := cps8.getD ((1 + ln8 y x).toNat * 3 + (1 + ln8 x y).toNat) 0
theorem dir8_in (x y : Int) : Dr8 (dir8 x y) := by
  unfold dir8
  rcases ln8_three y x with h | h | h <;> rcases ln8_three x y with h2 | h2 | h2 <;> rw [h, h2] <;> (unfold Dr8; decide)
def dr8 (a b : P7) : Int := dir8 (b.x - a.x) (b.y - a.y)
theorem dr8_in (a b : P7) : Dr8 (dr8 a b) := dir8_in _ _
set_option maxRecDepth 100000 in
set_option maxHeartbeats 8000000 in
theorem isfrom8_any (n l m : Int) (w : World) : Yl 43 #[.int .i64 n, .int .i64 l, .int .i64 m] w (.bool (decide (l ≤ n ∧ n ≤ m))) := by
  by_cases h1 : l ≤ n
  case pos =>
    by_cases h2 : n ≤ m
    case pos =>
      rw [decide_eq_true (show l ≤ n ∧ n ≤ m from ⟨h1, h2⟩)]
      go_enter Tryd.func43, Tryd.ntmps43
      go_wp2_with fail
      go_ret
      exact ⟨rfl, Below.refl _ _⟩
    case neg =>
      rw [decide_eq_false (show ¬ (l ≤ n ∧ n ≤ m) by omega)]
      go_enter Tryd.func43, Tryd.ntmps43
      go_wp2_with fail
      go_ret
      exact ⟨rfl, Below.refl _ _⟩
  case neg =>
    rw [decide_eq_false (show ¬ (l ≤ n ∧ n ≤ m) by omega)]
    have hundef := un_none
    go_enter Tryd.func43, Tryd.ntmps43
    go_wp2_with fail
    go_ret
    exact ⟨rfl, Below.refl _ _⟩
theorem isfrom8_yes (n l m : Int) (w : World) (h : l ≤ n ∧ n ≤ m) : Yl 43 #[.int .i64 n, .int .i64 l, .int .i64 m] w (.bool true) := by
  have := isfrom8_any n l m w; rwa [decide_eq_true h] at this
theorem isfrom8_no (n l m : Int) (w : World) (h : ¬ (l ≤ n ∧ n ≤ m)) : Yl 43 #[.int .i64 n, .int .i64 l, .int .i64 m] w (.bool false) := by
  have := isfrom8_any n l m w; rwa [decide_eq_false h] at this
set_option maxRecDepth 100000 in
set_option maxHeartbeats 8000000 in
theorem size8_any (n : Int) (w : World) (h : Sm8 n) : Yl 95 #[.int .i64 n] w (.int .i64 (max n (-n))) := by
  have h1 := h.1; have h2 := h.2
  have e1 : IntKind.i64.wrap (-n) = -n := IntWalk.i64_in _ (by omega)
  go_enter Tryd.func95, Tryd.ntmps95
  go_wp2_with fail
  all_goals (go_ret; exact ⟨ret_int (by omega), Below.refl _ _⟩)
set_option maxRecDepth 100000 in
set_option maxHeartbeats 8000000 in
theorem lean8_any (n m : Int) (w : World) (hn : Sm8 n) (hm : Sm8 m) : Yl 91 #[.int .i64 n, .int .i64 m] w (.int .i64 (ln8 n m)) := by
  have HS1 := Lib.hid (fun W => size8_any n W hn); have HS2 := Lib.hid (fun W => size8_any m W hm)
  have hv : ln8 n m = if 2 * max n (-n) ≤ max m (-m) then 0 else if n < 0 then -1 else 1 := rfl
  obtain ⟨p, hp⟩ : ∃ p, p = max n (-n) := ⟨_, rfl⟩
  obtain ⟨q, hq⟩ : ∃ q, q = max m (-m) := ⟨_, rfl⟩
  rw [← hp] at HS1 hv
  rw [← hq] at HS2 hv
  have e1 : IntKind.i64.wrap (2 * p) = 2 * p := by unfold Sm8 at hn; exact IntWalk.i64_in _ (by omega)
  clear hp hq hn hm
  by_cases h1 : 2 * p ≤ q
  case pos =>
    rw [hv, if_pos h1]
    clear hv
    go_enter Tryd.func91, Tryd.ntmps91
    go_wp2_with fail
    refine (HS1.out _).mono ?_
    rintro e v0 ⟨rfl, hb0⟩
    go_wp2_with fail
    refine (HS2.out _).mono ?_
    rintro e v1 ⟨rfl, hb1⟩
    go_wp2_with fail
    go_ret
    exact ⟨rfl, hb0.trans (hb1.mono hb0.size)⟩
  case neg =>
    rw [hv, if_neg h1]
    clear hv
    by_cases h2 : n < 0
    case pos =>
      rw [if_pos h2]
      go_enter Tryd.func91, Tryd.ntmps91
      go_wp2_with fail
      refine (HS1.out _).mono ?_
      rintro e v0 ⟨rfl, hb0⟩
      go_wp2_with fail
      refine (HS2.out _).mono ?_
      rintro e v1 ⟨rfl, hb1⟩
      go_wp2_with fail
      go_ret
      exact ⟨rfl, hb0.trans (hb1.mono hb0.size)⟩
    case neg =>
      rw [if_neg h2]
      go_enter Tryd.func91, Tryd.ntmps91
      go_wp2_with fail
      refine (HS1.out _).mono ?_
      rintro e v0 ⟨rfl, hb0⟩
      go_wp2_with fail
      refine (HS2.out _).mono ?_
      rintro e v1 ⟨rfl, hb1⟩
      go_wp2_with fail
      go_ret
      exact ⟨rfl, hb0.trans (hb1.mono hb0.size)⟩
set_option maxRecDepth 100000 in
set_option maxHeartbeats 8000000 in
theorem turn8_any (a b : Int) (w : World) (ha : Dr8 a) (hb : Dr8 b) : Yl 92 #[.int .i64 a, .int .i64 b] w (.int .i64 (tn8 a b)) := by
  have hs : Sm8 (a - b) := by unfold Dr8 at ha hb; unfold Sm8; omega
  have HS := Lib.hid (fun W => size8_any (a - b) W hs)
  have hv : tn8 a b = min (max (a - b) (-(a - b))) (8 - max (a - b) (-(a - b))) := rfl
  have e1 : IntKind.i64.wrap (a - b) = a - b := IntWalk.i64_in _ (by unfold Sm8 at hs; omega)
  obtain ⟨p, hp⟩ : ∃ p, p = max (a - b) (-(a - b)) := ⟨_, rfl⟩
  rw [← hp] at HS hv
  rw [hv]
  have e2 : IntKind.i64.wrap (8 - p) = 8 - p := IntWalk.i64_in _ (by unfold Sm8 at hs; omega)
  clear hp hs hv ha hb
  go_enter Tryd.func92, Tryd.ntmps92
  go_wp2_with fail
  refine (HS.out _).mono ?_
  rintro e v0 ⟨rfl, hb0⟩
  go_wp2_with fail
  all_goals (go_ret; exact ⟨ret_int (by omega), hb0⟩)
set_option maxRecDepth 100000 in
set_option maxHeartbeats 8000000 in
theorem board8_any (p : P7) (w : World) : Yl 59 #[p7v p] w (.bool (decide p.ok)) := by
  obtain ⟨x, y⟩ := p
  by_cases h1 : 0 ≤ x ∧ x ≤ 4095
  case neg =>
    rw [decide_eq_false (show ¬ P7.ok ⟨x, y⟩ from fun h => h1 h.1)]
    have S_0 : Hid (Blk (w.alloc (.cells #[.int .i64 x, .int .i64 y] 28)) w.heap.size 28 #[.int .i64 x, .int .i64 y]) := allocs_blk [(#[.int .i64 x, .int .i64 y], 28)] w 0 _ rfl
    have HB_0 : Hid (Below w.heap.size w (w.alloc (.cells #[.int .i64 x, .int .i64 y] 28))) := allocs_below [(#[.int .i64 x, .int .i64 y], 28)] w (Below.refl w.heap.size w) (Nat.le_refl _)
    go_enter Tryd.func59, Tryd.ntmps59
    have yy0 := S_0.out.cell (i := 0) (v := .int .i64 x) rfl; have yy1 := S_0.out.cell (i := 1) (v := .int .i64 y) rfl
    go_wp2_with fail
    refine (isfrom8_no x 0 4095 _ h1).mono ?_
    rintro e v0 ⟨rfl, hb⟩
    clear yy0 yy1
    have S_1 : Hid (Blk v0 w.heap.size 28 #[.int .i64 x, .int .i64 y]) := Lib.hid (S_0.out.below hb S_0.out.lt)
    have HB_1 : Hid (Below w.heap.size w v0) := Lib.hid (HB_0.out.trans (hb.mono HB_0.out.size))
    clear hb S_0 HB_0
    have hundef := un_none
    go_wp2_with fail
    go_ret
    exact ⟨rfl, HB_1.out⟩
  case pos =>
   by_cases h2 : 0 ≤ y ∧ y ≤ 4095
   case pos =>
    rw [decide_eq_true (show P7.ok ⟨x, y⟩ from ⟨h1, h2⟩)]
    have S_0 : Hid (Blk (w.alloc (.cells #[.int .i64 x, .int .i64 y] 28)) w.heap.size 28 #[.int .i64 x, .int .i64 y]) := allocs_blk [(#[.int .i64 x, .int .i64 y], 28)] w 0 _ rfl
    have HB_0 : Hid (Below w.heap.size w (w.alloc (.cells #[.int .i64 x, .int .i64 y] 28))) := allocs_below [(#[.int .i64 x, .int .i64 y], 28)] w (Below.refl w.heap.size w) (Nat.le_refl _)
    go_enter Tryd.func59, Tryd.ntmps59
    have yy0 := S_0.out.cell (i := 0) (v := .int .i64 x) rfl; have yy1 := S_0.out.cell (i := 1) (v := .int .i64 y) rfl
    go_wp2_with fail
    refine (isfrom8_yes x 0 4095 _ h1).mono ?_
    rintro e v0 ⟨rfl, hb⟩
    clear yy0 yy1
    have S_1 : Hid (Blk v0 w.heap.size 28 #[.int .i64 x, .int .i64 y]) := Lib.hid (S_0.out.below hb S_0.out.lt)
    have HB_1 : Hid (Below w.heap.size w v0) := Lib.hid (HB_0.out.trans (hb.mono HB_0.out.size))
    clear hb S_0 HB_0
    have yy0 := S_1.out.cell (i := 0) (v := .int .i64 x) rfl; have yy1 := S_1.out.cell (i := 1) (v := .int .i64 y) rfl
    go_wp2_with fail
    refine (isfrom8_yes y 0 4095 _ h2).mono ?_
    rintro e v1 ⟨rfl, hb⟩
    clear yy0 yy1
    have S_2 : Hid (Blk v1 w.heap.size 28 #[.int .i64 x, .int .i64 y]) := Lib.hid (S_1.out.below hb S_1.out.lt)
    have HB_2 : Hid (Below w.heap.size w v1) := Lib.hid (HB_1.out.trans (hb.mono HB_1.out.size))
    clear hb S_1 HB_1
    go_wp2_with fail
    go_ret
    exact ⟨rfl, HB_2.out⟩
   case neg =>
    rw [decide_eq_false (show ¬ P7.ok ⟨x, y⟩ from fun h => h2 h.2)]
    have S_0 : Hid (Blk (w.alloc (.cells #[.int .i64 x, .int .i64 y] 28)) w.heap.size 28 #[.int .i64 x, .int .i64 y]) := allocs_blk [(#[.int .i64 x, .int .i64 y], 28)] w 0 _ rfl
    have HB_0 : Hid (Below w.heap.size w (w.alloc (.cells #[.int .i64 x, .int .i64 y] 28))) := allocs_below [(#[.int .i64 x, .int .i64 y], 28)] w (Below.refl w.heap.size w) (Nat.le_refl _)
    go_enter Tryd.func59, Tryd.ntmps59
    have yy0 := S_0.out.cell (i := 0) (v := .int .i64 x) rfl; have yy1 := S_0.out.cell (i := 1) (v := .int .i64 y) rfl
    go_wp2_with fail
    refine (isfrom8_yes x 0 4095 _ h1).mono ?_
    rintro e v0 ⟨rfl, hb⟩
    clear yy0 yy1
    have S_1 : Hid (Blk v0 w.heap.size 28 #[.int .i64 x, .int .i64 y]) := Lib.hid (S_0.out.below hb S_0.out.lt)
    have HB_1 : Hid (Below w.heap.size w v0) := Lib.hid (HB_0.out.trans (hb.mono HB_0.out.size))
    clear hb S_0 HB_0
    have yy0 := S_1.out.cell (i := 0) (v := .int .i64 x) rfl; have yy1 := S_1.out.cell (i := 1) (v := .int .i64 y) rfl
    go_wp2_with fail
    refine (isfrom8_no y 0 4095 _ h2).mono ?_
    rintro e v1 ⟨rfl, hb⟩
    clear yy0 yy1
    have S_2 : Hid (Blk v1 w.heap.size 28 #[.int .i64 x, .int .i64 y]) := Lib.hid (S_1.out.below hb S_1.out.lt)
    have HB_2 : Hid (Below w.heap.size w v1) := Lib.hid (HB_1.out.trans (hb.mono HB_1.out.size))
    clear hb S_1 HB_1
    go_wp2_with fail
    go_ret
    exact ⟨rfl, HB_2.out⟩
theorem board8_yes (p : P7) (w : World) (h : p.ok) : Yl 59 #[p7v p] w (.bool true) := by
  have := board8_any p w; rwa [decide_eq_true h] at this
theorem board8_no (p : P7) (w : World) (h : ¬ p.ok) : Yl 59 #[p7v p] w (.bool false) := by
  have := board8_any p w; rwa [decide_eq_false h] at this
set_option maxRecDepth 100000 in
set_option maxHeartbeats 8000000 in
theorem direction8_any (a b : P7) (w : World) (ha : a.ok) (hb0 : b.ok) (hT : Cp8 w) : Yl 60 #[p7v a, p7v b] w (.int .i64 (dr8 a b)) := by
  have hx : Sm8 (b.x - a.x) := by unfold P7.ok at ha hb0; unfold Sm8; omega
  have hy : Sm8 (b.y - a.y) := by unfold P7.ok at ha hb0; unfold Sm8; omega
  have hv : dr8 a b = cps8.getD ((1 + ln8 (b.y - a.y) (b.x - a.x)).toNat * 3 + (1 + ln8 (b.x - a.x) (b.y - a.y)).toNat) 0 := rfl
  obtain ⟨x, hx0⟩ : ∃ x, x = b.x - a.x := ⟨_, rfl⟩
  obtain ⟨y, hy0⟩ : ∃ y, y = b.y - a.y := ⟨_, rfl⟩
  rw [← hx0] at hx hv
  rw [← hy0] at hy hv
  have e1 : IntKind.i64.wrap (b.x - a.x) = x := by rw [← hx0]; exact IntWalk.i64_in _ (by unfold Sm8 at hx; omega)
  have e2 : IntKind.i64.wrap (b.y - a.y) = y := by rw [← hy0]; exact IntWalk.i64_in _ (by unfold Sm8 at hy; omega)
  have HL1 := Lib.hid (fun W => lean8_any y x W hy hx); have HL2 := Lib.hid (fun W => lean8_any x y W hx hy)
  have t1 := ln8_three y x; have t2 := ln8_three x y
  obtain ⟨l1, h1⟩ : ∃ l, l = ln8 y x := ⟨_, rfl⟩
  obtain ⟨l2, h2⟩ : ∃ l, l = ln8 x y := ⟨_, rfl⟩
  rw [← h1] at t1 hv HL1
  rw [← h2] at t2 hv HL2
  obtain ⟨i1, hi1⟩ : ∃ i : Nat, i = (1 + l1).toNat := ⟨_, rfl⟩
  obtain ⟨i2, hi2⟩ : ∃ i : Nat, i = (1 + l2).toNat := ⟨_, rfl⟩
  have e3 : IntKind.i64.wrap (1 + l1) = (i1 : Int) := by rw [show (i1 : Int) = 1 + l1 by omega]; exact IntWalk.i64_in _ (by omega)
  have e4 : IntKind.i64.wrap (1 + l2) = (i2 : Int) := by rw [show (i2 : Int) = 1 + l2 by omega]; exact IntWalk.i64_in _ (by omega)
  have q1 : (0 : Int) ≤ (i1 : Int) := by omega
  have q2 : (i1 : Int) < 3 := by omega
  have q3 : (0 : Int) ≤ (i2 : Int) := by omega
  have q4 : (i2 : Int) < 3 := by omega
  rw [← hi1, ← hi2] at hv
  have HC : Hid (∀ W, Below w.heap.size w W → W.cell? ⟨1, i1 * 3 + i2, none⟩ = some (.int .i64 (dr8 a b))) := Lib.hid (fun W hW => by rw [hv]; exact (hT.below hW (Nat.le_refl _)).2 _ (by omega))
  obtain ⟨d, hd⟩ : ∃ d, d = dr8 a b := ⟨_, rfl⟩
  rw [← hd] at HC ⊢
  clear hT hv hd hi1 hi2 h1 h2 t1 t2 hx hy hx0 hy0 ha hb0
  have S_0 : Hid (Blk ((w.alloc (.cells #[.int .i64 a.x, .int .i64 a.y] 28)).alloc (.cells #[.int .i64 b.x, .int .i64 b.y] 28)) w.heap.size 28 #[.int .i64 a.x, .int .i64 a.y]) := allocs_blk [(#[.int .i64 a.x, .int .i64 a.y], 28), (#[.int .i64 b.x, .int .i64 b.y], 28)] w 0 _ rfl
  have T_0 : Hid (Blk ((w.alloc (.cells #[.int .i64 a.x, .int .i64 a.y] 28)).alloc (.cells #[.int .i64 b.x, .int .i64 b.y] 28)) (w.heap.size + 1) 28 #[.int .i64 b.x, .int .i64 b.y]) := allocs_blk [(#[.int .i64 a.x, .int .i64 a.y], 28), (#[.int .i64 b.x, .int .i64 b.y], 28)] w 1 _ rfl
  have HB_0 : Hid (Below w.heap.size w ((w.alloc (.cells #[.int .i64 a.x, .int .i64 a.y] 28)).alloc (.cells #[.int .i64 b.x, .int .i64 b.y] 28))) := allocs_below [(#[.int .i64 a.x, .int .i64 a.y], 28), (#[.int .i64 b.x, .int .i64 b.y], 28)] w (Below.refl w.heap.size w) (Nat.le_refl _)
  go_enter Tryd.func60, Tryd.ntmps60
  go_wp2_with fail
  refine wp_region_grow (S := (fun w' => w'.cell? ⟨w.heap.size, 0, none⟩ = some (.int .i64 a.x) ∧ w'.cell? ⟨w.heap.size, 1, none⟩ = some (.int .i64 a.y) ∧ w'.cell? ⟨(w.heap.size + 1), 0, none⟩ = some (.int .i64 b.x) ∧ w'.cell? ⟨(w.heap.size + 1), 1, none⟩ = some (.int .i64 b.y))) ((fun w' => Below ((w.alloc (.cells #[.int .i64 a.x, .int .i64 a.y] 28)).alloc (.cells #[.int .i64 b.x, .int .i64 b.y] 28)).heap.size ((w.alloc (.cells #[.int .i64 a.x, .int .i64 a.y] 28)).alloc (.cells #[.int .i64 b.x, .int .i64 b.y] 28)) w')) (by kernel_rfl) (⟨fun w2 h2 => ⟨(S_0.out.below h2 S_0.out.lt).cell (i := 0) (v := .int .i64 a.x) rfl, (S_0.out.below h2 S_0.out.lt).cell (i := 1) (v := .int .i64 a.y) rfl, (T_0.out.below h2 T_0.out.lt).cell (i := 0) (v := .int .i64 b.x) rfl, (T_0.out.below h2 T_0.out.lt).cell (i := 1) (v := .int .i64 b.y) rfl⟩, fun w2 w3 h2 hb2 => h2.trans (hb2.mono h2.size)⟩) ((Below.refl ((w.alloc (.cells #[.int .i64 a.x, .int .i64 a.y] 28)).alloc (.cells #[.int .i64 b.x, .int .i64 b.y] 28)).heap.size ((w.alloc (.cells #[.int .i64 a.x, .int .i64 a.y] 28)).alloc (.cells #[.int .i64 b.x, .int .i64 b.y] 28))).drew) (fun hCalm => ?_)
  refine grow_take 0 (some 7) ?_ rfl rfl (by kernel_rfl) (fun _ _ _ h => h) (by kernel_rfl) hCalm ?_ ?_
  rotate_left
  · intro wS hS; (try dsimp only at hS); go_simp <;> with_reducible rfl
  try simp only [Act.put, List.setIfInBounds_toArray, List.set_cons_zero, List.set_cons_succ]
  refine grow_take 1 (some 8) ?_ rfl rfl (by kernel_rfl) (fun _ _ _ h => h) (by kernel_rfl) hCalm ?_ ?_
  rotate_left
  · intro wS hS; (try dsimp only at hS); go_simp <;> with_reducible rfl
  try simp only [Act.put, List.setIfInBounds_toArray, List.set_cons_zero, List.set_cons_succ]
  refine grow_take 2 (some 9) ?_ rfl rfl (by kernel_rfl) (fun _ _ _ h => h) (by kernel_rfl) hCalm ?_ ?_
  rotate_left
  · intro wS hS; (try dsimp only at hS); go_simp <;> with_reducible rfl
  try simp only [Act.put, List.setIfInBounds_toArray, List.set_cons_zero, List.set_cons_succ]
  refine grow_take 3 (some 10) ?_ rfl rfl (by kernel_rfl) (fun _ _ _ h => h) (by kernel_rfl) hCalm ?_ ?_
  rotate_left
  · intro wS hS; (try dsimp only at hS); go_simp <;> with_reducible rfl
  try simp only [Act.put, List.setIfInBounds_toArray, List.set_cons_zero, List.set_cons_succ]
  refine grow_take 4 (some 11) (.int .i64 x) rfl rfl (by kernel_rfl) (fun _ _ _ h => h) (by kernel_rfl) hCalm ?_ ?_
  · intro wS hS; (try dsimp only at hS); go_simp
    all_goals (rw [e1])
  try simp only [Act.put, List.setIfInBounds_toArray, List.set_cons_zero, List.set_cons_succ]
  refine grow_take 5 (some 12) ?_ rfl rfl (by kernel_rfl) (fun _ _ _ h => h) (by kernel_rfl) hCalm ?_ ?_
  rotate_left
  · intro wS hS; (try dsimp only at hS); go_simp <;> with_reducible rfl
  try simp only [Act.put, List.setIfInBounds_toArray, List.set_cons_zero, List.set_cons_succ]
  refine grow_take 6 (some 13) ?_ rfl rfl (by kernel_rfl) (fun _ _ _ h => h) (by kernel_rfl) hCalm ?_ ?_
  rotate_left
  · intro wS hS; (try dsimp only at hS); go_simp <;> with_reducible rfl
  try simp only [Act.put, List.setIfInBounds_toArray, List.set_cons_zero, List.set_cons_succ]
  refine grow_take 7 (some 14) ?_ rfl rfl (by kernel_rfl) (fun _ _ _ h => h) (by kernel_rfl) hCalm ?_ ?_
  rotate_left
  · intro wS hS; (try dsimp only at hS); go_simp <;> with_reducible rfl
  try simp only [Act.put, List.setIfInBounds_toArray, List.set_cons_zero, List.set_cons_succ]
  refine grow_take 8 (some 15) ?_ rfl rfl (by kernel_rfl) (fun _ _ _ h => h) (by kernel_rfl) hCalm ?_ ?_
  rotate_left
  · intro wS hS; (try dsimp only at hS); go_simp <;> with_reducible rfl
  try simp only [Act.put, List.setIfInBounds_toArray, List.set_cons_zero, List.set_cons_succ]
  refine grow_take 9 (some 16) (.int .i64 y) rfl rfl (by kernel_rfl) (fun _ _ _ h => h) (by kernel_rfl) hCalm ?_ ?_
  · intro wS hS; (try dsimp only at hS); go_simp
    all_goals (rw [e2])
  try simp only [Act.put, List.setIfInBounds_toArray, List.set_cons_zero, List.set_cons_succ]
  refine grow_take 10 (some 5) ?_ rfl rfl (by kernel_rfl) (fun _ _ _ h => h) (by kernel_rfl) hCalm ?_ ?_
  rotate_left
  · intro wS hS; (try dsimp only at hS); go_simp <;> with_reducible rfl
  try simp only [Act.put, List.setIfInBounds_toArray, List.set_cons_zero, List.set_cons_succ]
  refine grow_take 11 (some 6) ?_ rfl rfl (by kernel_rfl) (fun _ _ _ h => h) (by kernel_rfl) hCalm ?_ ?_
  rotate_left
  · intro wS hS; (try dsimp only at hS); go_simp <;> with_reducible rfl
  try simp only [Act.put, List.setIfInBounds_toArray, List.set_cons_zero, List.set_cons_succ]
  refine grow_done (by kernel_rfl) (fun wA hA => ?_) _
  obtain ⟨v0, hv0⟩ : ∃ x, x = wA := ⟨_, rfl⟩
  rw [← hv0] at hA ⊢
  clear hv0
  have hb := hA; clear hA hCalm
  have S_1 : Hid (Blk v0 w.heap.size 28 #[.int .i64 a.x, .int .i64 a.y]) := Lib.hid (S_0.out.below hb S_0.out.lt)
  have T_1 : Hid (Blk v0 (w.heap.size + 1) 28 #[.int .i64 b.x, .int .i64 b.y]) := Lib.hid (T_0.out.below hb T_0.out.lt)
  have HB_1 : Hid (Below w.heap.size w v0) := Lib.hid (HB_0.out.trans (hb.mono HB_0.out.size))
  clear hb S_0 T_0 HB_0
  go_wp2_with fail
  refine wp_region_grow (S := (fun w' => w'.cell? ⟨1, i1 * 3 + i2, none⟩ = some (.int .i64 d))) ((fun w' => Below v0.heap.size v0 w')) (by kernel_rfl) (⟨fun w2 h2 => HC.out _ (HB_1.out.trans (h2.mono HB_1.out.size)), fun w2 w3 h2 hb2 => h2.trans (hb2.mono h2.size)⟩) ((Below.refl v0.heap.size v0).drew) (fun hCalm => ?_)
  refine grow_take 0 (some 17) ?_ rfl rfl (by kernel_rfl) (fun _ _ _ h => h) (by kernel_rfl) hCalm ?_ ?_
  rotate_left
  · intro wS hS; (try dsimp only at hS); go_simp <;> with_reducible rfl
  try simp only [Act.put, List.setIfInBounds_toArray, List.set_cons_zero, List.set_cons_succ]
  refine grow_take 1 (some 18) ?_ rfl rfl (by kernel_rfl) (fun _ _ _ h => h) (by kernel_rfl) hCalm ?_ ?_
  rotate_left
  · intro wS hS; (try dsimp only at hS); go_simp <;> with_reducible rfl
  try simp only [Act.put, List.setIfInBounds_toArray, List.set_cons_zero, List.set_cons_succ]
  refine grow_take 4 (some 21) ?_ rfl rfl (by kernel_rfl) (fun _ _ _ h => h) (by kernel_rfl) hCalm ?_ ?_
  rotate_left
  · intro wS hS; (try dsimp only at hS); go_simp <;> with_reducible rfl
  try simp only [Act.put, List.setIfInBounds_toArray, List.set_cons_zero, List.set_cons_succ]
  refine grow_take 5 (some 22) ?_ rfl rfl (by kernel_rfl) (fun _ _ _ h => h) (by kernel_rfl) hCalm ?_ ?_
  rotate_left
  · intro wS hS; (try dsimp only at hS); go_simp <;> with_reducible rfl
  try simp only [Act.put, List.setIfInBounds_toArray, List.set_cons_zero, List.set_cons_succ]
  refine grow_call 2 (some 19) (.int .i64 l1) 91 [.tmp 17, .tmp 18] #[3, 3] rfl rfl (by kernel_rfl) (fun _ _ _ h => h) (by kernel_rfl) hCalm rfl (enters_of Tryd.func91 (by kernel_rfl) rfl) (fun wz _ => HL1.out wz) (by kernel_rfl) ?_
  try simp only [Act.put, List.setIfInBounds_toArray, List.set_cons_zero, List.set_cons_succ]
  refine grow_take 3 (some 20) (.int .i64 (i1 : Int)) rfl rfl (by kernel_rfl) (fun _ _ _ h => h) (by kernel_rfl) hCalm ?_ ?_
  · intro wS hS; (try dsimp only at hS); go_simp
    all_goals (rw [e3])
  try simp only [Act.put, List.setIfInBounds_toArray, List.set_cons_zero, List.set_cons_succ]
  refine grow_take 8 (some 25) ?_ rfl rfl (by kernel_rfl) (fun _ _ _ h => h) (by kernel_rfl) hCalm ?_ ?_
  rotate_left
  · intro wS hS; (try dsimp only at hS); go_simp <;> with_reducible rfl
  try simp only [Act.put, List.setIfInBounds_toArray, List.set_cons_zero, List.set_cons_succ]
  refine grow_call 6 (some 23) (.int .i64 l2) 91 [.tmp 21, .tmp 22] #[3, 3] rfl rfl (by kernel_rfl) (fun _ _ _ h => h) (by kernel_rfl) hCalm rfl (enters_of Tryd.func91 (by kernel_rfl) rfl) (fun wz _ => HL2.out wz) (by kernel_rfl) ?_
  try simp only [Act.put, List.setIfInBounds_toArray, List.set_cons_zero, List.set_cons_succ]
  refine grow_take 7 (some 24) (.int .i64 (i2 : Int)) rfl rfl (by kernel_rfl) (fun _ _ _ h => h) (by kernel_rfl) hCalm ?_ ?_
  · intro wS hS; (try dsimp only at hS); go_simp
    all_goals (rw [e4])
  try simp only [Act.put, List.setIfInBounds_toArray, List.set_cons_zero, List.set_cons_succ]
  refine grow_take 9 (some 26) ?_ rfl rfl (by kernel_rfl) (fun _ _ _ h => h) (by kernel_rfl) hCalm ?_ ?_
  rotate_left
  · intro wS hS; (try dsimp only at hS); go_simp <;> with_reducible rfl
  try simp only [Act.put, List.setIfInBounds_toArray, List.set_cons_zero, List.set_cons_succ]
  refine grow_take 10 (some 27) ?_ rfl rfl (by kernel_rfl) (fun _ _ _ h => h) (by kernel_rfl) hCalm ?_ ?_
  rotate_left
  · intro wS hS; (try dsimp only at hS); go_simp <;> with_reducible rfl
  try simp only [Act.put, List.setIfInBounds_toArray, List.set_cons_zero, List.set_cons_succ]
  refine grow_take 11 (some 4) ?_ rfl rfl (by kernel_rfl) (fun _ _ _ h => h) (by kernel_rfl) hCalm ?_ ?_
  rotate_left
  · intro wS hS; (try dsimp only at hS); go_simp <;> with_reducible rfl
  try simp only [Act.put, List.setIfInBounds_toArray, List.set_cons_zero, List.set_cons_succ]
  refine grow_done (by kernel_rfl) (fun wA hA => ?_) _
  have hb9 := Lib.hid (HB_1.out.trans (hA.mono HB_1.out.size))
  clear hA hCalm
  go_wp2_with fail
  go_ret
  exact ⟨rfl, hb9.out⟩
def Dir8 (a b : P7) : Int := if a.ok ∧ b.ok then dr8 a b else -1
set_option maxRecDepth 100000 in
set_option maxHeartbeats 8000000 in
theorem Direction8_any (a b : P7) (w : World) (hT : Cp8 w) : Yl 25 #[p7v a, p7v b] w (.int .i64 (Dir8 a b)) := by
  by_cases ha : a.ok
  case neg =>
    have HD := Lib.hid (fun W => board8_no a W ha)
    rw [show Dir8 a b = -1 from if_neg (fun h => ha h.1)]
    have hundef := un_none
    clear hT ha
    have S_0 : Hid (Blk ((w.alloc (.cells #[.int .i64 a.x, .int .i64 a.y] 28)).alloc (.cells #[.int .i64 b.x, .int .i64 b.y] 28)) w.heap.size 28 #[.int .i64 a.x, .int .i64 a.y]) := allocs_blk [(#[.int .i64 a.x, .int .i64 a.y], 28), (#[.int .i64 b.x, .int .i64 b.y], 28)] w 0 _ rfl
    have T_0 : Hid (Blk ((w.alloc (.cells #[.int .i64 a.x, .int .i64 a.y] 28)).alloc (.cells #[.int .i64 b.x, .int .i64 b.y] 28)) (w.heap.size + 1) 28 #[.int .i64 b.x, .int .i64 b.y]) := allocs_blk [(#[.int .i64 a.x, .int .i64 a.y], 28), (#[.int .i64 b.x, .int .i64 b.y], 28)] w 1 _ rfl
    have HB_0 : Hid (Below w.heap.size w ((w.alloc (.cells #[.int .i64 a.x, .int .i64 a.y] 28)).alloc (.cells #[.int .i64 b.x, .int .i64 b.y] 28))) := allocs_below [(#[.int .i64 a.x, .int .i64 a.y], 28), (#[.int .i64 b.x, .int .i64 b.y], 28)] w (Below.refl w.heap.size w) (Nat.le_refl _)
    go_enter Tryd.func25, Tryd.ntmps25
    have yy0 := S_0.out.cell (i := 0) (v := .int .i64 a.x) rfl; have yy1 := S_0.out.cell (i := 1) (v := .int .i64 a.y) rfl
    go_wp2_with fail
    refine (HD.out _).mono ?_
    rintro e v0 ⟨rfl, hb⟩
    clear yy0 yy1
    have S_1 : Hid (Blk v0 w.heap.size 28 #[.int .i64 a.x, .int .i64 a.y]) := Lib.hid (S_0.out.below hb S_0.out.lt)
    have T_1 : Hid (Blk v0 (w.heap.size + 1) 28 #[.int .i64 b.x, .int .i64 b.y]) := Lib.hid (T_0.out.below hb T_0.out.lt)
    have HB_1 : Hid (Below w.heap.size w v0) := Lib.hid (HB_0.out.trans (hb.mono HB_0.out.size))
    clear hb S_0 T_0 HB_0
    go_wp2_with fail
    go_ret
    exact ⟨rfl, HB_1.out⟩
  case pos =>
    have HD := Lib.hid (fun W => board8_yes a W ha)
    by_cases hb0 : b.ok
    case neg =>
      have HE := Lib.hid (fun W => board8_no b W hb0)
      rw [show Dir8 a b = -1 from if_neg (fun h => hb0 h.2)]
      clear hT ha hb0
      have S_0 : Hid (Blk ((w.alloc (.cells #[.int .i64 a.x, .int .i64 a.y] 28)).alloc (.cells #[.int .i64 b.x, .int .i64 b.y] 28)) w.heap.size 28 #[.int .i64 a.x, .int .i64 a.y]) := allocs_blk [(#[.int .i64 a.x, .int .i64 a.y], 28), (#[.int .i64 b.x, .int .i64 b.y], 28)] w 0 _ rfl
      have T_0 : Hid (Blk ((w.alloc (.cells #[.int .i64 a.x, .int .i64 a.y] 28)).alloc (.cells #[.int .i64 b.x, .int .i64 b.y] 28)) (w.heap.size + 1) 28 #[.int .i64 b.x, .int .i64 b.y]) := allocs_blk [(#[.int .i64 a.x, .int .i64 a.y], 28), (#[.int .i64 b.x, .int .i64 b.y], 28)] w 1 _ rfl
      have HB_0 : Hid (Below w.heap.size w ((w.alloc (.cells #[.int .i64 a.x, .int .i64 a.y] 28)).alloc (.cells #[.int .i64 b.x, .int .i64 b.y] 28))) := allocs_below [(#[.int .i64 a.x, .int .i64 a.y], 28), (#[.int .i64 b.x, .int .i64 b.y], 28)] w (Below.refl w.heap.size w) (Nat.le_refl _)
      go_enter Tryd.func25, Tryd.ntmps25
      have yy0 := S_0.out.cell (i := 0) (v := .int .i64 a.x) rfl; have yy1 := S_0.out.cell (i := 1) (v := .int .i64 a.y) rfl
      go_wp2_with fail
      refine (HD.out _).mono ?_
      rintro e v0 ⟨rfl, hb⟩
      clear yy0 yy1
      have S_1 : Hid (Blk v0 w.heap.size 28 #[.int .i64 a.x, .int .i64 a.y]) := Lib.hid (S_0.out.below hb S_0.out.lt)
      have T_1 : Hid (Blk v0 (w.heap.size + 1) 28 #[.int .i64 b.x, .int .i64 b.y]) := Lib.hid (T_0.out.below hb T_0.out.lt)
      have HB_1 : Hid (Below w.heap.size w v0) := Lib.hid (HB_0.out.trans (hb.mono HB_0.out.size))
      clear hb S_0 T_0 HB_0
      have yy0 := T_1.out.cell (i := 0) (v := .int .i64 b.x) rfl; have yy1 := T_1.out.cell (i := 1) (v := .int .i64 b.y) rfl
      go_wp2_with fail
      refine (HE.out _).mono ?_
      rintro e v1 ⟨rfl, hb⟩
      clear yy0 yy1
      have S_2 : Hid (Blk v1 w.heap.size 28 #[.int .i64 a.x, .int .i64 a.y]) := Lib.hid (S_1.out.below hb S_1.out.lt)
      have T_2 : Hid (Blk v1 (w.heap.size + 1) 28 #[.int .i64 b.x, .int .i64 b.y]) := Lib.hid (T_1.out.below hb T_1.out.lt)
      have HB_2 : Hid (Below w.heap.size w v1) := Lib.hid (HB_1.out.trans (hb.mono HB_1.out.size))
      clear hb S_1 T_1 HB_1
      go_wp2_with fail
      go_ret
      exact ⟨rfl, HB_2.out⟩
    case pos =>
      have HE := Lib.hid (fun W => board8_yes b W hb0)
      rw [show Dir8 a b = dr8 a b from if_pos ⟨ha, hb0⟩]
      have HT := Lib.hid hT; clear hT
      have S_0 : Hid (Blk ((w.alloc (.cells #[.int .i64 a.x, .int .i64 a.y] 28)).alloc (.cells #[.int .i64 b.x, .int .i64 b.y] 28)) w.heap.size 28 #[.int .i64 a.x, .int .i64 a.y]) := allocs_blk [(#[.int .i64 a.x, .int .i64 a.y], 28), (#[.int .i64 b.x, .int .i64 b.y], 28)] w 0 _ rfl
      have T_0 : Hid (Blk ((w.alloc (.cells #[.int .i64 a.x, .int .i64 a.y] 28)).alloc (.cells #[.int .i64 b.x, .int .i64 b.y] 28)) (w.heap.size + 1) 28 #[.int .i64 b.x, .int .i64 b.y]) := allocs_blk [(#[.int .i64 a.x, .int .i64 a.y], 28), (#[.int .i64 b.x, .int .i64 b.y], 28)] w 1 _ rfl
      have HB_0 : Hid (Below w.heap.size w ((w.alloc (.cells #[.int .i64 a.x, .int .i64 a.y] 28)).alloc (.cells #[.int .i64 b.x, .int .i64 b.y] 28))) := allocs_below [(#[.int .i64 a.x, .int .i64 a.y], 28), (#[.int .i64 b.x, .int .i64 b.y], 28)] w (Below.refl w.heap.size w) (Nat.le_refl _)
      go_enter Tryd.func25, Tryd.ntmps25
      have yy0 := S_0.out.cell (i := 0) (v := .int .i64 a.x) rfl; have yy1 := S_0.out.cell (i := 1) (v := .int .i64 a.y) rfl
      go_wp2_with fail
      refine (HD.out _).mono ?_
      rintro e v0 ⟨rfl, hb⟩
      clear yy0 yy1
      have S_1 : Hid (Blk v0 w.heap.size 28 #[.int .i64 a.x, .int .i64 a.y]) := Lib.hid (S_0.out.below hb S_0.out.lt)
      have T_1 : Hid (Blk v0 (w.heap.size + 1) 28 #[.int .i64 b.x, .int .i64 b.y]) := Lib.hid (T_0.out.below hb T_0.out.lt)
      have HB_1 : Hid (Below w.heap.size w v0) := Lib.hid (HB_0.out.trans (hb.mono HB_0.out.size))
      clear hb S_0 T_0 HB_0
      have yy0 := T_1.out.cell (i := 0) (v := .int .i64 b.x) rfl; have yy1 := T_1.out.cell (i := 1) (v := .int .i64 b.y) rfl
      go_wp2_with fail
      refine (HE.out _).mono ?_
      rintro e v1 ⟨rfl, hb⟩
      clear yy0 yy1
      have S_2 : Hid (Blk v1 w.heap.size 28 #[.int .i64 a.x, .int .i64 a.y]) := Lib.hid (S_1.out.below hb S_1.out.lt)
      have T_2 : Hid (Blk v1 (w.heap.size + 1) 28 #[.int .i64 b.x, .int .i64 b.y]) := Lib.hid (T_1.out.below hb T_1.out.lt)
      have HB_2 : Hid (Below w.heap.size w v1) := Lib.hid (HB_1.out.trans (hb.mono HB_1.out.size))
      clear hb S_1 T_1 HB_1
      have HF := Lib.hid (direction8_any a b _ ha hb0 (HT.out.below HB_2.out (Nat.le_refl _)))
      have yy0 := S_2.out.cell (i := 0) (v := .int .i64 a.x) rfl; have yy1 := S_2.out.cell (i := 1) (v := .int .i64 a.y) rfl
      have yy2 := T_2.out.cell (i := 0) (v := .int .i64 b.x) rfl; have yy3 := T_2.out.cell (i := 1) (v := .int .i64 b.y) rfl
      go_wp2_with fail
      refine (HF.out).mono ?_
      rintro e v2 ⟨rfl, hb⟩
      clear yy0 yy1 yy2 yy3
      have S_3 : Hid (Blk v2 w.heap.size 28 #[.int .i64 a.x, .int .i64 a.y]) := Lib.hid (S_2.out.below hb S_2.out.lt)
      have T_3 : Hid (Blk v2 (w.heap.size + 1) 28 #[.int .i64 b.x, .int .i64 b.y]) := Lib.hid (T_2.out.below hb T_2.out.lt)
      have HB_3 : Hid (Below w.heap.size w v2) := Lib.hid (HB_2.out.trans (hb.mono HB_2.out.size))
      clear hb S_2 T_2 HB_2
      go_wp2_with fail
      go_ret
      exact ⟨rfl, HB_3.out⟩
end Go.Proofs.YtmjcjaecaigahaaDoor
namespace Go.Proofs.YtmjcjaecaigahaaDoor
open Go.RowKit Go.Lib

/-- The slice's cells are those ints. -/
def Iz (w : World) (A : Option Addr) (l : List Int) : Prop := 0 < l.length → ∃ b o, A = some ⟨b, o, none⟩ ∧ b < w.heap.size ∧ ∀ i (h : i < l.length), w.cell? ⟨b, o + i, none⟩ = some (.int .i64 l[i])
theorem Iz.below {w w' : World} {A : Option Addr} {l : List Int} {B : Nat} (h : Iz w A l) (hb : Below B w w') (hB : w.heap.size ≤ B) : Iz w' A l := fun hn => by
  obtain ⟨b, o, e, hl, hc⟩ := h hn
  exact ⟨b, o, e, Nat.lt_of_lt_of_le hl hb.size, fun i hi => (hb.cell (p := ⟨b, _, none⟩) (Nat.lt_of_lt_of_le hl hB)).trans (hc i hi)⟩
set_option maxRecDepth 100000 in
set_option maxHeartbeats 4000000 in
theorem rints_any (l m : List Int) (A A2 : Option Addr) (c c2 : Nat) (w : World) (hA : Iz w A l) (hA2 : Iz w A2 m) (hz : l.length ≤ 9000000000000000000) (hz2 : m.length ≤ 9000000000000000000) :
    Calls Tryd.prog 32 #[.slice A l.length c, .slice A2 m.length c2] w fun e w' => e = .returned (.bool (decide (l = m))) ∧ Below w.heap.size w w' := by
  by_cases h3 : l.length = m.length
  case neg =>
    have HR : Hid (decide (l = m) = false) := Lib.hid (decide_eq_false fun h => h3 (by rw [h]))
    have h3b : ¬ ((l.length : Int) = (m.length : Int)) := by omega
    clear hA hA2 hz hz2
    go_enter Tryd.func32, Tryd.ntmps32
    go_wp2_with fail
    go_ret
    exact ⟨by rw [HR.out]; rfl, Below.refl _ _⟩
  case pos =>
    have HL := Lib.hid h3; clear h3
    have HSP : Hid (∀ v, (v = true ↔ ∀ i, i < l.length → l[i]? = m[i]?) → decide (l = m) = v) := fun v hv => by
      have h9 : l = m ↔ ∀ i, i < l.length → l[i]? = m[i]? := ⟨fun h i hi => by subst h; rfl, fun h => List.ext_getElem? fun i => by
        by_cases hi : i < l.length
        · exact h i hi
        · rw [List.getElem?_eq_none (by omega), List.getElem?_eq_none (by have := HL.out; omega)]⟩
      cases v with
      | true => exact decide_eq_true (h9.2 (hv.1 rfl))
      | false => exact decide_eq_false fun h => by cases hv.2 (h9.1 h)
    have HAT := Lib.hid hA; have HAU := Lib.hid hA2
    have HZ := Lib.hid hz
    clear hA hA2 hz hz2
    have h3i : (l.length : Int) = (m.length : Int) := by have := HL.out; omega
    go_enter Tryd.func32, Tryd.ntmps32
    go_wp2_with fail
    go_loopw [5] (fun ii wr => ∃ i : Nat, ii = .int .i64 i ∧ i ≤ l.length ∧ (∀ j, j < i → l[j]? = m[j]?) ∧ Below w.heap.size w wr) (fun ii _ => l.length - (intOf ii).toNat)
    case atStart => exact ⟨0, rfl, by omega, fun j h => absurd h (by omega), Below.refl _ _⟩
    case round =>
      clear h3i
      obtain ⟨i, rfl, hi, hok, hb⟩ := hrel
      have HBR := Lib.hid hb; have HOK := Lib.hid hok; clear hok hb
      by_cases hlt : i < l.length
      case neg =>
        have HR := Lib.hid (HSP.out true ⟨fun _ j hj => HOK.out j (by omega), fun _ => rfl⟩)
        obtain rfl : i = l.length := by omega
        go_wp2_with fail
        go_ret
        exact ⟨by rw [HR.out]; rfl, HBR.out⟩
      case pos =>
        have hlt2 : i < m.length := by have := HL.out; omega
        obtain ⟨b, o, rfl, hbl, hc⟩ := HAT.out (by omega)
        obtain ⟨b2, o2, rfl, hbl2, hc2⟩ := HAU.out (by omega)
        have d0 := (HBR.out.cell (p := ⟨b, _, none⟩) hbl).trans (hc i hlt)
        have e0 := (HBR.out.cell (p := ⟨b2, _, none⟩) hbl2).trans (hc2 i hlt2)
        obtain ⟨d, hd⟩ : ∃ d, d = l[i] := ⟨_, rfl⟩
        obtain ⟨e, he⟩ : ∃ e, e = m[i] := ⟨_, rfl⟩
        rw [← hd] at d0; rw [← he] at e0
        have q1 : (0 : Int) ≤ (i : Int) := by omega
        have q2 : (i : Int) < (l.length : Int) := by omega
        have q4 : (i : Int) < (m.length : Int) := by omega
        have hde1 : l[i]? = some d := by rw [hd]; exact List.getElem?_eq_getElem hlt
        have hde2 : m[i]? = some e := by rw [he]; exact List.getElem?_eq_getElem hlt2
        have HDE := Lib.hid (And.intro hde1 hde2)
        have HI := Lib.hid hlt
        clear hc hc2 hd he hde1 hde2 hlt hlt2 hi
        by_cases hde : d = e
        case pos =>
          subst hde
          go_wp2_with fail
          refine wp_region_held_drew (S := (fun w' => w'.cell? ⟨b, o + i, none⟩ = some (.int .i64 d) ∧ w'.cell? ⟨b2, o2 + i, none⟩ = some (.int .i64 d))) (by kernel_rfl) (⟨d0, e0⟩) (fun hHeld => ?_)
          refine held_take 0 (some 17) ?_ rfl rfl (by kernel_rfl) (fun _ _ _ h => h) (by kernel_rfl) ?_ (by assumption) ?_
          rotate_left
          · intro wS hS; (try dsimp only at hS); go_simp <;> with_reducible rfl
          try simp only [Act.put, List.setIfInBounds_toArray, List.set_cons_zero, List.set_cons_succ]
          refine held_take 1 (some 18) ?_ rfl rfl (by kernel_rfl) (fun _ _ _ h => h) (by kernel_rfl) ?_ (by assumption) ?_
          rotate_left
          · intro wS hS; (try dsimp only at hS); go_simp <;> with_reducible rfl
          try simp only [Act.put, List.setIfInBounds_toArray, List.set_cons_zero, List.set_cons_succ]
          refine held_take 2 (some 19) ?_ rfl rfl (by kernel_rfl) (fun _ _ _ h => h) (by kernel_rfl) ?_ (by assumption) ?_
          rotate_left
          · intro wS hS; (try dsimp only at hS); go_simp <;> with_reducible rfl
          try simp only [Act.put, List.setIfInBounds_toArray, List.set_cons_zero, List.set_cons_succ]
          refine held_take 3 (some 20) ?_ rfl rfl (by kernel_rfl) (fun _ _ _ h => h) (by kernel_rfl) ?_ (by assumption) ?_
          rotate_left
          · intro wS hS; (try dsimp only at hS); go_simp <;> with_reducible rfl
          try simp only [Act.put, List.setIfInBounds_toArray, List.set_cons_zero, List.set_cons_succ]
          refine held_take 4 (some 21) ?_ rfl rfl (by kernel_rfl) (fun _ _ _ h => h) (by kernel_rfl) ?_ (by assumption) ?_
          rotate_left
          · intro wS hS; (try dsimp only at hS); go_simp <;> with_reducible rfl
          try simp only [Act.put, List.setIfInBounds_toArray, List.set_cons_zero, List.set_cons_succ]
          refine held_take 5 (some 22) ?_ rfl rfl (by kernel_rfl) (fun _ _ _ h => h) (by kernel_rfl) ?_ (by assumption) ?_
          rotate_left
          · intro wS hS; (try dsimp only at hS); go_simp <;> with_reducible rfl
          try simp only [Act.put, List.setIfInBounds_toArray, List.set_cons_zero, List.set_cons_succ]
          refine held_take 6 (some 23) ?_ rfl rfl (by kernel_rfl) (fun _ _ _ h => h) (by kernel_rfl) ?_ (by assumption) ?_
          rotate_left
          · intro wS hS; (try dsimp only at hS); go_simp <;> with_reducible rfl
          try simp only [Act.put, List.setIfInBounds_toArray, List.set_cons_zero, List.set_cons_succ]
          refine held_take 7 (some 24) ?_ rfl rfl (by kernel_rfl) (fun _ _ _ h => h) (by kernel_rfl) ?_ (by assumption) ?_
          rotate_left
          · intro wS hS; (try dsimp only at hS); go_simp <;> with_reducible rfl
          try simp only [Act.put, List.setIfInBounds_toArray, List.set_cons_zero, List.set_cons_succ]
          refine held_take 8 (some 25) ?_ rfl rfl (by kernel_rfl) (fun _ _ _ h => h) (by kernel_rfl) ?_ (by assumption) ?_
          rotate_left
          · intro wS hS; (try dsimp only at hS); go_simp <;> with_reducible rfl
          try simp only [Act.put, List.setIfInBounds_toArray, List.set_cons_zero, List.set_cons_succ]
          refine wpAnyH_done (by kernel_rfl) ?_ _
          have q5 : (i : Int) + 1 ≤ 9223372036854775807 := by have := HI.out; have := HZ.out; omega
          go_wp2_with fail
          go_roundw
          case rel => exact ⟨i + 1, by go_num, by have := HI.out; omega, fun j hj => by
            by_cases hji : j = i
            · rw [hji, HDE.out.1, HDE.out.2]
            · exact HOK.out j (by omega), HBR.out.trans (((Below.refl wr.heap.size wr).drew).mono HBR.out.size)⟩
          case measure => have := HI.out; simp [intOf]; omega
        case neg =>
          go_wp2_with fail
          have HNE := Lib.hid hde
          refine wp_region_held_drew (S := (fun w' => w'.cell? ⟨b, o + i, none⟩ = some (.int .i64 d) ∧ w'.cell? ⟨b2, o2 + i, none⟩ = some (.int .i64 e))) (by kernel_rfl) (⟨d0, e0⟩) (fun hHeld => ?_)
          refine held_take 0 (some 17) ?_ rfl rfl (by kernel_rfl) (fun _ _ _ h => h) (by kernel_rfl) ?_ (by assumption) ?_
          rotate_left
          · intro wS hS; (try dsimp only at hS); go_simp <;> with_reducible rfl
          try simp only [Act.put, List.setIfInBounds_toArray, List.set_cons_zero, List.set_cons_succ]
          refine held_take 1 (some 18) ?_ rfl rfl (by kernel_rfl) (fun _ _ _ h => h) (by kernel_rfl) ?_ (by assumption) ?_
          rotate_left
          · intro wS hS; (try dsimp only at hS); go_simp <;> with_reducible rfl
          try simp only [Act.put, List.setIfInBounds_toArray, List.set_cons_zero, List.set_cons_succ]
          refine held_take 2 (some 19) ?_ rfl rfl (by kernel_rfl) (fun _ _ _ h => h) (by kernel_rfl) ?_ (by assumption) ?_
          rotate_left
          · intro wS hS; (try dsimp only at hS); go_simp <;> with_reducible rfl
          try simp only [Act.put, List.setIfInBounds_toArray, List.set_cons_zero, List.set_cons_succ]
          refine held_take 3 (some 20) ?_ rfl rfl (by kernel_rfl) (fun _ _ _ h => h) (by kernel_rfl) ?_ (by assumption) ?_
          rotate_left
          · intro wS hS; (try dsimp only at hS); go_simp <;> with_reducible rfl
          try simp only [Act.put, List.setIfInBounds_toArray, List.set_cons_zero, List.set_cons_succ]
          refine held_take 4 (some 21) ?_ rfl rfl (by kernel_rfl) (fun _ _ _ h => h) (by kernel_rfl) ?_ (by assumption) ?_
          rotate_left
          · intro wS hS; (try dsimp only at hS); go_simp <;> with_reducible rfl
          try simp only [Act.put, List.setIfInBounds_toArray, List.set_cons_zero, List.set_cons_succ]
          refine held_take 5 (some 22) ?_ rfl rfl (by kernel_rfl) (fun _ _ _ h => h) (by kernel_rfl) ?_ (by assumption) ?_
          rotate_left
          · intro wS hS; (try dsimp only at hS); go_simp <;> with_reducible rfl
          try simp only [Act.put, List.setIfInBounds_toArray, List.set_cons_zero, List.set_cons_succ]
          refine held_take 6 (some 23) ?_ rfl rfl (by kernel_rfl) (fun _ _ _ h => h) (by kernel_rfl) ?_ (by assumption) ?_
          rotate_left
          · intro wS hS; (try dsimp only at hS); go_simp <;> with_reducible rfl
          try simp only [Act.put, List.setIfInBounds_toArray, List.set_cons_zero, List.set_cons_succ]
          refine held_take 7 (some 24) ?_ rfl rfl (by kernel_rfl) (fun _ _ _ h => h) (by kernel_rfl) ?_ (by assumption) ?_
          rotate_left
          · intro wS hS; (try dsimp only at hS); go_simp <;> with_reducible rfl
          try simp only [Act.put, List.setIfInBounds_toArray, List.set_cons_zero, List.set_cons_succ]
          refine held_take 8 (some 25) ?_ rfl rfl (by kernel_rfl) (fun _ _ _ h => h) (by kernel_rfl) ?_ (by assumption) ?_
          rotate_left
          · intro wS hS; (try dsimp only at hS); go_simp <;> with_reducible rfl
          try simp only [Act.put, List.setIfInBounds_toArray, List.set_cons_zero, List.set_cons_succ]
          refine wpAnyH_done (by kernel_rfl) ?_ _
          have HR := Lib.hid (HSP.out false ⟨fun h => (by cases h), fun h => by
            have h5 := h i HI.out
            rw [HDE.out.1, HDE.out.2, Option.some.injEq] at h5
            exact absurd h5 HNE.out⟩)
          go_wp2_with fail
          go_ret
          exact ⟨by rw [HR.out]; rfl, HBR.out.drew⟩
end Go.Proofs.YtmjcjaecaigahaaDoor
namespace Go.Proofs.YtmjcjaecaigahaaDoor
open Go.RowKit Go.Lib

/-- A list of indices from 0 to k, each two neighbours ascending and right. -/
inductive Wy (B : Nat → Nat → Prop) : Nat → List Nat → Prop
  | base : Wy B 0 [0]
  | step {i k : Nat} {l : List Nat} : Wy B i l → i < k → B i k → Wy B k (l ++ [k])
def lexN : List Nat → List Nat → Bool
  | a :: r, b :: s => if a = b then lexN r s else decide (a < b)
  | _, _ => false
/-- Fewer indices, or as many, and first. -/
def Le (l m : List Nat) : Prop := l.length < m.length ∨ (l.length = m.length ∧ (l = m ∨ lexN l m = true))
theorem lexN_asymm : ∀ (l m : List Nat), lexN l m = true → lexN m l = true → False
  | [], [], h, _ => by cases h
  | [], _ :: _, h, _ => by cases h
  | _ :: _, [], h, _ => by cases h
  | a :: r, b :: s, h, h2 => by
    by_cases hab : a = b
    · subst hab
      simp only [lexN, if_pos] at h h2
      exact lexN_asymm r s h h2
    · simp only [lexN, if_neg hab, if_neg (Ne.symm hab), decide_eq_true_eq] at h h2
      omega
theorem lexN_trans : ∀ (l m n : List Nat), lexN l m = true → lexN m n = true → lexN l n = true
  | a :: r, b :: s, c :: t, h, h2 => by
    by_cases hab : a = b
    · subst hab
      simp only [lexN, if_pos] at h
      by_cases hac : a = c
      · subst hac
        simp only [lexN, if_pos] at h2 ⊢
        exact lexN_trans r s t h h2
      · simp only [lexN, if_neg hac] at h2 ⊢; exact h2
    · simp only [lexN, if_neg hab, decide_eq_true_eq] at h
      by_cases hbc : b = c
      · subst hbc
        simp only [lexN, if_neg hab, decide_eq_true_eq]; exact h
      · simp only [lexN, if_neg hbc, decide_eq_true_eq] at h2
        simp only [lexN, if_neg (show a ≠ c by omega), decide_eq_true_eq]; omega
  | [], _, _, h, _ => by cases ‹List Nat› <;> cases h
  | _ :: _, [], _, h, _ => by cases h
  | _ :: _, _ :: _, [], _, h => by cases h
theorem lexN_snoc : ∀ (l m : List Nat) (k : Nat), l.length = m.length → lexN (l ++ [k]) (m ++ [k]) = lexN l m
  | [], [], k, _ => by simp [lexN]
  | a :: r, b :: s, k, h => by
    simp only [List.cons_append, lexN]
    rw [lexN_snoc r s k (by simpa using h)]
theorem Le.refl (l : List Nat) : Le l l := .inr ⟨rfl, .inl rfl⟩
theorem Le.trans {l m n : List Nat} (h : Le l m) (h2 : Le m n) : Le l n := by
  rcases h with h | ⟨h, h1⟩
  · rcases h2 with h2 | ⟨h2, -⟩
    · exact .inl (by omega)
    · exact .inl (by omega)
  · rcases h2 with h2 | ⟨h2, h3⟩
    · exact .inl (by omega)
    · refine .inr ⟨by omega, ?_⟩
      rcases h1 with rfl | h1
      · exact h3
      · rcases h3 with rfl | h3
        · exact .inr h1
        · exact .inr (lexN_trans _ _ _ h1 h3)
theorem Le.anti {l m : List Nat} (h : Le l m) (h2 : Le m l) : l = m := by
  rcases h with h | ⟨h, h1⟩
  · rcases h2 with h2 | ⟨h2, -⟩ <;> omega
  · rcases h1 with h1 | h1
    · exact h1
    · rcases h2 with h2 | ⟨-, h3⟩
      · omega
      · rcases h3 with h3 | h3
        · exact h3.symm
        · exact (lexN_asymm _ _ h1 h3).elim
theorem Le.snoc {l m : List Nat} (h : Le l m) (k : Nat) : Le (l ++ [k]) (m ++ [k]) := by
  rcases h with h | ⟨h, h1⟩
  · exact .inl (by simp only [List.length_append, List.length_singleton]; omega)
  · refine .inr ⟨by simp only [List.length_append, List.length_singleton]; omega, ?_⟩
    rcases h1 with rfl | h1
    · exact .inl rfl
    · exact .inr (by rw [lexN_snoc _ _ _ h]; exact h1)
/-- The least list to k. -/
def IsThin (B : Nat → Nat → Prop) (k : Nat) (l : List Nat) : Prop := Wy B k l ∧ ∀ m, Wy B k m → Le l m
theorem IsThin.unique {B : Nat → Nat → Prop} {k : Nat} {l m : List Nat} (h : IsThin B k l) (h2 : IsThin B k m) : l = m := (h.2 m h2.1).anti (h2.2 l h.1)
theorem Wy.len {B : Nat → Nat → Prop} {k : Nat} {l : List Nat} (h : Wy B k l) : 1 ≤ l.length ∧ l.length ≤ k + 1 := by
  induction h with
  | base => simp
  | step _ h _ ih => simp only [List.length_append, List.length_singleton]; omega
theorem Wy.first {B : Nat → Nat → Prop} {k : Nat} {l : List Nat} (h : Wy B k l) : l[0]? = some 0 := by
  induction h with
  | base => rfl
  | step h _ _ ih => rw [List.getElem?_append_left (by have := h.len; omega)]; exact ih
theorem Wy.last {B : Nat → Nat → Prop} {k : Nat} {l : List Nat} (h : Wy B k l) : l[l.length - 1]? = some k := by
  cases h with
  | base => rfl
  | step h _ _ => simp
theorem Wy.next {B : Nat → Nat → Prop} {k : Nat} {l : List Nat} (h : Wy B k l) : ∀ i a b, l[i]? = some a → l[i + 1]? = some b → a < b ∧ B a b := by
  induction h with
  | base => intro i a b _ h2; simp at h2
  | @step i k l h hik hB ih =>
    intro j a b h1 h2
    by_cases hj : j + 1 < l.length
    · rw [List.getElem?_append_left (by omega)] at h1
      rw [List.getElem?_append_left hj] at h2
      exact ih j a b h1 h2
    · have hl := (List.getElem?_eq_some_iff.1 h2).1
      simp only [List.length_append, List.length_singleton] at hl
      have hj2 : j = l.length - 1 := by omega
      have hlen := h.len
      rw [List.getElem?_append_left (by omega), hj2, h.last, Option.some.injEq] at h1
      rw [show j + 1 = l.length by omega] at h2
      simp at h2
      subst h1; subst h2
      exact ⟨hik, hB⟩
theorem Wy.le {B : Nat → Nat → Prop} {k : Nat} {l : List Nat} (h : Wy B k l) : ∀ a ∈ l, a ≤ k := by
  induction h with
  | base => intro a ha; simp at ha; omega
  | step _ hik _ ih =>
    intro a ha
    rw [List.mem_append, List.mem_singleton] at ha
    rcases ha with ha | rfl
    · have := ih a ha; omega
    · omega
/-- More that is right: no longer lists. -/
theorem Wy.mono {B C : Nat → Nat → Prop} (hBC : ∀ i k, B i k → C i k) {k : Nat} {l : List Nat} (h : Wy B k l) : Wy C k l := by
  induction h with
  | base => exact .base
  | step _ h hB ih => exact .step ih h (hBC _ _ hB)
theorem IsThin.mono {B C : Nat → Nat → Prop} (hBC : ∀ i k, B i k → C i k) {k : Nat} {l m : List Nat} (h : IsThin B k l) (h2 : IsThin C k m) : m.length ≤ l.length := by
  rcases h2.2 l (h.1.mono hBC) with h | ⟨h, -⟩ <;> omega
theorem IsThin.congr {B C : Nat → Nat → Prop} (hBC : ∀ i k, B i k ↔ C i k) {k : Nat} {l : List Nat} (h : IsThin B k l) : IsThin C k l := ⟨h.1.mono fun i k => (hBC i k).1, fun m hm => h.2 m (hm.mono fun i k => (hBC i k).2)⟩
/-- Found backward: c i: how many indices follow i, at least; from each index the least next one with which as few follow. -/
theorem Le.cons {l m : List Nat} (h : Le l m) (k : Nat) : Le (k :: l) (k :: m) := by
  rcases h with h | ⟨h, h1⟩
  · exact .inl (by simp only [List.length_cons]; omega)
  · refine .inr ⟨by simp only [List.length_cons]; omega, ?_⟩
    rcases h1 with rfl | h1
    · exact .inl rfl
    · exact .inr (by simp only [lexN, if_pos]; exact h1)
/-- A list of indices from i to n. -/
inductive Yw (B : Nat → Nat → Prop) (n : Nat) : Nat → List Nat → Prop
  | base : Yw B n n [n]
  | step {i k : Nat} {l : List Nat} : Yw B n k l → i < k → B i k → Yw B n i (i :: l)
theorem Yw.len {B : Nat → Nat → Prop} {n i : Nat} {l : List Nat} (h : Yw B n i l) : 1 ≤ l.length := by
  cases h <;> simp
/-- The least list from i to n is i, and the least one from the best next index. -/
theorem yw_step {B : Nat → Nat → Prop} {n i : Nat} (hi : i < n) {best : Nat → List Nat} (hb : ∀ k, i < k → k ≤ n → Yw B n k (best k) ∧ ∀ m, Yw B n k m → Le (best k) m) {k : Nat} (hk : i < k ∧ k ≤ n ∧ B i k)
    (h2 : ∀ j, i < j → j ≤ n → B i j → (best k).length ≤ (best j).length ∧ ((best j).length = (best k).length → k ≤ j)) : Yw B n i (i :: best k) ∧ ∀ m, Yw B n i m → Le (i :: best k) m := by
  have hd : ∀ j m, Yw B n j m → ∃ r, m = j :: r := fun j m h => by cases h; exact ⟨_, rfl⟩; exact ⟨_, rfl⟩
  have hle : ∀ j m, Yw B n j m → j ≤ n := fun j m h => by
    induction h with
    | base => omega
    | step _ h _ ih => omega
  refine ⟨.step (hb k hk.1 hk.2.1).1 hk.1 hk.2.2, fun m hm => ?_⟩
  cases hm with
  | base => omega
  | @step _ j l hw hj hB =>
    have hjn := hle _ _ hw
    refine Le.cons ?_ i
    have h3 := h2 j hj hjn hB
    have h4 := (hb j hj hjn).2 l hw
    rcases Nat.lt_or_ge (best k).length (best j).length with hlt | hge
    · refine .inl ?_
      rcases h4 with h4 | ⟨h4, -⟩ <;> omega
    · have he : (best j).length = (best k).length := by omega
      have hkj := h3.2 he
      by_cases hkj2 : k = j
      · subst hkj2; exact h4
      · obtain ⟨r, hr⟩ := hd k _ (hb k hk.1 hk.2.1).1
        obtain ⟨s, hs⟩ := hd j _ hw
        rcases h4 with h4 | ⟨h4, -⟩
        · exact .inl (by omega)
        · refine .inr ⟨by omega, .inr ?_⟩
          rw [hr, hs]
          simp only [lexN, if_neg hkj2, decide_eq_true_eq]; omega
theorem yw_of_wy {B : Nat → Nat → Prop} {k : Nat} {l : List Nat} (h : Wy B k l) : ∀ {n : Nat} {m : List Nat}, Yw B n k m → Yw B n 0 (l.dropLast ++ m) := by
  induction h with
  | base => intro n m h; exact h
  | @step i k l h hik hB ih =>
    intro n m hm
    have h2 := ih (.step hm hik hB)
    have hne : l ≠ [] := by intro e; have := h.len; rw [e] at this; simp at this
    have hl : l = l.dropLast ++ [i] := by
      have h3 := h.last
      have h4 := List.dropLast_concat_getLast hne
      have h5 : l.getLast hne = i := by
        rw [List.getLast_eq_getElem]
        rw [List.getElem?_eq_getElem (by have := h.len; omega), Option.some.injEq] at h3
        exact h3
      rw [h5] at h4; exact h4.symm
    rw [List.dropLast_concat]
    rw [hl, List.append_assoc]; exact h2
theorem wy_yw {B : Nat → Nat → Prop} {n k : Nat} {m : List Nat} (h : Yw B n k m) : ∀ {l : List Nat}, Wy B k l → Wy B n (l.dropLast ++ m) := by
  induction h with
  | base =>
    intro l h
    have hne : l ≠ [] := by intro e; have := h.len; rw [e] at this; simp at this
    have h3 := h.last
    have h4 := List.dropLast_concat_getLast hne
    have h5 : l.getLast hne = n := by
      rw [List.getLast_eq_getElem]
      rw [List.getElem?_eq_getElem (by have := h.len; omega), Option.some.injEq] at h3
      exact h3
    rw [h5] at h4; rw [h4]; exact h
  | @step i k m hm hik hB ih =>
    intro l h
    have h2 := ih (.step h hik hB)
    rw [List.dropLast_concat] at h2
    have hne : l ≠ [] := by intro e; have := h.len; rw [e] at this; simp at this
    have h3 := h.last
    have h4 := List.dropLast_concat_getLast hne
    have h5 : l.getLast hne = i := by
      rw [List.getLast_eq_getElem]
      rw [List.getElem?_eq_getElem (by have := h.len; omega), Option.some.injEq] at h3
      exact h3
    rw [h5] at h4
    rw [show l.dropLast ++ i :: m = (l.dropLast ++ [i]) ++ m by simp, h4]; exact h2
/-- The least list found backward is the least one. -/
theorem isThin_of_yw {B : Nat → Nat → Prop} {n : Nat} {l : List Nat} (h : Yw B n 0 l ∧ ∀ m, Yw B n 0 m → Le l m) : IsThin B n l := by
  refine ⟨by simpa using wy_yw h.1 .base, fun m hm => ?_⟩
  have h2 := yw_of_wy hm .base
  have hne : m ≠ [] := by intro e; have := hm.len; rw [e] at this; simp at this
  have h3 := hm.last
  have h4 := List.dropLast_concat_getLast hne
  have h5 : m.getLast hne = n := by
    rw [List.getLast_eq_getElem]
    rw [List.getElem?_eq_getElem (by have := hm.len; omega), Option.some.injEq] at h3
    exact h3
  rw [h5] at h4; rw [h4] at h2
  exact h.2 m h2
end Go.Proofs.YtmjcjaecaigahaaDoor
