
/- The contracts of square and Near. Condition of square: places on the board. -/
import Derived.Test.YtamogfcedkjmcaaPl5
import Derived.Test.YtamogfcedkjmcaaHel5
import Derived.Test.YtamogfcedkjmcaaAlc
import Derived.Deep.CutRange
import Derived.Shelf.Abstract
namespace Go.Proofs.Ytamogfcedkjmcaa
open Go.RowKit Go.Lib Go.Shelf

/-- The square of a distance. -/
def sqd (ax ay bx by_ : Int) : Int := (ax - bx) * (ax - bx) + (ay - by_) * (ay - by_)
/-- On the board, as a fact. -/
def OnP (x y : Int) : Prop := 0 ≤ x ∧ x ≤ 4095 ∧ 0 ≤ y ∧ y ≤ 4095
instance (x y : Int) : Decidable (OnP x y) := by unfold OnP; infer_instance
/-- A place is near two others. -/
def NearP (ax ay bx by_ px py z : Int) : Prop := OnP ax ay ∧ OnP bx by_ ∧ OnP px py ∧ (0 ≤ z ∧ z ≤ 1000) ∧
  (sqd ax ay px py ≤ z * z ∨ sqd bx by_ px py ≤ z * z ∨ (¬ (sqd ax ay bx by_ + sqd ax ay px py < sqd bx by_ px py ∨ sqd ax ay bx by_ + sqd bx by_ px py < sqd ax ay px py ∨ sqd ax ay bx by_ = 0) ∧
    ((bx - ax) * (py - ay) - (by_ - ay) * (px - ax)) * ((bx - ax) * (py - ay) - (by_ - ay) * (px - ax)) ≤ z * z * sqd ax ay bx by_))
instance (ax ay bx by_ px py z : Int) : Decidable (NearP ax ay bx by_ px py z) := by unfold NearP; infer_instance
theorem mul_le_of {a b n m : Int} (ha : -n ≤ a ∧ a ≤ n) (hb : -m ≤ b ∧ b ≤ m) (hn : 0 ≤ n) (hm : 0 ≤ m) : -(n * m) ≤ a * b ∧ a * b ≤ n * m := by
  have h1 : (a * b).natAbs ≤ (n * m).natAbs := by
    rw [Int.natAbs_mul, Int.natAbs_mul]
    exact Nat.mul_le_mul (by omega) (by omega)
  have h2 : 0 ≤ n * m := Int.mul_nonneg hn hm
  omega
theorem self_mul (a : Int) : 0 ≤ a * a := by
  rcases Int.le_total 0 a with h | h
  · exact Int.mul_nonneg h h
  · exact Int.mul_nonneg_of_nonpos_of_nonpos h h
theorem sqd_le {ax ay bx by_ : Int} (ha : OnP ax ay) (hb : OnP bx by_) : 0 ≤ sqd ax ay bx by_ ∧ sqd ax ay bx by_ ≤ 33538050 := by
  unfold OnP at ha hb
  have h1 := mul_le_of (a := ax - bx) (b := ax - bx) (n := 4095) (m := 4095) (by omega) (by omega) (by omega) (by omega)
  have h2 := mul_le_of (a := ay - by_) (b := ay - by_) (n := 4095) (m := 4095) (by omega) (by omega) (by omega) (by omega)
  have h3 : 0 ≤ (ax - bx) * (ax - bx) := self_mul _
  have h4 : 0 ≤ (ay - by_) * (ay - by_) := self_mul _
  unfold sqd
  omega
set_option maxRecDepth 100000 in
set_option maxHeartbeats 4000000 in
theorem rsquare_any (ax ay bx by_ : Int) (w : World) (ha : OnP ax ay) (hb : OnP bx by_) :
    Calls Try.prog 60 #[.agg #[.int .i64 ax, .int .i64 ay], .agg #[.int .i64 bx, .int .i64 by_]] w fun e w' => e = .returned (.int .i64 (sqd ax ay bx by_)) ∧ Below w.heap.size w w' := by
  have hq := sqd_le ha hb
  unfold OnP at ha hb
  obtain ⟨dx, hdx⟩ : ∃ d, d = ax - bx := ⟨_, rfl⟩
  obtain ⟨dy, hdy⟩ : ∃ d, d = ay - by_ := ⟨_, rfl⟩
  have h1 := mul_le_of (a := dx) (b := dx) (n := 4095) (m := 4095) (by omega) (by omega) (by omega) (by omega)
  have h2 := mul_le_of (a := dy) (b := dy) (n := 4095) (m := 4095) (by omega) (by omega) (by omega) (by omega)
  have hres : sqd ax ay bx by_ = dx * dx + dy * dy := by unfold sqd; rw [hdx, hdy]
  have e1 : IntKind.i64.wrap (ax - bx) = dx := by rw [IntWalk.i64_in _ (by omega)]; omega
  have e2 : IntKind.i64.wrap (ay - by_) = dy := by rw [IntWalk.i64_in _ (by omega)]; omega
  have e3 : IntKind.i64.wrap (dx * dx) = dx * dx := IntWalk.i64_in _ (by omega)
  have e4 : IntKind.i64.wrap (dy * dy) = dy * dy := IntWalk.i64_in _ (by omega)
  have e5 : IntKind.i64.wrap (dx * dx + dy * dy) = dx * dx + dy * dy := IntWalk.i64_in _ (by omega)
  rw [hres]
  clear hres hdx hdy h1 h2 hq ha hb
  have A_0 : Hid (Blk ((w.alloc (.cells #[.int .i64 ax, .int .i64 ay] 29)).alloc (.cells #[.int .i64 bx, .int .i64 by_] 29)) w.heap.size 29 #[.int .i64 ax, .int .i64 ay]) := allocs_blk [(#[.int .i64 ax, .int .i64 ay], 29), (#[.int .i64 bx, .int .i64 by_], 29)] w 0 _ rfl
  have B_0 : Hid (Blk ((w.alloc (.cells #[.int .i64 ax, .int .i64 ay] 29)).alloc (.cells #[.int .i64 bx, .int .i64 by_] 29)) (w.heap.size + 1) 29 #[.int .i64 bx, .int .i64 by_]) := allocs_blk [(#[.int .i64 ax, .int .i64 ay], 29), (#[.int .i64 bx, .int .i64 by_], 29)] w 1 _ rfl
  have HB_0 : Hid (Below w.heap.size w ((w.alloc (.cells #[.int .i64 ax, .int .i64 ay] 29)).alloc (.cells #[.int .i64 bx, .int .i64 by_] 29))) := allocs_below [(#[.int .i64 ax, .int .i64 ay], 29), (#[.int .i64 bx, .int .i64 by_], 29)] w (Below.refl w.heap.size w) (Nat.le_refl _)
  have yy0 := A_0.out.cell (i := 0) (v := .int .i64 ax) rfl; have yy1 := A_0.out.cell (i := 1) (v := .int .i64 ay) rfl
  have yy2 := B_0.out.cell (i := 0) (v := .int .i64 bx) rfl; have yy3 := B_0.out.cell (i := 1) (v := .int .i64 by_) rfl
  go_enter Try.func60, Try.ntmps60
  go_wp2_with fail
  go_ret
  exact ⟨rfl, HB_0.out⟩
theorem rplace_P (x y : Int) (w : World) (h : OnP x y) : Calls Try.prog 49 #[.agg #[.int .i64 x, .int .i64 y]] w fun e w' => e = .returned (.bool true) ∧ Below w.heap.size w w' := rplace_yes x y w h
theorem rplace_N (x y : Int) (w : World) (h : ¬ OnP x y) : Calls Try.prog 49 #[.agg #[.int .i64 x, .int .i64 y]] w fun e w' => e = .returned (.bool false) ∧ Below w.heap.size w w' := rplace_no x y w h
set_option maxRecDepth 100000 in
set_option maxHeartbeats 4000000 in
theorem rnear_any (ax ay bx by_ px py z : Int) (w : World) :
    Calls Try.prog 38 #[.agg #[.int .i64 ax, .int .i64 ay], .agg #[.int .i64 bx, .int .i64 by_], .agg #[.int .i64 px, .int .i64 py], .int .i64 z] w fun e w' => e = .returned (.bool (decide (NearP ax ay bx by_ px py z))) ∧ Below w.heap.size w w' := by
  have A_0 : Hid (Blk (((w.alloc (.cells #[.int .i64 ax, .int .i64 ay] 29)).alloc (.cells #[.int .i64 bx, .int .i64 by_] 29)).alloc (.cells #[.int .i64 px, .int .i64 py] 29)) w.heap.size 29 #[.int .i64 ax, .int .i64 ay]) := allocs_blk [(#[.int .i64 ax, .int .i64 ay], 29), (#[.int .i64 bx, .int .i64 by_], 29), (#[.int .i64 px, .int .i64 py], 29)] w 0 _ rfl
  have B_0 : Hid (Blk (((w.alloc (.cells #[.int .i64 ax, .int .i64 ay] 29)).alloc (.cells #[.int .i64 bx, .int .i64 by_] 29)).alloc (.cells #[.int .i64 px, .int .i64 py] 29)) (w.heap.size + 1) 29 #[.int .i64 bx, .int .i64 by_]) := allocs_blk [(#[.int .i64 ax, .int .i64 ay], 29), (#[.int .i64 bx, .int .i64 by_], 29), (#[.int .i64 px, .int .i64 py], 29)] w 1 _ rfl
  have P_0 : Hid (Blk (((w.alloc (.cells #[.int .i64 ax, .int .i64 ay] 29)).alloc (.cells #[.int .i64 bx, .int .i64 by_] 29)).alloc (.cells #[.int .i64 px, .int .i64 py] 29)) (w.heap.size + 2) 29 #[.int .i64 px, .int .i64 py]) := allocs_blk [(#[.int .i64 ax, .int .i64 ay], 29), (#[.int .i64 bx, .int .i64 by_], 29), (#[.int .i64 px, .int .i64 py], 29)] w 2 _ rfl
  have HB_0 : Hid (Below w.heap.size w (((w.alloc (.cells #[.int .i64 ax, .int .i64 ay] 29)).alloc (.cells #[.int .i64 bx, .int .i64 by_] 29)).alloc (.cells #[.int .i64 px, .int .i64 py] 29))) := allocs_below [(#[.int .i64 ax, .int .i64 ay], 29), (#[.int .i64 bx, .int .i64 by_], 29), (#[.int .i64 px, .int .i64 py], 29)] w (Below.refl w.heap.size w) (Nat.le_refl _)
  by_cases ha : OnP ax ay
  case neg =>
    have HR : Hid (decide (NearP ax ay bx by_ px py z) = false) := Lib.hid (decide_eq_false fun h => ha h.1)
    have HA := Lib.hid ha; clear ha
    go_enter Try.func38, Try.ntmps38
    have yy0 := A_0.out.cell (i := 0) (v := .int .i64 ax) rfl; have yy1 := A_0.out.cell (i := 1) (v := .int .i64 ay) rfl
    go_wp2_with fail
    refine ((rplace_N ax ay _ HA.out)).mono ?_
    rintro e v0 ⟨rfl, hb⟩
    clear yy0 yy1
    have A_1 : Hid (Blk v0 w.heap.size 29 #[.int .i64 ax, .int .i64 ay]) := Lib.hid (A_0.out.below hb A_0.out.lt)
    have B_1 : Hid (Blk v0 (w.heap.size + 1) 29 #[.int .i64 bx, .int .i64 by_]) := Lib.hid (B_0.out.below hb B_0.out.lt)
    have P_1 : Hid (Blk v0 (w.heap.size + 2) 29 #[.int .i64 px, .int .i64 py]) := Lib.hid (P_0.out.below hb P_0.out.lt)
    have HB_1 : Hid (Below w.heap.size w v0) := Lib.hid (HB_0.out.trans (hb.mono HB_0.out.size))
    clear hb A_0 B_0 P_0 HB_0
    go_wp2_with fail
    go_ret
    exact ⟨by rw [HR.out]; rfl, HB_1.out⟩
  case pos =>
    have HA := Lib.hid ha; clear ha
    by_cases hb : OnP bx by_
    case neg =>
      have HR : Hid (decide (NearP ax ay bx by_ px py z) = false) := Lib.hid (decide_eq_false fun h => hb h.2.1)
      have HB := Lib.hid hb; clear hb
      go_enter Try.func38, Try.ntmps38
      have yy0 := A_0.out.cell (i := 0) (v := .int .i64 ax) rfl; have yy1 := A_0.out.cell (i := 1) (v := .int .i64 ay) rfl
      go_wp2_with fail
      refine ((rplace_P ax ay _ HA.out)).mono ?_
      rintro e v0 ⟨rfl, hb⟩
      clear yy0 yy1
      have A_1 : Hid (Blk v0 w.heap.size 29 #[.int .i64 ax, .int .i64 ay]) := Lib.hid (A_0.out.below hb A_0.out.lt)
      have B_1 : Hid (Blk v0 (w.heap.size + 1) 29 #[.int .i64 bx, .int .i64 by_]) := Lib.hid (B_0.out.below hb B_0.out.lt)
      have P_1 : Hid (Blk v0 (w.heap.size + 2) 29 #[.int .i64 px, .int .i64 py]) := Lib.hid (P_0.out.below hb P_0.out.lt)
      have HB_1 : Hid (Below w.heap.size w v0) := Lib.hid (HB_0.out.trans (hb.mono HB_0.out.size))
      clear hb A_0 B_0 P_0 HB_0
      have yy0 := B_1.out.cell (i := 0) (v := .int .i64 bx) rfl; have yy1 := B_1.out.cell (i := 1) (v := .int .i64 by_) rfl
      go_wp2_with fail
      refine ((rplace_N bx by_ _ HB.out)).mono ?_
      rintro e v1 ⟨rfl, hb⟩
      clear yy0 yy1
      have A_2 : Hid (Blk v1 w.heap.size 29 #[.int .i64 ax, .int .i64 ay]) := Lib.hid (A_1.out.below hb A_1.out.lt)
      have B_2 : Hid (Blk v1 (w.heap.size + 1) 29 #[.int .i64 bx, .int .i64 by_]) := Lib.hid (B_1.out.below hb B_1.out.lt)
      have P_2 : Hid (Blk v1 (w.heap.size + 2) 29 #[.int .i64 px, .int .i64 py]) := Lib.hid (P_1.out.below hb P_1.out.lt)
      have HB_2 : Hid (Below w.heap.size w v1) := Lib.hid (HB_1.out.trans (hb.mono HB_1.out.size))
      clear hb A_1 B_1 P_1 HB_1
      go_wp2_with fail
      go_ret
      exact ⟨by rw [HR.out]; rfl, HB_2.out⟩
    case pos =>
      have HB := Lib.hid hb; clear hb
      by_cases hp : OnP px py
      case neg =>
        have HR : Hid (decide (NearP ax ay bx by_ px py z) = false) := Lib.hid (decide_eq_false fun h => hp h.2.2.1)
        have HP := Lib.hid hp; clear hp
        go_enter Try.func38, Try.ntmps38
        have yy0 := A_0.out.cell (i := 0) (v := .int .i64 ax) rfl; have yy1 := A_0.out.cell (i := 1) (v := .int .i64 ay) rfl
        go_wp2_with fail
        refine ((rplace_P ax ay _ HA.out)).mono ?_
        rintro e v0 ⟨rfl, hb⟩
        clear yy0 yy1
        have A_1 : Hid (Blk v0 w.heap.size 29 #[.int .i64 ax, .int .i64 ay]) := Lib.hid (A_0.out.below hb A_0.out.lt)
        have B_1 : Hid (Blk v0 (w.heap.size + 1) 29 #[.int .i64 bx, .int .i64 by_]) := Lib.hid (B_0.out.below hb B_0.out.lt)
        have P_1 : Hid (Blk v0 (w.heap.size + 2) 29 #[.int .i64 px, .int .i64 py]) := Lib.hid (P_0.out.below hb P_0.out.lt)
        have HB_1 : Hid (Below w.heap.size w v0) := Lib.hid (HB_0.out.trans (hb.mono HB_0.out.size))
        clear hb A_0 B_0 P_0 HB_0
        have yy0 := B_1.out.cell (i := 0) (v := .int .i64 bx) rfl; have yy1 := B_1.out.cell (i := 1) (v := .int .i64 by_) rfl
        go_wp2_with fail
        refine ((rplace_P bx by_ _ HB.out)).mono ?_
        rintro e v1 ⟨rfl, hb⟩
        clear yy0 yy1
        have A_2 : Hid (Blk v1 w.heap.size 29 #[.int .i64 ax, .int .i64 ay]) := Lib.hid (A_1.out.below hb A_1.out.lt)
        have B_2 : Hid (Blk v1 (w.heap.size + 1) 29 #[.int .i64 bx, .int .i64 by_]) := Lib.hid (B_1.out.below hb B_1.out.lt)
        have P_2 : Hid (Blk v1 (w.heap.size + 2) 29 #[.int .i64 px, .int .i64 py]) := Lib.hid (P_1.out.below hb P_1.out.lt)
        have HB_2 : Hid (Below w.heap.size w v1) := Lib.hid (HB_1.out.trans (hb.mono HB_1.out.size))
        clear hb A_1 B_1 P_1 HB_1
        have yy0 := P_2.out.cell (i := 0) (v := .int .i64 px) rfl; have yy1 := P_2.out.cell (i := 1) (v := .int .i64 py) rfl
        go_wp2_with fail
        refine ((rplace_N px py _ HP.out)).mono ?_
        rintro e v2 ⟨rfl, hb⟩
        clear yy0 yy1
        have A_3 : Hid (Blk v2 w.heap.size 29 #[.int .i64 ax, .int .i64 ay]) := Lib.hid (A_2.out.below hb A_2.out.lt)
        have B_3 : Hid (Blk v2 (w.heap.size + 1) 29 #[.int .i64 bx, .int .i64 by_]) := Lib.hid (B_2.out.below hb B_2.out.lt)
        have P_3 : Hid (Blk v2 (w.heap.size + 2) 29 #[.int .i64 px, .int .i64 py]) := Lib.hid (P_2.out.below hb P_2.out.lt)
        have HB_3 : Hid (Below w.heap.size w v2) := Lib.hid (HB_2.out.trans (hb.mono HB_2.out.size))
        clear hb A_2 B_2 P_2 HB_2
        go_wp2_with fail
        go_ret
        exact ⟨by rw [HR.out]; rfl, HB_3.out⟩
      case pos =>
        have HP := Lib.hid hp; clear hp
        by_cases hz0 : 0 ≤ z
        case neg =>
          have HR : Hid (decide (NearP ax ay bx by_ px py z) = false) := Lib.hid (decide_eq_false fun h => hz0 h.2.2.2.1.1)
          have gz : z < 0 := by omega
          go_enter Try.func38, Try.ntmps38
          have yy0 := A_0.out.cell (i := 0) (v := .int .i64 ax) rfl; have yy1 := A_0.out.cell (i := 1) (v := .int .i64 ay) rfl
          go_wp2_with fail
          refine ((rplace_P ax ay _ HA.out)).mono ?_
          rintro e v0 ⟨rfl, hb⟩
          clear yy0 yy1
          have A_1 : Hid (Blk v0 w.heap.size 29 #[.int .i64 ax, .int .i64 ay]) := Lib.hid (A_0.out.below hb A_0.out.lt)
          have B_1 : Hid (Blk v0 (w.heap.size + 1) 29 #[.int .i64 bx, .int .i64 by_]) := Lib.hid (B_0.out.below hb B_0.out.lt)
          have P_1 : Hid (Blk v0 (w.heap.size + 2) 29 #[.int .i64 px, .int .i64 py]) := Lib.hid (P_0.out.below hb P_0.out.lt)
          have HB_1 : Hid (Below w.heap.size w v0) := Lib.hid (HB_0.out.trans (hb.mono HB_0.out.size))
          clear hb A_0 B_0 P_0 HB_0
          have yy0 := B_1.out.cell (i := 0) (v := .int .i64 bx) rfl; have yy1 := B_1.out.cell (i := 1) (v := .int .i64 by_) rfl
          go_wp2_with fail
          refine ((rplace_P bx by_ _ HB.out)).mono ?_
          rintro e v1 ⟨rfl, hb⟩
          clear yy0 yy1
          have A_2 : Hid (Blk v1 w.heap.size 29 #[.int .i64 ax, .int .i64 ay]) := Lib.hid (A_1.out.below hb A_1.out.lt)
          have B_2 : Hid (Blk v1 (w.heap.size + 1) 29 #[.int .i64 bx, .int .i64 by_]) := Lib.hid (B_1.out.below hb B_1.out.lt)
          have P_2 : Hid (Blk v1 (w.heap.size + 2) 29 #[.int .i64 px, .int .i64 py]) := Lib.hid (P_1.out.below hb P_1.out.lt)
          have HB_2 : Hid (Below w.heap.size w v1) := Lib.hid (HB_1.out.trans (hb.mono HB_1.out.size))
          clear hb A_1 B_1 P_1 HB_1
          have yy0 := P_2.out.cell (i := 0) (v := .int .i64 px) rfl; have yy1 := P_2.out.cell (i := 1) (v := .int .i64 py) rfl
          go_wp2_with fail
          refine ((rplace_P px py _ HP.out)).mono ?_
          rintro e v2 ⟨rfl, hb⟩
          clear yy0 yy1
          have A_3 : Hid (Blk v2 w.heap.size 29 #[.int .i64 ax, .int .i64 ay]) := Lib.hid (A_2.out.below hb A_2.out.lt)
          have B_3 : Hid (Blk v2 (w.heap.size + 1) 29 #[.int .i64 bx, .int .i64 by_]) := Lib.hid (B_2.out.below hb B_2.out.lt)
          have P_3 : Hid (Blk v2 (w.heap.size + 2) 29 #[.int .i64 px, .int .i64 py]) := Lib.hid (P_2.out.below hb P_2.out.lt)
          have HB_3 : Hid (Below w.heap.size w v2) := Lib.hid (HB_2.out.trans (hb.mono HB_2.out.size))
          clear hb A_2 B_2 P_2 HB_2
          go_wp2_with fail
          go_ret
          exact ⟨by rw [HR.out]; rfl, HB_3.out⟩
        case pos =>
          by_cases hz1 : z ≤ 1000
          case neg =>
            have HR : Hid (decide (NearP ax ay bx by_ px py z) = false) := Lib.hid (decide_eq_false fun h => hz1 h.2.2.2.1.2)
            have gz : 1000 < z := by omega
            go_enter Try.func38, Try.ntmps38
            have yy0 := A_0.out.cell (i := 0) (v := .int .i64 ax) rfl; have yy1 := A_0.out.cell (i := 1) (v := .int .i64 ay) rfl
            go_wp2_with fail
            refine ((rplace_P ax ay _ HA.out)).mono ?_
            rintro e v0 ⟨rfl, hb⟩
            clear yy0 yy1
            have A_1 : Hid (Blk v0 w.heap.size 29 #[.int .i64 ax, .int .i64 ay]) := Lib.hid (A_0.out.below hb A_0.out.lt)
            have B_1 : Hid (Blk v0 (w.heap.size + 1) 29 #[.int .i64 bx, .int .i64 by_]) := Lib.hid (B_0.out.below hb B_0.out.lt)
            have P_1 : Hid (Blk v0 (w.heap.size + 2) 29 #[.int .i64 px, .int .i64 py]) := Lib.hid (P_0.out.below hb P_0.out.lt)
            have HB_1 : Hid (Below w.heap.size w v0) := Lib.hid (HB_0.out.trans (hb.mono HB_0.out.size))
            clear hb A_0 B_0 P_0 HB_0
            have yy0 := B_1.out.cell (i := 0) (v := .int .i64 bx) rfl; have yy1 := B_1.out.cell (i := 1) (v := .int .i64 by_) rfl
            go_wp2_with fail
            refine ((rplace_P bx by_ _ HB.out)).mono ?_
            rintro e v1 ⟨rfl, hb⟩
            clear yy0 yy1
            have A_2 : Hid (Blk v1 w.heap.size 29 #[.int .i64 ax, .int .i64 ay]) := Lib.hid (A_1.out.below hb A_1.out.lt)
            have B_2 : Hid (Blk v1 (w.heap.size + 1) 29 #[.int .i64 bx, .int .i64 by_]) := Lib.hid (B_1.out.below hb B_1.out.lt)
            have P_2 : Hid (Blk v1 (w.heap.size + 2) 29 #[.int .i64 px, .int .i64 py]) := Lib.hid (P_1.out.below hb P_1.out.lt)
            have HB_2 : Hid (Below w.heap.size w v1) := Lib.hid (HB_1.out.trans (hb.mono HB_1.out.size))
            clear hb A_1 B_1 P_1 HB_1
            have yy0 := P_2.out.cell (i := 0) (v := .int .i64 px) rfl; have yy1 := P_2.out.cell (i := 1) (v := .int .i64 py) rfl
            go_wp2_with fail
            refine ((rplace_P px py _ HP.out)).mono ?_
            rintro e v2 ⟨rfl, hb⟩
            clear yy0 yy1
            have A_3 : Hid (Blk v2 w.heap.size 29 #[.int .i64 ax, .int .i64 ay]) := Lib.hid (A_2.out.below hb A_2.out.lt)
            have B_3 : Hid (Blk v2 (w.heap.size + 1) 29 #[.int .i64 bx, .int .i64 by_]) := Lib.hid (B_2.out.below hb B_2.out.lt)
            have P_3 : Hid (Blk v2 (w.heap.size + 2) 29 #[.int .i64 px, .int .i64 py]) := Lib.hid (P_2.out.below hb P_2.out.lt)
            have HB_3 : Hid (Below w.heap.size w v2) := Lib.hid (HB_2.out.trans (hb.mono HB_2.out.size))
            clear hb A_2 B_2 P_2 HB_2
            go_wp2_with fail
            go_ret
            exact ⟨by rw [HR.out]; rfl, HB_3.out⟩
          case pos =>
            have SA := sqd_le HA.out HP.out; have SB := sqd_le HB.out HP.out; have SL := sqd_le HA.out HB.out
            have hq1 := fun W => rsquare_any ax ay px py W HA.out HP.out; have hq2 := fun W => rsquare_any bx by_ px py W HB.out HP.out; have hq3 := fun W => rsquare_any ax ay bx by_ W HA.out HB.out
            have hspec : NearP ax ay bx by_ px py z ↔ (sqd ax ay px py ≤ z * z ∨ sqd bx by_ px py ≤ z * z ∨ (¬ (sqd ax ay bx by_ + sqd ax ay px py < sqd bx by_ px py ∨ sqd ax ay bx by_ + sqd bx by_ px py < sqd ax ay px py ∨ sqd ax ay bx by_ = 0) ∧
                ((bx - ax) * (py - ay) - (by_ - ay) * (px - ax)) * ((bx - ax) * (py - ay) - (by_ - ay) * (px - ax)) ≤ z * z * sqd ax ay bx by_)) := ⟨fun h => h.2.2.2.2, fun h => ⟨HA.out, HB.out, HP.out, ⟨hz0, hz1⟩, h⟩⟩
            have hm := mul_le_of (a := z) (b := z) (n := 1000) (m := 1000) (by omega) (by omega) (by omega) (by omega)
            have em0 : IntKind.i64.wrap (z * z) = z * z := IntWalk.i64_in _ (by omega)
            have hm0 := self_mul z
            obtain ⟨most, hmo⟩ : ∃ m, m = z * z := ⟨_, rfl⟩
            have em : IntKind.i64.wrap (z * z) = most := em0.trans hmo.symm
            rw [← hmo] at hm hspec hm0
            clear em0
            obtain ⟨sa, hsa⟩ : ∃ s, s = sqd ax ay px py := ⟨_, rfl⟩
            obtain ⟨sb, hsb⟩ : ∃ s, s = sqd bx by_ px py := ⟨_, rfl⟩
            obtain ⟨ln, hln⟩ : ∃ s, s = sqd ax ay bx by_ := ⟨_, rfl⟩
            rw [← hsa] at SA hq1 hspec; rw [← hsb] at SB hq2 hspec; rw [← hln] at SL hq3 hspec
            have ha := HA.out; have hb := HB.out; have hp := HP.out
            unfold OnP at ha hb hp
            obtain ⟨u1, hu1⟩ : ∃ u, u = bx - ax := ⟨_, rfl⟩
            obtain ⟨u2, hu2⟩ : ∃ u, u = py - ay := ⟨_, rfl⟩
            obtain ⟨u3, hu3⟩ : ∃ u, u = by_ - ay := ⟨_, rfl⟩
            obtain ⟨u4, hu4⟩ : ∃ u, u = px - ax := ⟨_, rfl⟩
            have m1 := mul_le_of (a := u1) (b := u2) (n := 4095) (m := 4095) (by omega) (by omega) (by omega) (by omega)
            have m2 := mul_le_of (a := u3) (b := u4) (n := 4095) (m := 4095) (by omega) (by omega) (by omega) (by omega)
            have f1 : IntKind.i64.wrap (bx - ax) = u1 := by rw [IntWalk.i64_in _ (by omega)]; omega
            have f2 : IntKind.i64.wrap (py - ay) = u2 := by rw [IntWalk.i64_in _ (by omega)]; omega
            have f3 : IntKind.i64.wrap (by_ - ay) = u3 := by rw [IntWalk.i64_in _ (by omega)]; omega
            have f4 : IntKind.i64.wrap (px - ax) = u4 := by rw [IntWalk.i64_in _ (by omega)]; omega
            rw [← hu1, ← hu2, ← hu3, ← hu4] at hspec
            have f5 : IntKind.i64.wrap (u1 * u2) = u1 * u2 := IntWalk.i64_in _ (by omega)
            have f6 : IntKind.i64.wrap (u3 * u4) = u3 * u4 := IntWalk.i64_in _ (by omega)
            obtain ⟨ar, har⟩ : ∃ r, r = u1 * u2 - u3 * u4 := ⟨_, rfl⟩
            have f7 : IntKind.i64.wrap (u1 * u2 - u3 * u4) = ar := by rw [IntWalk.i64_in _ (by omega)]; omega
            rw [← har] at hspec
            have m3 := mul_le_of (a := ar) (b := ar) (n := 33538050) (m := 33538050) (by omega) (by omega) (by omega) (by omega)
            have m4 := mul_le_of (a := most) (b := ln) (n := 1000000) (m := 33538050) (by omega) (by omega) (by omega) (by omega)
            have f8 : IntKind.i64.wrap (ar * ar) = ar * ar := IntWalk.i64_in _ (by omega)
            have f9 : IntKind.i64.wrap (most * ln) = most * ln := IntWalk.i64_in _ (by omega)
            have fa : IntKind.i64.wrap (ln + sa) = ln + sa := IntWalk.i64_in _ (by omega)
            have fb : IntKind.i64.wrap (ln + sb) = ln + sb := IntWalk.i64_in _ (by omega)
            have HF := Lib.hid (And.intro f1 (And.intro f2 (And.intro f3 (And.intro f4 (And.intro f5 (And.intro f6 (And.intro f7 (And.intro f8 f9))))))))
            have HAB := Lib.hid (And.intro fa fb)
            have HSP := Lib.hid hspec
            have HQ1 := Lib.hid hq1; have HQ2 := Lib.hid hq2; have HQ3 := Lib.hid hq3
            have gz0 : ¬ z < 0 := by omega
            have gz1 : ¬ 1000 < z := by omega
            clear SA SB SL hq1 hq2 hq3 hspec hm hmo hsa hsb hln ha hb hp hu1 hu2 hu3 hu4 m1 m2 m3 m4 har f1 f2 f3 f4 f5 f6 f7 f8 f9 fa fb hz0 hz1 hm0
            by_cases t1 : sa ≤ most
            case pos =>
              have HR : Hid (decide (NearP ax ay bx by_ px py z) = true) := Lib.hid (decide_eq_true (HSP.out.2 (.inl t1)))
              go_enter Try.func38, Try.ntmps38
              have yy0 := A_0.out.cell (i := 0) (v := .int .i64 ax) rfl; have yy1 := A_0.out.cell (i := 1) (v := .int .i64 ay) rfl
              go_wp2_with fail
              refine ((rplace_P ax ay _ HA.out)).mono ?_
              rintro e v0 ⟨rfl, hb⟩
              clear yy0 yy1
              have A_1 : Hid (Blk v0 w.heap.size 29 #[.int .i64 ax, .int .i64 ay]) := Lib.hid (A_0.out.below hb A_0.out.lt)
              have B_1 : Hid (Blk v0 (w.heap.size + 1) 29 #[.int .i64 bx, .int .i64 by_]) := Lib.hid (B_0.out.below hb B_0.out.lt)
              have P_1 : Hid (Blk v0 (w.heap.size + 2) 29 #[.int .i64 px, .int .i64 py]) := Lib.hid (P_0.out.below hb P_0.out.lt)
              have HB_1 : Hid (Below w.heap.size w v0) := Lib.hid (HB_0.out.trans (hb.mono HB_0.out.size))
              clear hb A_0 B_0 P_0 HB_0
              have yy0 := B_1.out.cell (i := 0) (v := .int .i64 bx) rfl; have yy1 := B_1.out.cell (i := 1) (v := .int .i64 by_) rfl
              go_wp2_with fail
              refine ((rplace_P bx by_ _ HB.out)).mono ?_
              rintro e v1 ⟨rfl, hb⟩
              clear yy0 yy1
              have A_2 : Hid (Blk v1 w.heap.size 29 #[.int .i64 ax, .int .i64 ay]) := Lib.hid (A_1.out.below hb A_1.out.lt)
              have B_2 : Hid (Blk v1 (w.heap.size + 1) 29 #[.int .i64 bx, .int .i64 by_]) := Lib.hid (B_1.out.below hb B_1.out.lt)
              have P_2 : Hid (Blk v1 (w.heap.size + 2) 29 #[.int .i64 px, .int .i64 py]) := Lib.hid (P_1.out.below hb P_1.out.lt)
              have HB_2 : Hid (Below w.heap.size w v1) := Lib.hid (HB_1.out.trans (hb.mono HB_1.out.size))
              clear hb A_1 B_1 P_1 HB_1
              have yy0 := P_2.out.cell (i := 0) (v := .int .i64 px) rfl; have yy1 := P_2.out.cell (i := 1) (v := .int .i64 py) rfl
              go_wp2_with fail
              refine ((rplace_P px py _ HP.out)).mono ?_
              rintro e v2 ⟨rfl, hb⟩
              clear yy0 yy1
              have A_3 : Hid (Blk v2 w.heap.size 29 #[.int .i64 ax, .int .i64 ay]) := Lib.hid (A_2.out.below hb A_2.out.lt)
              have B_3 : Hid (Blk v2 (w.heap.size + 1) 29 #[.int .i64 bx, .int .i64 by_]) := Lib.hid (B_2.out.below hb B_2.out.lt)
              have P_3 : Hid (Blk v2 (w.heap.size + 2) 29 #[.int .i64 px, .int .i64 py]) := Lib.hid (P_2.out.below hb P_2.out.lt)
              have HB_3 : Hid (Below w.heap.size w v2) := Lib.hid (HB_2.out.trans (hb.mono HB_2.out.size))
              clear hb A_2 B_2 P_2 HB_2
              have yy0 := A_3.out.cell (i := 0) (v := .int .i64 ax) rfl; have yy1 := A_3.out.cell (i := 1) (v := .int .i64 ay) rfl
              have yy2 := P_3.out.cell (i := 0) (v := .int .i64 px) rfl; have yy3 := P_3.out.cell (i := 1) (v := .int .i64 py) rfl
              go_wp2_with fail
              refine (HQ1.out _).mono ?_
              rintro e v3 ⟨rfl, hb⟩
              clear yy0 yy1 yy2 yy3
              have A_4 : Hid (Blk v3 w.heap.size 29 #[.int .i64 ax, .int .i64 ay]) := Lib.hid (A_3.out.below hb A_3.out.lt)
              have B_4 : Hid (Blk v3 (w.heap.size + 1) 29 #[.int .i64 bx, .int .i64 by_]) := Lib.hid (B_3.out.below hb B_3.out.lt)
              have P_4 : Hid (Blk v3 (w.heap.size + 2) 29 #[.int .i64 px, .int .i64 py]) := Lib.hid (P_3.out.below hb P_3.out.lt)
              have HB_4 : Hid (Below w.heap.size w v3) := Lib.hid (HB_3.out.trans (hb.mono HB_3.out.size))
              clear hb A_3 B_3 P_3 HB_3
              go_wp2_with fail
              go_ret
              exact ⟨by rw [HR.out]; rfl, HB_4.out⟩
            case neg =>
              by_cases t2 : sb ≤ most
              case pos =>
                have HR : Hid (decide (NearP ax ay bx by_ px py z) = true) := Lib.hid (decide_eq_true (HSP.out.2 (.inr (.inl t2))))
                go_enter Try.func38, Try.ntmps38
                have yy0 := A_0.out.cell (i := 0) (v := .int .i64 ax) rfl; have yy1 := A_0.out.cell (i := 1) (v := .int .i64 ay) rfl
                go_wp2_with fail
                refine ((rplace_P ax ay _ HA.out)).mono ?_
                rintro e v0 ⟨rfl, hb⟩
                clear yy0 yy1
                have A_1 : Hid (Blk v0 w.heap.size 29 #[.int .i64 ax, .int .i64 ay]) := Lib.hid (A_0.out.below hb A_0.out.lt)
                have B_1 : Hid (Blk v0 (w.heap.size + 1) 29 #[.int .i64 bx, .int .i64 by_]) := Lib.hid (B_0.out.below hb B_0.out.lt)
                have P_1 : Hid (Blk v0 (w.heap.size + 2) 29 #[.int .i64 px, .int .i64 py]) := Lib.hid (P_0.out.below hb P_0.out.lt)
                have HB_1 : Hid (Below w.heap.size w v0) := Lib.hid (HB_0.out.trans (hb.mono HB_0.out.size))
                clear hb A_0 B_0 P_0 HB_0
                have yy0 := B_1.out.cell (i := 0) (v := .int .i64 bx) rfl; have yy1 := B_1.out.cell (i := 1) (v := .int .i64 by_) rfl
                go_wp2_with fail
                refine ((rplace_P bx by_ _ HB.out)).mono ?_
                rintro e v1 ⟨rfl, hb⟩
                clear yy0 yy1
                have A_2 : Hid (Blk v1 w.heap.size 29 #[.int .i64 ax, .int .i64 ay]) := Lib.hid (A_1.out.below hb A_1.out.lt)
                have B_2 : Hid (Blk v1 (w.heap.size + 1) 29 #[.int .i64 bx, .int .i64 by_]) := Lib.hid (B_1.out.below hb B_1.out.lt)
                have P_2 : Hid (Blk v1 (w.heap.size + 2) 29 #[.int .i64 px, .int .i64 py]) := Lib.hid (P_1.out.below hb P_1.out.lt)
                have HB_2 : Hid (Below w.heap.size w v1) := Lib.hid (HB_1.out.trans (hb.mono HB_1.out.size))
                clear hb A_1 B_1 P_1 HB_1
                have yy0 := P_2.out.cell (i := 0) (v := .int .i64 px) rfl; have yy1 := P_2.out.cell (i := 1) (v := .int .i64 py) rfl
                go_wp2_with fail
                refine ((rplace_P px py _ HP.out)).mono ?_
                rintro e v2 ⟨rfl, hb⟩
                clear yy0 yy1
                have A_3 : Hid (Blk v2 w.heap.size 29 #[.int .i64 ax, .int .i64 ay]) := Lib.hid (A_2.out.below hb A_2.out.lt)
                have B_3 : Hid (Blk v2 (w.heap.size + 1) 29 #[.int .i64 bx, .int .i64 by_]) := Lib.hid (B_2.out.below hb B_2.out.lt)
                have P_3 : Hid (Blk v2 (w.heap.size + 2) 29 #[.int .i64 px, .int .i64 py]) := Lib.hid (P_2.out.below hb P_2.out.lt)
                have HB_3 : Hid (Below w.heap.size w v2) := Lib.hid (HB_2.out.trans (hb.mono HB_2.out.size))
                clear hb A_2 B_2 P_2 HB_2
                have yy0 := A_3.out.cell (i := 0) (v := .int .i64 ax) rfl; have yy1 := A_3.out.cell (i := 1) (v := .int .i64 ay) rfl
                have yy2 := P_3.out.cell (i := 0) (v := .int .i64 px) rfl; have yy3 := P_3.out.cell (i := 1) (v := .int .i64 py) rfl
                go_wp2_with fail
                refine (HQ1.out _).mono ?_
                rintro e v3 ⟨rfl, hb⟩
                clear yy0 yy1 yy2 yy3
                have A_4 : Hid (Blk v3 w.heap.size 29 #[.int .i64 ax, .int .i64 ay]) := Lib.hid (A_3.out.below hb A_3.out.lt)
                have B_4 : Hid (Blk v3 (w.heap.size + 1) 29 #[.int .i64 bx, .int .i64 by_]) := Lib.hid (B_3.out.below hb B_3.out.lt)
                have P_4 : Hid (Blk v3 (w.heap.size + 2) 29 #[.int .i64 px, .int .i64 py]) := Lib.hid (P_3.out.below hb P_3.out.lt)
                have HB_4 : Hid (Below w.heap.size w v3) := Lib.hid (HB_3.out.trans (hb.mono HB_3.out.size))
                clear hb A_3 B_3 P_3 HB_3
                have yy0 := B_4.out.cell (i := 0) (v := .int .i64 bx) rfl; have yy1 := B_4.out.cell (i := 1) (v := .int .i64 by_) rfl
                have yy2 := P_4.out.cell (i := 0) (v := .int .i64 px) rfl; have yy3 := P_4.out.cell (i := 1) (v := .int .i64 py) rfl
                go_wp2_with fail
                refine (HQ2.out _).mono ?_
                rintro e v4 ⟨rfl, hb⟩
                clear yy0 yy1 yy2 yy3
                have A_5 : Hid (Blk v4 w.heap.size 29 #[.int .i64 ax, .int .i64 ay]) := Lib.hid (A_4.out.below hb A_4.out.lt)
                have B_5 : Hid (Blk v4 (w.heap.size + 1) 29 #[.int .i64 bx, .int .i64 by_]) := Lib.hid (B_4.out.below hb B_4.out.lt)
                have P_5 : Hid (Blk v4 (w.heap.size + 2) 29 #[.int .i64 px, .int .i64 py]) := Lib.hid (P_4.out.below hb P_4.out.lt)
                have HB_5 : Hid (Below w.heap.size w v4) := Lib.hid (HB_4.out.trans (hb.mono HB_4.out.size))
                clear hb A_4 B_4 P_4 HB_4
                go_wp2_with fail
                go_ret
                exact ⟨by rw [HR.out]; rfl, HB_5.out⟩
              case neg =>
                go_enter Try.func38, Try.ntmps38
                have yy0 := A_0.out.cell (i := 0) (v := .int .i64 ax) rfl; have yy1 := A_0.out.cell (i := 1) (v := .int .i64 ay) rfl
                go_wp2_with fail
                refine ((rplace_P ax ay _ HA.out)).mono ?_
                rintro e v0 ⟨rfl, hb⟩
                clear yy0 yy1
                have A_1 : Hid (Blk v0 w.heap.size 29 #[.int .i64 ax, .int .i64 ay]) := Lib.hid (A_0.out.below hb A_0.out.lt)
                have B_1 : Hid (Blk v0 (w.heap.size + 1) 29 #[.int .i64 bx, .int .i64 by_]) := Lib.hid (B_0.out.below hb B_0.out.lt)
                have P_1 : Hid (Blk v0 (w.heap.size + 2) 29 #[.int .i64 px, .int .i64 py]) := Lib.hid (P_0.out.below hb P_0.out.lt)
                have HB_1 : Hid (Below w.heap.size w v0) := Lib.hid (HB_0.out.trans (hb.mono HB_0.out.size))
                clear hb A_0 B_0 P_0 HB_0
                have yy0 := B_1.out.cell (i := 0) (v := .int .i64 bx) rfl; have yy1 := B_1.out.cell (i := 1) (v := .int .i64 by_) rfl
                go_wp2_with fail
                refine ((rplace_P bx by_ _ HB.out)).mono ?_
                rintro e v1 ⟨rfl, hb⟩
                clear yy0 yy1
                have A_2 : Hid (Blk v1 w.heap.size 29 #[.int .i64 ax, .int .i64 ay]) := Lib.hid (A_1.out.below hb A_1.out.lt)
                have B_2 : Hid (Blk v1 (w.heap.size + 1) 29 #[.int .i64 bx, .int .i64 by_]) := Lib.hid (B_1.out.below hb B_1.out.lt)
                have P_2 : Hid (Blk v1 (w.heap.size + 2) 29 #[.int .i64 px, .int .i64 py]) := Lib.hid (P_1.out.below hb P_1.out.lt)
                have HB_2 : Hid (Below w.heap.size w v1) := Lib.hid (HB_1.out.trans (hb.mono HB_1.out.size))
                clear hb A_1 B_1 P_1 HB_1
                have yy0 := P_2.out.cell (i := 0) (v := .int .i64 px) rfl; have yy1 := P_2.out.cell (i := 1) (v := .int .i64 py) rfl
                go_wp2_with fail
                refine ((rplace_P px py _ HP.out)).mono ?_
                rintro e v2 ⟨rfl, hb⟩
                clear yy0 yy1
                have A_3 : Hid (Blk v2 w.heap.size 29 #[.int .i64 ax, .int .i64 ay]) := Lib.hid (A_2.out.below hb A_2.out.lt)
                have B_3 : Hid (Blk v2 (w.heap.size + 1) 29 #[.int .i64 bx, .int .i64 by_]) := Lib.hid (B_2.out.below hb B_2.out.lt)
                have P_3 : Hid (Blk v2 (w.heap.size + 2) 29 #[.int .i64 px, .int .i64 py]) := Lib.hid (P_2.out.below hb P_2.out.lt)
                have HB_3 : Hid (Below w.heap.size w v2) := Lib.hid (HB_2.out.trans (hb.mono HB_2.out.size))
                clear hb A_2 B_2 P_2 HB_2
                have yy0 := A_3.out.cell (i := 0) (v := .int .i64 ax) rfl; have yy1 := A_3.out.cell (i := 1) (v := .int .i64 ay) rfl
                have yy2 := P_3.out.cell (i := 0) (v := .int .i64 px) rfl; have yy3 := P_3.out.cell (i := 1) (v := .int .i64 py) rfl
                go_wp2_with fail
                refine (HQ1.out _).mono ?_
                rintro e v3 ⟨rfl, hb⟩
                clear yy0 yy1 yy2 yy3
                have A_4 : Hid (Blk v3 w.heap.size 29 #[.int .i64 ax, .int .i64 ay]) := Lib.hid (A_3.out.below hb A_3.out.lt)
                have B_4 : Hid (Blk v3 (w.heap.size + 1) 29 #[.int .i64 bx, .int .i64 by_]) := Lib.hid (B_3.out.below hb B_3.out.lt)
                have P_4 : Hid (Blk v3 (w.heap.size + 2) 29 #[.int .i64 px, .int .i64 py]) := Lib.hid (P_3.out.below hb P_3.out.lt)
                have HB_4 : Hid (Below w.heap.size w v3) := Lib.hid (HB_3.out.trans (hb.mono HB_3.out.size))
                clear hb A_3 B_3 P_3 HB_3
                have yy0 := B_4.out.cell (i := 0) (v := .int .i64 bx) rfl; have yy1 := B_4.out.cell (i := 1) (v := .int .i64 by_) rfl
                have yy2 := P_4.out.cell (i := 0) (v := .int .i64 px) rfl; have yy3 := P_4.out.cell (i := 1) (v := .int .i64 py) rfl
                go_wp2_with fail
                refine (HQ2.out _).mono ?_
                rintro e v4 ⟨rfl, hb⟩
                clear yy0 yy1 yy2 yy3
                have A_5 : Hid (Blk v4 w.heap.size 29 #[.int .i64 ax, .int .i64 ay]) := Lib.hid (A_4.out.below hb A_4.out.lt)
                have B_5 : Hid (Blk v4 (w.heap.size + 1) 29 #[.int .i64 bx, .int .i64 by_]) := Lib.hid (B_4.out.below hb B_4.out.lt)
                have P_5 : Hid (Blk v4 (w.heap.size + 2) 29 #[.int .i64 px, .int .i64 py]) := Lib.hid (P_4.out.below hb P_4.out.lt)
                have HB_5 : Hid (Below w.heap.size w v4) := Lib.hid (HB_4.out.trans (hb.mono HB_4.out.size))
                clear hb A_4 B_4 P_4 HB_4
                have yy0 := A_5.out.cell (i := 0) (v := .int .i64 ax) rfl; have yy1 := A_5.out.cell (i := 1) (v := .int .i64 ay) rfl
                have yy2 := B_5.out.cell (i := 0) (v := .int .i64 bx) rfl; have yy3 := B_5.out.cell (i := 1) (v := .int .i64 by_) rfl
                go_wp2_with fail
                refine (HQ3.out _).mono ?_
                rintro e v5 ⟨rfl, hb⟩
                clear yy0 yy1 yy2 yy3
                have A_6 : Hid (Blk v5 w.heap.size 29 #[.int .i64 ax, .int .i64 ay]) := Lib.hid (A_5.out.below hb A_5.out.lt)
                have B_6 : Hid (Blk v5 (w.heap.size + 1) 29 #[.int .i64 bx, .int .i64 by_]) := Lib.hid (B_5.out.below hb B_5.out.lt)
                have P_6 : Hid (Blk v5 (w.heap.size + 2) 29 #[.int .i64 px, .int .i64 py]) := Lib.hid (P_5.out.below hb P_5.out.lt)
                have HB_6 : Hid (Below w.heap.size w v5) := Lib.hid (HB_5.out.trans (hb.mono HB_5.out.size))
                clear hb A_5 B_5 P_5 HB_5
                go_upto_region 7 with fail
                have HT := Lib.hid (And.intro t1 t2); clear t1 t2 em gz0 gz1
                go_cut [74] from 51 to 74 (fun v wx => ∃ bv : Bool, v = .bool bv ∧ (bv = true ↔ (ln + sa < sb ∨ ln + sb < sa ∨ ln = 0)) ∧ Below v5.heap.size v5 wx)
                case first =>
                  obtain ⟨fa, fb⟩ := HAB.out
                  have HK : Hid (∀ w', Below v5.heap.size v5 w' → w'.cell? ⟨w.heap.size, 0, none⟩ = some (.int .i64 ax) ∧ w'.cell? ⟨w.heap.size, 1, none⟩ = some (.int .i64 ay) ∧ w'.cell? ⟨(w.heap.size + 1), 0, none⟩ = some (.int .i64 bx) ∧ w'.cell? ⟨(w.heap.size + 1), 1, none⟩ = some (.int .i64 by_) ∧ w'.cell? ⟨(w.heap.size + 2), 0, none⟩ = some (.int .i64 px) ∧ w'.cell? ⟨(w.heap.size + 2), 1, none⟩ = some (.int .i64 py)) := fun w' hW => ⟨((A_6.out.below hW A_6.out.lt).cell (i := 0) rfl), ((A_6.out.below hW A_6.out.lt).cell (i := 1) rfl), ((B_6.out.below hW B_6.out.lt).cell (i := 0) rfl), ((B_6.out.below hW B_6.out.lt).cell (i := 1) rfl), ((P_6.out.below hW P_6.out.lt).cell (i := 0) rfl), ((P_6.out.below hW P_6.out.lt).cell (i := 1) rfl)⟩
                  have HY : Hid (Below v5.heap.size v5 v5.drew) := (Below.refl _ _).drew
                  refine wp_region_held_drew (S := (fun w' => w'.cell? ⟨w.heap.size, 0, none⟩ = some (.int .i64 ax) ∧ w'.cell? ⟨w.heap.size, 1, none⟩ = some (.int .i64 ay) ∧ w'.cell? ⟨(w.heap.size + 1), 0, none⟩ = some (.int .i64 bx) ∧ w'.cell? ⟨(w.heap.size + 1), 1, none⟩ = some (.int .i64 by_) ∧ w'.cell? ⟨(w.heap.size + 2), 0, none⟩ = some (.int .i64 px) ∧ w'.cell? ⟨(w.heap.size + 2), 1, none⟩ = some (.int .i64 py))) (by kernel_rfl) (HK.out _ HY.out) (fun hHeld => ?_)
                  refine held_take 0 (some 51) ?_ rfl rfl (by kernel_rfl) (fun _ _ _ h => h) (by kernel_rfl) ?_ (by assumption) ?_
                  rotate_left
                  · intro wS hS; (try dsimp only at hS); go_simp <;> with_reducible rfl
                  simp only [Act.put, List.setIfInBounds_toArray, List.set_cons_zero, List.set_cons_succ]
                  refine held_take 1 (some 52) ?_ rfl rfl (by kernel_rfl) (fun _ _ _ h => h) (by kernel_rfl) ?_ (by assumption) ?_
                  rotate_left
                  · intro wS hS; (try dsimp only at hS); go_simp <;> with_reducible rfl
                  simp only [Act.put, List.setIfInBounds_toArray, List.set_cons_zero, List.set_cons_succ]
                  refine held_take 2 (some 53) ?_ rfl rfl (by kernel_rfl) (fun _ _ _ h => h) (by kernel_rfl) ?_ (by assumption) ?_
                  rotate_left
                  · intro wS hS; (try dsimp only at hS); go_simp <;> with_reducible rfl
                  simp only [Act.put, List.setIfInBounds_toArray, List.set_cons_zero, List.set_cons_succ]
                  refine held_take 5 (some 56) ?_ rfl rfl (by kernel_rfl) (fun _ _ _ h => h) (by kernel_rfl) ?_ (by assumption) ?_
                  rotate_left
                  · intro wS hS; (try dsimp only at hS); go_simp <;> with_reducible rfl
                  simp only [Act.put, List.setIfInBounds_toArray, List.set_cons_zero, List.set_cons_succ]
                  refine held_take 6 (some 57) ?_ rfl rfl (by kernel_rfl) (fun _ _ _ h => h) (by kernel_rfl) ?_ (by assumption) ?_
                  rotate_left
                  · intro wS hS; (try dsimp only at hS); go_simp <;> with_reducible rfl
                  simp only [Act.put, List.setIfInBounds_toArray, List.set_cons_zero, List.set_cons_succ]
                  refine held_call 3 (some 54) 60 [.tmp 52, .tmp 53] #[29, 29] rfl rfl (by kernel_rfl) (by kernel_rfl) rfl (enters_of Try.func60 (by kernel_rfl) rfl) (HQ1.out _) (by kernel_rfl) ?_
                  rintro e wq ⟨rfl, hq⟩
                  have HY := Lib.hid (HY.out.trans (hq.mono HY.out.size)); clear hq
                  refine ⟨_, rfl, (HK.out _ HY.out), ?_⟩
                  have hHeld := (HK.out _ HY.out)
                  simp only [Act.put, List.setIfInBounds_toArray, List.set_cons_zero, List.set_cons_succ]
                  refine held_take 4 (some 55) ?_ rfl rfl (by kernel_rfl) (fun _ _ _ h => h) (by kernel_rfl) ?_ (by assumption) ?_
                  rotate_left
                  · intro wS hS; (try dsimp only at hS); go_simp <;> with_reducible rfl
                  simp only [Act.put, List.setIfInBounds_toArray, List.set_cons_zero, List.set_cons_succ]
                  refine held_call 7 (some 58) 60 [.tmp 56, .tmp 57] #[29, 29] rfl rfl (by kernel_rfl) (by kernel_rfl) rfl (enters_of Try.func60 (by kernel_rfl) rfl) (HQ2.out _) (by kernel_rfl) ?_
                  rintro e wq ⟨rfl, hq⟩
                  have HY := Lib.hid (HY.out.trans (hq.mono HY.out.size)); clear hq
                  refine ⟨_, rfl, (HK.out _ HY.out), ?_⟩
                  have hHeld := (HK.out _ HY.out)
                  simp only [Act.put, List.setIfInBounds_toArray, List.set_cons_zero, List.set_cons_succ]
                  by_cases t3 : ln + sa < sb
                  case pos =>
                    have t3_d := decide_eq_true t3
                    refine held_take 8 (some 59) (.bool true) rfl rfl (by kernel_rfl) (fun _ _ _ h => h) (by kernel_rfl) ?_ (by assumption) ?_
                    · intro wS hS; (try dsimp only at hS); go_simp
                    simp only [Act.put, List.setIfInBounds_toArray, List.set_cons_zero, List.set_cons_succ]
                    refine held_take 9 (some 60) ?_ rfl rfl (by kernel_rfl) (fun _ _ _ h => h) (by kernel_rfl) ?_ (by assumption) ?_
                    rotate_left
                    · intro wS hS; (try dsimp only at hS); go_simp <;> with_reducible rfl
                    simp only [Act.put, List.setIfInBounds_toArray, List.set_cons_zero, List.set_cons_succ]
                    refine held_skips [(10, some 61), (11, some 62), (12, some 63), (13, some 64), (14, some 65), (15, some 66), (16, some 67), (17, some 68), (18, some 69)] 5 (fun _ _ _ _ h => h) rfl (by kernel_rfl) (by assumption) ?_
                    simp only [skipL, skipA, List.foldl_cons, List.foldl_nil, Act.put, List.setIfInBounds_toArray, List.set_cons_zero, List.set_cons_succ]
                    refine held_take 19 (some 70) ?_ rfl rfl (by kernel_rfl) (fun _ _ _ h => h) (by kernel_rfl) ?_ (by assumption) ?_
                    rotate_left
                    · intro wS hS; (try dsimp only at hS); go_simp <;> with_reducible rfl
                    simp only [Act.put, List.setIfInBounds_toArray, List.set_cons_zero, List.set_cons_succ]
                    refine held_take 20 (some 71) ?_ rfl rfl (by kernel_rfl) (fun _ _ _ h => h) (by kernel_rfl) ?_ (by assumption) ?_
                    rotate_left
                    · intro wS hS; (try dsimp only at hS); go_simp <;> with_reducible rfl
                    simp only [Act.put, List.setIfInBounds_toArray, List.set_cons_zero, List.set_cons_succ]
                    refine held_skips [(21, some 72), (22, some 73)] 1 (fun _ _ _ _ h => h) rfl (by kernel_rfl) (by assumption) ?_
                    simp only [skipL, skipA, List.foldl_cons, List.foldl_nil, Act.put, List.setIfInBounds_toArray, List.set_cons_zero, List.set_cons_succ]
                    refine held_take 23 (some 74) ?_ rfl rfl (by kernel_rfl) (fun _ _ _ h => h) (by kernel_rfl) ?_ (by assumption) ?_
                    rotate_left
                    · intro wS hS; (try dsimp only at hS); go_simp <;> with_reducible rfl
                    simp only [Act.put, List.setIfInBounds_toArray, List.set_cons_zero, List.set_cons_succ]
                    refine wpAnyH_done (by kernel_rfl) ?_ _
                    go_wp2_with fail
                    go_meet
                    exact ⟨_, rfl, ⟨fun _ => .inl t3, fun _ => rfl⟩, HY.out⟩
                  case neg =>
                    have t3_d := decide_eq_false t3
                    refine held_take 8 (some 59) (.bool false) rfl rfl (by kernel_rfl) (fun _ _ _ h => h) (by kernel_rfl) ?_ (by assumption) ?_
                    · intro wS hS; (try dsimp only at hS); go_simp
                    simp only [Act.put, List.setIfInBounds_toArray, List.set_cons_zero, List.set_cons_succ]
                    refine held_take 9 (some 60) ?_ rfl rfl (by kernel_rfl) (fun _ _ _ h => h) (by kernel_rfl) ?_ (by assumption) ?_
                    rotate_left
                    · intro wS hS; (try dsimp only at hS); go_simp <;> with_reducible rfl
                    simp only [Act.put, List.setIfInBounds_toArray, List.set_cons_zero, List.set_cons_succ]
                    refine held_take 10 (some 61) ?_ rfl rfl (by kernel_rfl) (fun _ _ _ h => h) (by kernel_rfl) ?_ (by assumption) ?_
                    rotate_left
                    · intro wS hS; (try dsimp only at hS); go_simp <;> with_reducible rfl
                    simp only [Act.put, List.setIfInBounds_toArray, List.set_cons_zero, List.set_cons_succ]
                    refine held_take 11 (some 62) ?_ rfl rfl (by kernel_rfl) (fun _ _ _ h => h) (by kernel_rfl) ?_ (by assumption) ?_
                    rotate_left
                    · intro wS hS; (try dsimp only at hS); go_simp <;> with_reducible rfl
                    simp only [Act.put, List.setIfInBounds_toArray, List.set_cons_zero, List.set_cons_succ]
                    refine held_take 12 (some 63) ?_ rfl rfl (by kernel_rfl) (fun _ _ _ h => h) (by kernel_rfl) ?_ (by assumption) ?_
                    rotate_left
                    · intro wS hS; (try dsimp only at hS); go_simp <;> with_reducible rfl
                    simp only [Act.put, List.setIfInBounds_toArray, List.set_cons_zero, List.set_cons_succ]
                    refine held_take 15 (some 66) ?_ rfl rfl (by kernel_rfl) (fun _ _ _ h => h) (by kernel_rfl) ?_ (by assumption) ?_
                    rotate_left
                    · intro wS hS; (try dsimp only at hS); go_simp <;> with_reducible rfl
                    simp only [Act.put, List.setIfInBounds_toArray, List.set_cons_zero, List.set_cons_succ]
                    refine held_take 16 (some 67) ?_ rfl rfl (by kernel_rfl) (fun _ _ _ h => h) (by kernel_rfl) ?_ (by assumption) ?_
                    rotate_left
                    · intro wS hS; (try dsimp only at hS); go_simp <;> with_reducible rfl
                    simp only [Act.put, List.setIfInBounds_toArray, List.set_cons_zero, List.set_cons_succ]
                    refine held_call 13 (some 64) 60 [.tmp 62, .tmp 63] #[29, 29] rfl rfl (by kernel_rfl) (by kernel_rfl) rfl (enters_of Try.func60 (by kernel_rfl) rfl) (HQ2.out _) (by kernel_rfl) ?_
                    rintro e wq ⟨rfl, hq⟩
                    have HY := Lib.hid (HY.out.trans (hq.mono HY.out.size)); clear hq
                    refine ⟨_, rfl, (HK.out _ HY.out), ?_⟩
                    have hHeld := (HK.out _ HY.out)
                    simp only [Act.put, List.setIfInBounds_toArray, List.set_cons_zero, List.set_cons_succ]
                    refine held_take 14 (some 65) ?_ rfl rfl (by kernel_rfl) (fun _ _ _ h => h) (by kernel_rfl) ?_ (by assumption) ?_
                    rotate_left
                    · intro wS hS; (try dsimp only at hS); go_simp <;> with_reducible rfl
                    simp only [Act.put, List.setIfInBounds_toArray, List.set_cons_zero, List.set_cons_succ]
                    refine held_call 17 (some 68) 60 [.tmp 66, .tmp 67] #[29, 29] rfl rfl (by kernel_rfl) (by kernel_rfl) rfl (enters_of Try.func60 (by kernel_rfl) rfl) (HQ1.out _) (by kernel_rfl) ?_
                    rintro e wq ⟨rfl, hq⟩
                    have HY := Lib.hid (HY.out.trans (hq.mono HY.out.size)); clear hq
                    refine ⟨_, rfl, (HK.out _ HY.out), ?_⟩
                    have hHeld := (HK.out _ HY.out)
                    simp only [Act.put, List.setIfInBounds_toArray, List.set_cons_zero, List.set_cons_succ]
                    by_cases t4 : ln + sb < sa
                    case pos =>
                      have t4_d := decide_eq_true t4
                      refine held_take 18 (some 69) (.bool true) rfl rfl (by kernel_rfl) (fun _ _ _ h => h) (by kernel_rfl) ?_ (by assumption) ?_
                      · intro wS hS; (try dsimp only at hS); go_simp
                      simp only [Act.put, List.setIfInBounds_toArray, List.set_cons_zero, List.set_cons_succ]
                      refine held_take 19 (some 70) ?_ rfl rfl (by kernel_rfl) (fun _ _ _ h => h) (by kernel_rfl) ?_ (by assumption) ?_
                      rotate_left
                      · intro wS hS; (try dsimp only at hS); go_simp <;> with_reducible rfl
                      simp only [Act.put, List.setIfInBounds_toArray, List.set_cons_zero, List.set_cons_succ]
                      refine held_take 20 (some 71) ?_ rfl rfl (by kernel_rfl) (fun _ _ _ h => h) (by kernel_rfl) ?_ (by assumption) ?_
                      rotate_left
                      · intro wS hS; (try dsimp only at hS); go_simp <;> with_reducible rfl
                      simp only [Act.put, List.setIfInBounds_toArray, List.set_cons_zero, List.set_cons_succ]
                      refine held_skips [(21, some 72), (22, some 73)] 1 (fun _ _ _ _ h => h) rfl (by kernel_rfl) (by assumption) ?_
                      simp only [skipL, skipA, List.foldl_cons, List.foldl_nil, Act.put, List.setIfInBounds_toArray, List.set_cons_zero, List.set_cons_succ]
                      refine held_take 23 (some 74) ?_ rfl rfl (by kernel_rfl) (fun _ _ _ h => h) (by kernel_rfl) ?_ (by assumption) ?_
                      rotate_left
                      · intro wS hS; (try dsimp only at hS); go_simp <;> with_reducible rfl
                      simp only [Act.put, List.setIfInBounds_toArray, List.set_cons_zero, List.set_cons_succ]
                      refine wpAnyH_done (by kernel_rfl) ?_ _
                      go_wp2_with fail
                      go_meet
                      exact ⟨_, rfl, ⟨fun _ => .inr (.inl t4), fun _ => rfl⟩, HY.out⟩
                    case neg =>
                      have t4_d := decide_eq_false t4
                      refine held_take 18 (some 69) (.bool false) rfl rfl (by kernel_rfl) (fun _ _ _ h => h) (by kernel_rfl) ?_ (by assumption) ?_
                      · intro wS hS; (try dsimp only at hS); go_simp
                      simp only [Act.put, List.setIfInBounds_toArray, List.set_cons_zero, List.set_cons_succ]
                      refine held_take 19 (some 70) ?_ rfl rfl (by kernel_rfl) (fun _ _ _ h => h) (by kernel_rfl) ?_ (by assumption) ?_
                      rotate_left
                      · intro wS hS; (try dsimp only at hS); go_simp <;> with_reducible rfl
                      simp only [Act.put, List.setIfInBounds_toArray, List.set_cons_zero, List.set_cons_succ]
                      refine held_take 20 (some 71) ?_ rfl rfl (by kernel_rfl) (fun _ _ _ h => h) (by kernel_rfl) ?_ (by assumption) ?_
                      rotate_left
                      · intro wS hS; (try dsimp only at hS); go_simp <;> with_reducible rfl
                      simp only [Act.put, List.setIfInBounds_toArray, List.set_cons_zero, List.set_cons_succ]
                      refine held_take 21 (some 72) ?_ rfl rfl (by kernel_rfl) (fun _ _ _ h => h) (by kernel_rfl) ?_ (by assumption) ?_
                      rotate_left
                      · intro wS hS; (try dsimp only at hS); go_simp <;> with_reducible rfl
                      simp only [Act.put, List.setIfInBounds_toArray, List.set_cons_zero, List.set_cons_succ]
                      by_cases t5 : ln = 0
                      case pos =>
                        have t5_d := decide_eq_true t5
                        refine held_take 22 (some 73) (.bool true) rfl rfl (by kernel_rfl) (fun _ _ _ h => h) (by kernel_rfl) ?_ (by assumption) ?_
                        · intro wS hS; (try dsimp only at hS); go_simp
                        have T5 := Lib.hid t5; clear t5 t5_d
                        simp only [Act.put, List.setIfInBounds_toArray, List.set_cons_zero, List.set_cons_succ]
                        refine held_take 23 (some 74) ?_ rfl rfl (by kernel_rfl) (fun _ _ _ h => h) (by kernel_rfl) ?_ (by assumption) ?_
                        rotate_left
                        · intro wS hS; (try dsimp only at hS); go_simp <;> with_reducible rfl
                        simp only [Act.put, List.setIfInBounds_toArray, List.set_cons_zero, List.set_cons_succ]
                        refine wpAnyH_done (by kernel_rfl) ?_ _
                        go_wp2_with fail
                        go_meet
                        exact ⟨_, rfl, ⟨fun _ => .inr (.inr T5.out), fun _ => rfl⟩, HY.out⟩
                      case neg =>
                        have t5_d := decide_eq_false t5
                        refine held_take 22 (some 73) (.bool false) rfl rfl (by kernel_rfl) (fun _ _ _ h => h) (by kernel_rfl) ?_ (by assumption) ?_
                        · intro wS hS; (try dsimp only at hS); go_simp
                        simp only [Act.put, List.setIfInBounds_toArray, List.set_cons_zero, List.set_cons_succ]
                        refine held_take 23 (some 74) ?_ rfl rfl (by kernel_rfl) (fun _ _ _ h => h) (by kernel_rfl) ?_ (by assumption) ?_
                        rotate_left
                        · intro wS hS; (try dsimp only at hS); go_simp <;> with_reducible rfl
                        simp only [Act.put, List.setIfInBounds_toArray, List.set_cons_zero, List.set_cons_succ]
                        refine wpAnyH_done (by kernel_rfl) ?_ _
                        go_wp2_with fail
                        go_meet
                        exact ⟨_, rfl, ⟨fun h => (by cases h), fun h => absurd h (by omega)⟩, HY.out⟩
                case rest =>
                  obtain ⟨bv, rfl, hbv, hb⟩ := hcut
                  rename World => wc
                  have HBV := Lib.hid hbv; clear hbv
                  have A_7 : Hid (Blk wc w.heap.size 29 #[.int .i64 ax, .int .i64 ay]) := Lib.hid (A_6.out.below hb A_6.out.lt)
                  have B_7 : Hid (Blk wc (w.heap.size + 1) 29 #[.int .i64 bx, .int .i64 by_]) := Lib.hid (B_6.out.below hb B_6.out.lt)
                  have P_7 : Hid (Blk wc (w.heap.size + 2) 29 #[.int .i64 px, .int .i64 py]) := Lib.hid (P_6.out.below hb P_6.out.lt)
                  have HB_7 : Hid (Below w.heap.size w wc) := Lib.hid (HB_6.out.trans (hb.mono HB_6.out.size))
                  clear hb A_6 B_6 P_6 HB_6
                  cases bv with
                  | true =>
                    have HR : Hid (decide (NearP ax ay bx by_ px py z) = false) := Lib.hid (decide_eq_false fun h => by have h2 := HSP.out.1 h; have h3 := HBV.out.1 rfl; have h4 := HT.out; omega)
                    go_wp2_with fail
                    go_ret
                    exact ⟨by rw [HR.out]; rfl, HB_7.out⟩
                  | false =>
                    obtain ⟨f1, f2, f3, f4, f5, f6, f7, f8, f9⟩ := HF.out
                    have HR : Hid (NearP ax ay bx by_ px py z ↔ ar * ar ≤ most * ln) := Lib.hid (by have h3 : ¬ (ln + sa < sb ∨ ln + sb < sa ∨ ln = 0) := fun h => (by cases HBV.out.2 h); have h4 := HT.out; rw [HSP.out]; exact ⟨fun h => by rcases h with h | h | h; exact absurd h (by omega); exact absurd h (by omega); exact h.2, fun h => .inr (.inr ⟨h3, h⟩)⟩)
                    have yy0 := A_7.out.cell (i := 0) (v := .int .i64 ax) rfl; have yy1 := A_7.out.cell (i := 1) (v := .int .i64 ay) rfl
                    have yy2 := B_7.out.cell (i := 0) (v := .int .i64 bx) rfl; have yy3 := B_7.out.cell (i := 1) (v := .int .i64 by_) rfl
                    have yy4 := P_7.out.cell (i := 0) (v := .int .i64 px) rfl; have yy5 := P_7.out.cell (i := 1) (v := .int .i64 py) rfl
                    go_wp2_with fail
                    go_ret
                    exact ⟨by rw [decide_eq_decide.2 HR.out]; rfl, HB_7.out⟩
end Go.Proofs.Ytamogfcedkjmcaa
