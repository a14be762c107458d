
/- The contracts of Near, Code and Ends. Conditions: the slices read. -/
import Derived.Test.YtamogfcedkjmcaaPv5
import Derived.Test.YtamogfcedkjmcaaNe5
namespace Go.Proofs.Ytamogfcedkjmcaa
open Go.RowKit Go.Lib Go.Shelf

set_option maxRecDepth 100000 in
set_option maxHeartbeats 4000000 in
theorem pnear_any (ax ay bx by_ px py z : Int) (w : World) :
    Calls Try.prog 37 #[.agg #[.int .i64 ax, .int .i64 ay], .agg #[.int .i64 bx, .int .i64 by_], .agg #[.int .i64 px, .int .i64 py], .int .i64 z] w fun e w' => e = .returned (.bool (decide (NearP ax ay bx by_ px py z))) ∧ Below w.heap.size w w' := by
  have A_0 : Hid (Blk (((w.alloc (.cells #[.int .i64 ax, .int .i64 ay] 29)).alloc (.cells #[.int .i64 bx, .int .i64 by_] 29)).alloc (.cells #[.int .i64 px, .int .i64 py] 29)) w.heap.size 29 #[.int .i64 ax, .int .i64 ay]) := allocs_blk [(#[.int .i64 ax, .int .i64 ay], 29), (#[.int .i64 bx, .int .i64 by_], 29), (#[.int .i64 px, .int .i64 py], 29)] w 0 _ rfl
  have B_0 : Hid (Blk (((w.alloc (.cells #[.int .i64 ax, .int .i64 ay] 29)).alloc (.cells #[.int .i64 bx, .int .i64 by_] 29)).alloc (.cells #[.int .i64 px, .int .i64 py] 29)) (w.heap.size + 1) 29 #[.int .i64 bx, .int .i64 by_]) := allocs_blk [(#[.int .i64 ax, .int .i64 ay], 29), (#[.int .i64 bx, .int .i64 by_], 29), (#[.int .i64 px, .int .i64 py], 29)] w 1 _ rfl
  have P_0 : Hid (Blk (((w.alloc (.cells #[.int .i64 ax, .int .i64 ay] 29)).alloc (.cells #[.int .i64 bx, .int .i64 by_] 29)).alloc (.cells #[.int .i64 px, .int .i64 py] 29)) (w.heap.size + 2) 29 #[.int .i64 px, .int .i64 py]) := allocs_blk [(#[.int .i64 ax, .int .i64 ay], 29), (#[.int .i64 bx, .int .i64 by_], 29), (#[.int .i64 px, .int .i64 py], 29)] w 2 _ rfl
  have HB_0 : Hid (Below w.heap.size w (((w.alloc (.cells #[.int .i64 ax, .int .i64 ay] 29)).alloc (.cells #[.int .i64 bx, .int .i64 by_] 29)).alloc (.cells #[.int .i64 px, .int .i64 py] 29))) := allocs_below [(#[.int .i64 ax, .int .i64 ay], 29), (#[.int .i64 bx, .int .i64 by_], 29), (#[.int .i64 px, .int .i64 py], 29)] w (Below.refl w.heap.size w) (Nat.le_refl _)
  by_cases ha : OnP ax ay
  case neg =>
    have HR : Hid (decide (NearP ax ay bx by_ px py z) = false) := Lib.hid (decide_eq_false fun h => ha h.1)
    have HN := Lib.hid (fun W => pon_not ax ay W ha); clear ha
    go_enter Try.func37, Try.ntmps37
    have yy0 := A_0.out.cell (i := 0) (v := .int .i64 ax) rfl; have yy1 := A_0.out.cell (i := 1) (v := .int .i64 ay) rfl
    go_wp2_with fail
    refine (HN.out _).mono ?_
    rintro e v0 ⟨rfl, hb⟩
    clear yy0 yy1
    have A_1 : Hid (Blk v0 w.heap.size 29 #[.int .i64 ax, .int .i64 ay]) := Lib.hid (A_0.out.below hb A_0.out.lt)
    have B_1 : Hid (Blk v0 (w.heap.size + 1) 29 #[.int .i64 bx, .int .i64 by_]) := Lib.hid (B_0.out.below hb B_0.out.lt)
    have P_1 : Hid (Blk v0 (w.heap.size + 2) 29 #[.int .i64 px, .int .i64 py]) := Lib.hid (P_0.out.below hb P_0.out.lt)
    have HB_1 : Hid (Below w.heap.size w v0) := Lib.hid (HB_0.out.trans (hb.mono HB_0.out.size))
    clear hb A_0 B_0 P_0 HB_0
    have hundef := un_none
    go_wp2_with fail
    go_ret
    exact ⟨by rw [HR.out]; rfl, HB_1.out⟩
  case pos =>
    have HYha := Lib.hid (fun W => pon_yes ax ay W ha)
    by_cases hb : OnP bx by_
    case neg =>
      have HR : Hid (decide (NearP ax ay bx by_ px py z) = false) := Lib.hid (decide_eq_false fun h => hb h.2.1)
      have HN := Lib.hid (fun W => pon_not bx by_ W hb); clear hb
      go_enter Try.func37, Try.ntmps37
      have yy0 := A_0.out.cell (i := 0) (v := .int .i64 ax) rfl; have yy1 := A_0.out.cell (i := 1) (v := .int .i64 ay) rfl
      go_wp2_with fail
      refine (HYha.out _).mono ?_
      rintro e v0 ⟨rfl, hb⟩
      clear yy0 yy1
      have A_1 : Hid (Blk v0 w.heap.size 29 #[.int .i64 ax, .int .i64 ay]) := Lib.hid (A_0.out.below hb A_0.out.lt)
      have B_1 : Hid (Blk v0 (w.heap.size + 1) 29 #[.int .i64 bx, .int .i64 by_]) := Lib.hid (B_0.out.below hb B_0.out.lt)
      have P_1 : Hid (Blk v0 (w.heap.size + 2) 29 #[.int .i64 px, .int .i64 py]) := Lib.hid (P_0.out.below hb P_0.out.lt)
      have HB_1 : Hid (Below w.heap.size w v0) := Lib.hid (HB_0.out.trans (hb.mono HB_0.out.size))
      clear hb A_0 B_0 P_0 HB_0
      have yy0 := B_1.out.cell (i := 0) (v := .int .i64 bx) rfl; have yy1 := B_1.out.cell (i := 1) (v := .int .i64 by_) rfl
      go_wp2_with fail
      refine (HN.out _).mono ?_
      rintro e v1 ⟨rfl, hb⟩
      clear yy0 yy1
      have A_2 : Hid (Blk v1 w.heap.size 29 #[.int .i64 ax, .int .i64 ay]) := Lib.hid (A_1.out.below hb A_1.out.lt)
      have B_2 : Hid (Blk v1 (w.heap.size + 1) 29 #[.int .i64 bx, .int .i64 by_]) := Lib.hid (B_1.out.below hb B_1.out.lt)
      have P_2 : Hid (Blk v1 (w.heap.size + 2) 29 #[.int .i64 px, .int .i64 py]) := Lib.hid (P_1.out.below hb P_1.out.lt)
      have HB_2 : Hid (Below w.heap.size w v1) := Lib.hid (HB_1.out.trans (hb.mono HB_1.out.size))
      clear hb A_1 B_1 P_1 HB_1
      have hundef := un_none
      go_wp2_with fail
      go_ret
      exact ⟨by rw [HR.out]; rfl, HB_2.out⟩
    case pos =>
      have HYhb := Lib.hid (fun W => pon_yes bx by_ W hb)
      by_cases hp : OnP px py
      case neg =>
        have HR : Hid (decide (NearP ax ay bx by_ px py z) = false) := Lib.hid (decide_eq_false fun h => hp h.2.2.1)
        have HN := Lib.hid (fun W => pon_not px py W hp); clear hp
        go_enter Try.func37, Try.ntmps37
        have yy0 := A_0.out.cell (i := 0) (v := .int .i64 ax) rfl; have yy1 := A_0.out.cell (i := 1) (v := .int .i64 ay) rfl
        go_wp2_with fail
        refine (HYha.out _).mono ?_
        rintro e v0 ⟨rfl, hb⟩
        clear yy0 yy1
        have A_1 : Hid (Blk v0 w.heap.size 29 #[.int .i64 ax, .int .i64 ay]) := Lib.hid (A_0.out.below hb A_0.out.lt)
        have B_1 : Hid (Blk v0 (w.heap.size + 1) 29 #[.int .i64 bx, .int .i64 by_]) := Lib.hid (B_0.out.below hb B_0.out.lt)
        have P_1 : Hid (Blk v0 (w.heap.size + 2) 29 #[.int .i64 px, .int .i64 py]) := Lib.hid (P_0.out.below hb P_0.out.lt)
        have HB_1 : Hid (Below w.heap.size w v0) := Lib.hid (HB_0.out.trans (hb.mono HB_0.out.size))
        clear hb A_0 B_0 P_0 HB_0
        have yy0 := B_1.out.cell (i := 0) (v := .int .i64 bx) rfl; have yy1 := B_1.out.cell (i := 1) (v := .int .i64 by_) rfl
        go_wp2_with fail
        refine (HYhb.out _).mono ?_
        rintro e v1 ⟨rfl, hb⟩
        clear yy0 yy1
        have A_2 : Hid (Blk v1 w.heap.size 29 #[.int .i64 ax, .int .i64 ay]) := Lib.hid (A_1.out.below hb A_1.out.lt)
        have B_2 : Hid (Blk v1 (w.heap.size + 1) 29 #[.int .i64 bx, .int .i64 by_]) := Lib.hid (B_1.out.below hb B_1.out.lt)
        have P_2 : Hid (Blk v1 (w.heap.size + 2) 29 #[.int .i64 px, .int .i64 py]) := Lib.hid (P_1.out.below hb P_1.out.lt)
        have HB_2 : Hid (Below w.heap.size w v1) := Lib.hid (HB_1.out.trans (hb.mono HB_1.out.size))
        clear hb A_1 B_1 P_1 HB_1
        have yy0 := P_2.out.cell (i := 0) (v := .int .i64 px) rfl; have yy1 := P_2.out.cell (i := 1) (v := .int .i64 py) rfl
        go_wp2_with fail
        refine (HN.out _).mono ?_
        rintro e v2 ⟨rfl, hb⟩
        clear yy0 yy1
        have A_3 : Hid (Blk v2 w.heap.size 29 #[.int .i64 ax, .int .i64 ay]) := Lib.hid (A_2.out.below hb A_2.out.lt)
        have B_3 : Hid (Blk v2 (w.heap.size + 1) 29 #[.int .i64 bx, .int .i64 by_]) := Lib.hid (B_2.out.below hb B_2.out.lt)
        have P_3 : Hid (Blk v2 (w.heap.size + 2) 29 #[.int .i64 px, .int .i64 py]) := Lib.hid (P_2.out.below hb P_2.out.lt)
        have HB_3 : Hid (Below w.heap.size w v2) := Lib.hid (HB_2.out.trans (hb.mono HB_2.out.size))
        clear hb A_2 B_2 P_2 HB_2
        have hundef := un_none
        go_wp2_with fail
        go_ret
        exact ⟨by rw [HR.out]; rfl, HB_3.out⟩
      case pos =>
        have HYhp := Lib.hid (fun W => pon_yes px py W hp)
        by_cases hz : 0 ≤ z ∧ z ≤ 1000
        case neg =>
          have HR : Hid (decide (NearP ax ay bx by_ px py z) = false) := Lib.hid (decide_eq_false fun h => hz h.2.2.2.1)
          have HN := Lib.hid (fun W => ptol_not z W hz); clear hz
          go_enter Try.func37, Try.ntmps37
          have yy0 := A_0.out.cell (i := 0) (v := .int .i64 ax) rfl; have yy1 := A_0.out.cell (i := 1) (v := .int .i64 ay) rfl
          go_wp2_with fail
          refine (HYha.out _).mono ?_
          rintro e v0 ⟨rfl, hb⟩
          clear yy0 yy1
          have A_1 : Hid (Blk v0 w.heap.size 29 #[.int .i64 ax, .int .i64 ay]) := Lib.hid (A_0.out.below hb A_0.out.lt)
          have B_1 : Hid (Blk v0 (w.heap.size + 1) 29 #[.int .i64 bx, .int .i64 by_]) := Lib.hid (B_0.out.below hb B_0.out.lt)
          have P_1 : Hid (Blk v0 (w.heap.size + 2) 29 #[.int .i64 px, .int .i64 py]) := Lib.hid (P_0.out.below hb P_0.out.lt)
          have HB_1 : Hid (Below w.heap.size w v0) := Lib.hid (HB_0.out.trans (hb.mono HB_0.out.size))
          clear hb A_0 B_0 P_0 HB_0
          have yy0 := B_1.out.cell (i := 0) (v := .int .i64 bx) rfl; have yy1 := B_1.out.cell (i := 1) (v := .int .i64 by_) rfl
          go_wp2_with fail
          refine (HYhb.out _).mono ?_
          rintro e v1 ⟨rfl, hb⟩
          clear yy0 yy1
          have A_2 : Hid (Blk v1 w.heap.size 29 #[.int .i64 ax, .int .i64 ay]) := Lib.hid (A_1.out.below hb A_1.out.lt)
          have B_2 : Hid (Blk v1 (w.heap.size + 1) 29 #[.int .i64 bx, .int .i64 by_]) := Lib.hid (B_1.out.below hb B_1.out.lt)
          have P_2 : Hid (Blk v1 (w.heap.size + 2) 29 #[.int .i64 px, .int .i64 py]) := Lib.hid (P_1.out.below hb P_1.out.lt)
          have HB_2 : Hid (Below w.heap.size w v1) := Lib.hid (HB_1.out.trans (hb.mono HB_1.out.size))
          clear hb A_1 B_1 P_1 HB_1
          have yy0 := P_2.out.cell (i := 0) (v := .int .i64 px) rfl; have yy1 := P_2.out.cell (i := 1) (v := .int .i64 py) rfl
          go_wp2_with fail
          refine (HYhp.out _).mono ?_
          rintro e v2 ⟨rfl, hb⟩
          clear yy0 yy1
          have A_3 : Hid (Blk v2 w.heap.size 29 #[.int .i64 ax, .int .i64 ay]) := Lib.hid (A_2.out.below hb A_2.out.lt)
          have B_3 : Hid (Blk v2 (w.heap.size + 1) 29 #[.int .i64 bx, .int .i64 by_]) := Lib.hid (B_2.out.below hb B_2.out.lt)
          have P_3 : Hid (Blk v2 (w.heap.size + 2) 29 #[.int .i64 px, .int .i64 py]) := Lib.hid (P_2.out.below hb P_2.out.lt)
          have HB_3 : Hid (Below w.heap.size w v2) := Lib.hid (HB_2.out.trans (hb.mono HB_2.out.size))
          clear hb A_2 B_2 P_2 HB_2
          go_wp2_with fail
          refine (HN.out _).mono ?_
          rintro e v3 ⟨rfl, hb⟩
          have A_4 : Hid (Blk v3 w.heap.size 29 #[.int .i64 ax, .int .i64 ay]) := Lib.hid (A_3.out.below hb A_3.out.lt)
          have B_4 : Hid (Blk v3 (w.heap.size + 1) 29 #[.int .i64 bx, .int .i64 by_]) := Lib.hid (B_3.out.below hb B_3.out.lt)
          have P_4 : Hid (Blk v3 (w.heap.size + 2) 29 #[.int .i64 px, .int .i64 py]) := Lib.hid (P_3.out.below hb P_3.out.lt)
          have HB_4 : Hid (Below w.heap.size w v3) := Lib.hid (HB_3.out.trans (hb.mono HB_3.out.size))
          clear hb A_3 B_3 P_3 HB_3
          have hundef := un_none
          go_wp2_with fail
          go_ret
          exact ⟨by rw [HR.out]; rfl, HB_4.out⟩
        case pos =>
          have HYhz := Lib.hid (fun W => ptol_yes z W hz)
          have HN := Lib.hid (fun W => pisnear_any ax ay bx by_ px py z W ha hb hp hz); clear ha hb hp hz
          go_enter Try.func37, Try.ntmps37
          have yy0 := A_0.out.cell (i := 0) (v := .int .i64 ax) rfl; have yy1 := A_0.out.cell (i := 1) (v := .int .i64 ay) rfl
          go_wp2_with fail
          refine (HYha.out _).mono ?_
          rintro e v0 ⟨rfl, hb⟩
          clear yy0 yy1
          have A_1 : Hid (Blk v0 w.heap.size 29 #[.int .i64 ax, .int .i64 ay]) := Lib.hid (A_0.out.below hb A_0.out.lt)
          have B_1 : Hid (Blk v0 (w.heap.size + 1) 29 #[.int .i64 bx, .int .i64 by_]) := Lib.hid (B_0.out.below hb B_0.out.lt)
          have P_1 : Hid (Blk v0 (w.heap.size + 2) 29 #[.int .i64 px, .int .i64 py]) := Lib.hid (P_0.out.below hb P_0.out.lt)
          have HB_1 : Hid (Below w.heap.size w v0) := Lib.hid (HB_0.out.trans (hb.mono HB_0.out.size))
          clear hb A_0 B_0 P_0 HB_0
          have yy0 := B_1.out.cell (i := 0) (v := .int .i64 bx) rfl; have yy1 := B_1.out.cell (i := 1) (v := .int .i64 by_) rfl
          go_wp2_with fail
          refine (HYhb.out _).mono ?_
          rintro e v1 ⟨rfl, hb⟩
          clear yy0 yy1
          have A_2 : Hid (Blk v1 w.heap.size 29 #[.int .i64 ax, .int .i64 ay]) := Lib.hid (A_1.out.below hb A_1.out.lt)
          have B_2 : Hid (Blk v1 (w.heap.size + 1) 29 #[.int .i64 bx, .int .i64 by_]) := Lib.hid (B_1.out.below hb B_1.out.lt)
          have P_2 : Hid (Blk v1 (w.heap.size + 2) 29 #[.int .i64 px, .int .i64 py]) := Lib.hid (P_1.out.below hb P_1.out.lt)
          have HB_2 : Hid (Below w.heap.size w v1) := Lib.hid (HB_1.out.trans (hb.mono HB_1.out.size))
          clear hb A_1 B_1 P_1 HB_1
          have yy0 := P_2.out.cell (i := 0) (v := .int .i64 px) rfl; have yy1 := P_2.out.cell (i := 1) (v := .int .i64 py) rfl
          go_wp2_with fail
          refine (HYhp.out _).mono ?_
          rintro e v2 ⟨rfl, hb⟩
          clear yy0 yy1
          have A_3 : Hid (Blk v2 w.heap.size 29 #[.int .i64 ax, .int .i64 ay]) := Lib.hid (A_2.out.below hb A_2.out.lt)
          have B_3 : Hid (Blk v2 (w.heap.size + 1) 29 #[.int .i64 bx, .int .i64 by_]) := Lib.hid (B_2.out.below hb B_2.out.lt)
          have P_3 : Hid (Blk v2 (w.heap.size + 2) 29 #[.int .i64 px, .int .i64 py]) := Lib.hid (P_2.out.below hb P_2.out.lt)
          have HB_3 : Hid (Below w.heap.size w v2) := Lib.hid (HB_2.out.trans (hb.mono HB_2.out.size))
          clear hb A_2 B_2 P_2 HB_2
          go_wp2_with fail
          refine (HYhz.out _).mono ?_
          rintro e v3 ⟨rfl, hb⟩
          have A_4 : Hid (Blk v3 w.heap.size 29 #[.int .i64 ax, .int .i64 ay]) := Lib.hid (A_3.out.below hb A_3.out.lt)
          have B_4 : Hid (Blk v3 (w.heap.size + 1) 29 #[.int .i64 bx, .int .i64 by_]) := Lib.hid (B_3.out.below hb B_3.out.lt)
          have P_4 : Hid (Blk v3 (w.heap.size + 2) 29 #[.int .i64 px, .int .i64 py]) := Lib.hid (P_3.out.below hb P_3.out.lt)
          have HB_4 : Hid (Below w.heap.size w v3) := Lib.hid (HB_3.out.trans (hb.mono HB_3.out.size))
          clear hb A_3 B_3 P_3 HB_3
          have yy0 := A_4.out.cell (i := 0) (v := .int .i64 ax) rfl; have yy1 := A_4.out.cell (i := 1) (v := .int .i64 ay) rfl
          have yy2 := B_4.out.cell (i := 0) (v := .int .i64 bx) rfl; have yy3 := B_4.out.cell (i := 1) (v := .int .i64 by_) rfl
          have yy4 := P_4.out.cell (i := 0) (v := .int .i64 px) rfl; have yy5 := P_4.out.cell (i := 1) (v := .int .i64 py) rfl
          go_wp2_with fail
          refine (HN.out _).mono ?_
          rintro e v4 ⟨rfl, hb⟩
          clear yy0 yy1 yy2 yy3 yy4 yy5
          have A_5 : Hid (Blk v4 w.heap.size 29 #[.int .i64 ax, .int .i64 ay]) := Lib.hid (A_4.out.below hb A_4.out.lt)
          have B_5 : Hid (Blk v4 (w.heap.size + 1) 29 #[.int .i64 bx, .int .i64 by_]) := Lib.hid (B_4.out.below hb B_4.out.lt)
          have P_5 : Hid (Blk v4 (w.heap.size + 2) 29 #[.int .i64 px, .int .i64 py]) := Lib.hid (P_4.out.below hb P_4.out.lt)
          have HB_5 : Hid (Below w.heap.size w v4) := Lib.hid (HB_4.out.trans (hb.mono HB_4.out.size))
          clear hb A_4 B_4 P_4 HB_4
          go_wp2_with fail
          go_ret
          exact ⟨by first | rfl | simp, HB_5.out⟩
set_option maxRecDepth 100000 in
set_option maxHeartbeats 4000000 in
theorem pcode_no (P N : Int) (ds : List Dt) (A : Option Addr) (c : Nat) (w : World) (hA : Dz w A ds) (hz : ds.length ≤ 9000000000000000000) (hv : ¬ Vd P N ds) :
    Calls Try.prog 22 #[.agg #[.int .i64 P, .int .i64 N, .slice A ds.length c]] w fun e w' => e = .returned (.int .i64 0) ∧ Below w.heap.size w w' := by
  have HV := Lib.hid (fun W (hb : Below w.heap.size w W) => pvalid_not P N ds A c W (hA.below hb (Nat.le_refl _)) hz hv)
  clear hA hz hv
  have S_0 : Hid (Blk (w.alloc (.cells #[.int .i64 P, .int .i64 N, .slice A ds.length c] 27)) w.heap.size 27 #[.int .i64 P, .int .i64 N, .slice A ds.length c]) := allocs_blk [(#[.int .i64 P, .int .i64 N, .slice A ds.length c], 27)] w 0 _ rfl
  have HB_0 : Hid (Below w.heap.size w (w.alloc (.cells #[.int .i64 P, .int .i64 N, .slice A ds.length c] 27))) := allocs_below [(#[.int .i64 P, .int .i64 N, .slice A ds.length c], 27)] w (Below.refl w.heap.size w) (Nat.le_refl _)
  go_enter Try.func22, Try.ntmps22
  have yy0 := S_0.out.cell (i := 0) (v := .int .i64 P) rfl; have yy1 := S_0.out.cell (i := 1) (v := .int .i64 N) rfl; have yy2 := S_0.out.cell (i := 2) (v := .slice A ds.length c) rfl
  go_wp2_with fail
  refine (HV.out _ HB_0.out).mono ?_
  rintro e v0 ⟨rfl, hb⟩
  clear yy0 yy1 yy2
  have S_1 : Hid (Blk v0 w.heap.size 27 #[.int .i64 P, .int .i64 N, .slice A ds.length c]) := Lib.hid (S_0.out.below hb S_0.out.lt)
  have HB_1 : Hid (Below w.heap.size w v0) := Lib.hid (HB_0.out.trans (hb.mono HB_0.out.size))
  clear hb S_0 HB_0
  go_wp2_with fail
  go_ret
  exact ⟨rfl, HB_1.out⟩
set_option maxRecDepth 100000 in
set_option maxHeartbeats 4000000 in
theorem pcode_yes (P N : Int) (ds : List Dt) (A : Option Addr) (c : Nat) (w : World) (hA : Dz w A ds) (hz : ds.length ≤ 9000000000000000000) (hv : Vd P N ds) :
    Calls Try.prog 22 #[.agg #[.int .i64 P, .int .i64 N, .slice A ds.length c]] w fun e w' => e = .returned (.int .i64 (1000 * P + N)) ∧ Below w.heap.size w w' := by
  have HV := Lib.hid (fun W (hb : Below w.heap.size w W) => pvalid_yes P N ds A c W (hA.below hb (Nat.le_refl _)) hz hv)
  have v1 := hv.1; have v2 := hv.2.1
  have e1 : IntKind.i64.wrap (1000 * P) = 1000 * P := IntWalk.i64_in _ (by omega)
  have e2 : IntKind.i64.wrap (1000 * P + N) = 1000 * P + N := IntWalk.i64_in _ (by omega)
  clear hA hz hv v1 v2
  have S_0 : Hid (Blk (w.alloc (.cells #[.int .i64 P, .int .i64 N, .slice A ds.length c] 27)) w.heap.size 27 #[.int .i64 P, .int .i64 N, .slice A ds.length c]) := allocs_blk [(#[.int .i64 P, .int .i64 N, .slice A ds.length c], 27)] w 0 _ rfl
  have HB_0 : Hid (Below w.heap.size w (w.alloc (.cells #[.int .i64 P, .int .i64 N, .slice A ds.length c] 27))) := allocs_below [(#[.int .i64 P, .int .i64 N, .slice A ds.length c], 27)] w (Below.refl w.heap.size w) (Nat.le_refl _)
  go_enter Try.func22, Try.ntmps22
  have yy0 := S_0.out.cell (i := 0) (v := .int .i64 P) rfl; have yy1 := S_0.out.cell (i := 1) (v := .int .i64 N) rfl; have yy2 := S_0.out.cell (i := 2) (v := .slice A ds.length c) rfl
  go_wp2_with fail
  refine (HV.out _ HB_0.out).mono ?_
  rintro e v0 ⟨rfl, hb⟩
  clear yy0 yy1 yy2
  have S_1 : Hid (Blk v0 w.heap.size 27 #[.int .i64 P, .int .i64 N, .slice A ds.length c]) := Lib.hid (S_0.out.below hb S_0.out.lt)
  have HB_1 : Hid (Below w.heap.size w v0) := Lib.hid (HB_0.out.trans (hb.mono HB_0.out.size))
  clear hb S_0 HB_0
  have yy0 := S_1.out.cell (i := 0) (v := .int .i64 P) rfl; have yy1 := S_1.out.cell (i := 1) (v := .int .i64 N) rfl; have yy2 := S_1.out.cell (i := 2) (v := .slice A ds.length c) rfl
  go_wp2_with fail
  go_ret
  exact ⟨rfl, HB_1.out⟩
set_option maxRecDepth 100000 in
set_option maxHeartbeats 4000000 in
theorem pends_no (P N : Int) (ds : List Dt) (A : Option Addr) (c : Nat) (w : World) (hA : Dz w A ds) (hz : ds.length ≤ 9000000000000000000) (hv : ¬ Vd P N ds) :
    Calls Try.prog 18 #[.agg #[.int .i64 P, .int .i64 N, .slice A ds.length c]] w fun e w' => e = .returned (.tuple #[.agg #[.int .i64 0, .int .i64 0], .agg #[.int .i64 0, .int .i64 0], .int .i64 50]) ∧ Below w.heap.size w w' := by
  have HV := Lib.hid (fun W (hb : Below w.heap.size w W) => pvalid_not P N ds A c W (hA.below hb (Nat.le_refl _)) hz hv)
  clear hA hz hv
  have S_0 : Hid (Blk (((w.alloc (.cells #[.int .i64 P, .int .i64 N, .slice A ds.length c] 27)).alloc (.cells #[.int .i64 0, .int .i64 0] 29)).alloc (.cells #[.int .i64 0, .int .i64 0] 29)) w.heap.size 27 #[.int .i64 P, .int .i64 N, .slice A ds.length c]) := allocs_blk [(#[.int .i64 P, .int .i64 N, .slice A ds.length c], 27), (#[.int .i64 0, .int .i64 0], 29), (#[.int .i64 0, .int .i64 0], 29)] w 0 _ rfl
  have U_0 : Hid (Blk (((w.alloc (.cells #[.int .i64 P, .int .i64 N, .slice A ds.length c] 27)).alloc (.cells #[.int .i64 0, .int .i64 0] 29)).alloc (.cells #[.int .i64 0, .int .i64 0] 29)) (w.heap.size + 1) 29 #[.int .i64 0, .int .i64 0]) := allocs_blk [(#[.int .i64 P, .int .i64 N, .slice A ds.length c], 27), (#[.int .i64 0, .int .i64 0], 29), (#[.int .i64 0, .int .i64 0], 29)] w 1 _ rfl
  have V_0 : Hid (Blk (((w.alloc (.cells #[.int .i64 P, .int .i64 N, .slice A ds.length c] 27)).alloc (.cells #[.int .i64 0, .int .i64 0] 29)).alloc (.cells #[.int .i64 0, .int .i64 0] 29)) (w.heap.size + 2) 29 #[.int .i64 0, .int .i64 0]) := allocs_blk [(#[.int .i64 P, .int .i64 N, .slice A ds.length c], 27), (#[.int .i64 0, .int .i64 0], 29), (#[.int .i64 0, .int .i64 0], 29)] w 2 _ rfl
  have HB_0 : Hid (Below w.heap.size w (((w.alloc (.cells #[.int .i64 P, .int .i64 N, .slice A ds.length c] 27)).alloc (.cells #[.int .i64 0, .int .i64 0] 29)).alloc (.cells #[.int .i64 0, .int .i64 0] 29))) := allocs_below [(#[.int .i64 P, .int .i64 N, .slice A ds.length c], 27), (#[.int .i64 0, .int .i64 0], 29), (#[.int .i64 0, .int .i64 0], 29)] w (Below.refl w.heap.size w) (Nat.le_refl _)
  go_enter Try.func18, Try.ntmps18
  have yy0 := S_0.out.cell (i := 0) (v := .int .i64 P) rfl; have yy1 := S_0.out.cell (i := 1) (v := .int .i64 N) rfl; have yy2 := S_0.out.cell (i := 2) (v := .slice A ds.length c) rfl
  go_wp2_with fail
  refine (HV.out _ HB_0.out).mono ?_
  rintro e v0 ⟨rfl, hb⟩
  clear yy0 yy1 yy2
  have S_1 : Hid (Blk v0 w.heap.size 27 #[.int .i64 P, .int .i64 N, .slice A ds.length c]) := Lib.hid (S_0.out.below hb S_0.out.lt)
  have U_1 : Hid (Blk v0 (w.heap.size + 1) 29 #[.int .i64 0, .int .i64 0]) := Lib.hid (U_0.out.below hb U_0.out.lt)
  have V_1 : Hid (Blk v0 (w.heap.size + 2) 29 #[.int .i64 0, .int .i64 0]) := Lib.hid (V_0.out.below hb V_0.out.lt)
  have HB_1 : Hid (Below w.heap.size w v0) := Lib.hid (HB_0.out.trans (hb.mono HB_0.out.size))
  clear hb S_0 U_0 V_0 HB_0
  have yy0 := U_1.out.cell (i := 0) (v := .int .i64 0) rfl; have yy1 := U_1.out.cell (i := 1) (v := .int .i64 0) rfl
  have yy2 := V_1.out.cell (i := 0) (v := .int .i64 0) rfl; have yy3 := V_1.out.cell (i := 1) (v := .int .i64 0) rfl
  have f0 := U_1.out.frozen 0; have f1 := U_1.out.frozen 1; have f2 := V_1.out.frozen 0; have f3 := V_1.out.frozen 1
  go_wp2_with fail
  clear yy0 yy1 yy2 yy3
  have HFU := Lib.hid ((((U_1.out.set 0 (.int .i64 0)).set 1 (.int .i64 0)).far (p := ⟨(w.heap.size + 2), 0, none⟩) (by show (w.heap.size + 1) ≠ (w.heap.size + 2); omega) (.int .i64 0)).far (p := ⟨(w.heap.size + 2), 1, none⟩) (by show (w.heap.size + 1) ≠ (w.heap.size + 2); omega) (.int .i64 0))
  have rU0 := HFU.out.cell (i := 0) (v := .int .i64 0) rfl
  have rU1 := HFU.out.cell (i := 1) (v := .int .i64 0) rfl
  have HFV := Lib.hid ((((V_1.out.far (p := ⟨(w.heap.size + 1), 0, none⟩) (by show (w.heap.size + 2) ≠ (w.heap.size + 1); omega) (.int .i64 0)).far (p := ⟨(w.heap.size + 1), 1, none⟩) (by show (w.heap.size + 2) ≠ (w.heap.size + 1); omega) (.int .i64 0)).set 0 (.int .i64 0)).set 1 (.int .i64 0))
  have rV0 := HFV.out.cell (i := 0) (v := .int .i64 0) rfl
  have rV1 := HFV.out.cell (i := 1) (v := .int .i64 0) rfl
  exact bodyPost_ret (v := .tuple #[.agg #[.int .i64 0, .int .i64 0], .agg #[.int .i64 0, .int .i64 0], .int .i64 50]) (by simp [results, Try.results18, go_sem, rU0, rU1, rV0, rV1]) rfl ⟨rfl, ((((HB_1.out.setCell (p := ⟨(w.heap.size + 1), 0, none⟩) (by show w.heap.size ≤ (w.heap.size + 1); omega) (.int .i64 0)).setCell (p := ⟨(w.heap.size + 1), 1, none⟩) (by show w.heap.size ≤ (w.heap.size + 1); omega) (.int .i64 0)).setCell (p := ⟨(w.heap.size + 2), 0, none⟩) (by show w.heap.size ≤ (w.heap.size + 2); omega) (.int .i64 0)).setCell (p := ⟨(w.heap.size + 2), 1, none⟩) (by show w.heap.size ≤ (w.heap.size + 2); omega) (.int .i64 0))⟩
set_option maxRecDepth 100000 in
set_option maxHeartbeats 4000000 in
theorem pends_yes (P N : Int) (ds : List Dt) (A : Option Addr) (c : Nat) (w : World) (hA : Dz w A ds) (hz : ds.length ≤ 9000000000000000000) (hv : Vd P N ds) :
    Calls Try.prog 18 #[.agg #[.int .i64 P, .int .i64 N, .slice A ds.length c]] w fun e w' => ∃ d f, ds[0]? = some d ∧ ds[ds.length - 1]? = some f ∧ e = .returned (.tuple #[.agg #[.int .i64 d.x, .int .i64 d.y], .agg #[.int .i64 f.x, .int .i64 f.y], .int .i64 0]) ∧ Below w.heap.size w w' := by
  have hl := hv.2.2.1
  obtain ⟨b, o, rfl⟩ := hA.some (by omega)
  have HAT := Lib.hid hA.at
  have HV := Lib.hid (fun W (hb : Below w.heap.size w W) => pvalid_yes P N ds _ c W (hA.below hb (Nat.le_refl _)) hz hv)
  obtain ⟨d, hd⟩ : ∃ d, ds[0]? = some d := ⟨_, List.getElem?_eq_getElem (by omega)⟩
  obtain ⟨f, hf⟩ : ∃ d, ds[ds.length - 1]? = some d := ⟨_, List.getElem?_eq_getElem (by omega)⟩
  have HD : Hid (∀ W, Below w.heap.size w W → W.cell? ⟨b, o, none⟩ = some (.int .i64 d.x) ∧ W.cell? ⟨b, o + 1, none⟩ = some (.int .i64 d.y) ∧ W.cell? ⟨b, o + 2, none⟩ = some (.int .i64 d.t) ∧ W.cell? ⟨b, o + 3, none⟩ = some (.int .i64 d.p)) := Lib.hid (fun W hb => by
    have h9 := HAT.out W hb 0 (by omega)
    rw [List.getElem?_eq_getElem (by omega), Option.some.injEq] at hd
    rw [hd] at h9
    simpa using h9)
  have HF : Hid (∀ W, Below w.heap.size w W → W.cell? ⟨b, o + (ds.length - 1) * 4, none⟩ = some (.int .i64 f.x) ∧ W.cell? ⟨b, o + (ds.length - 1) * 4 + 1, none⟩ = some (.int .i64 f.y) ∧ W.cell? ⟨b, o + (ds.length - 1) * 4 + 2, none⟩ = some (.int .i64 f.t) ∧ W.cell? ⟨b, o + (ds.length - 1) * 4 + 3, none⟩ = some (.int .i64 f.p)) := Lib.hid (fun W hb => by
    have h9 := HAT.out W hb (ds.length - 1) (by omega)
    rw [List.getElem?_eq_getElem (by omega), Option.some.injEq] at hf
    rw [hf] at h9
    exact h9)
  have HP1 := Lib.hid (fun W => pplace_any d.x d.y d.t d.p W); have HP2 := Lib.hid (fun W => pplace_any f.x f.y f.t f.p W)
  have e1 : IntKind.i64.wrap ((ds.length : Int) - 1) = ((ds.length - 1 : Nat) : Int) := by rw [IntWalk.i64_in _ (by omega)]; omega
  have q0 : (0 : Int) < (ds.length : Int) := by omega
  have q0n : 0 < ds.length := by omega
  have q1 : (0 : Int) ≤ ((ds.length - 1 : Nat) : Int) := by omega
  have q2 : ((ds.length - 1 : Nat) : Int) < (ds.length : Int) := by omega
  have HDF := Lib.hid (And.intro hd hf)
  clear hA hz hv hl hd hf
  have S_0 : Hid (Blk (((w.alloc (.cells #[.int .i64 P, .int .i64 N, .slice (some ⟨b, o, none⟩) ds.length c] 27)).alloc (.cells #[.int .i64 0, .int .i64 0] 29)).alloc (.cells #[.int .i64 0, .int .i64 0] 29)) w.heap.size 27 #[.int .i64 P, .int .i64 N, .slice (some ⟨b, o, none⟩) ds.length c]) := allocs_blk [(#[.int .i64 P, .int .i64 N, .slice (some ⟨b, o, none⟩) ds.length c], 27), (#[.int .i64 0, .int .i64 0], 29), (#[.int .i64 0, .int .i64 0], 29)] w 0 _ rfl
  have U_0 : Hid (Blk (((w.alloc (.cells #[.int .i64 P, .int .i64 N, .slice (some ⟨b, o, none⟩) ds.length c] 27)).alloc (.cells #[.int .i64 0, .int .i64 0] 29)).alloc (.cells #[.int .i64 0, .int .i64 0] 29)) (w.heap.size + 1) 29 #[.int .i64 0, .int .i64 0]) := allocs_blk [(#[.int .i64 P, .int .i64 N, .slice (some ⟨b, o, none⟩) ds.length c], 27), (#[.int .i64 0, .int .i64 0], 29), (#[.int .i64 0, .int .i64 0], 29)] w 1 _ rfl
  have V_0 : Hid (Blk (((w.alloc (.cells #[.int .i64 P, .int .i64 N, .slice (some ⟨b, o, none⟩) ds.length c] 27)).alloc (.cells #[.int .i64 0, .int .i64 0] 29)).alloc (.cells #[.int .i64 0, .int .i64 0] 29)) (w.heap.size + 2) 29 #[.int .i64 0, .int .i64 0]) := allocs_blk [(#[.int .i64 P, .int .i64 N, .slice (some ⟨b, o, none⟩) ds.length c], 27), (#[.int .i64 0, .int .i64 0], 29), (#[.int .i64 0, .int .i64 0], 29)] w 2 _ rfl
  have HB_0 : Hid (Below w.heap.size w (((w.alloc (.cells #[.int .i64 P, .int .i64 N, .slice (some ⟨b, o, none⟩) ds.length c] 27)).alloc (.cells #[.int .i64 0, .int .i64 0] 29)).alloc (.cells #[.int .i64 0, .int .i64 0] 29))) := allocs_below [(#[.int .i64 P, .int .i64 N, .slice (some ⟨b, o, none⟩) ds.length c], 27), (#[.int .i64 0, .int .i64 0], 29), (#[.int .i64 0, .int .i64 0], 29)] w (Below.refl w.heap.size w) (Nat.le_refl _)
  go_enter Try.func18, Try.ntmps18
  have yy0 := S_0.out.cell (i := 0) (v := .int .i64 P) rfl; have yy1 := S_0.out.cell (i := 1) (v := .int .i64 N) rfl; have yy2 := S_0.out.cell (i := 2) (v := .slice (some ⟨b, o, none⟩) ds.length c) rfl
  go_wp2_with fail
  refine (HV.out _ HB_0.out).mono ?_
  rintro e v0 ⟨rfl, hb⟩
  clear yy0 yy1 yy2
  have S_1 : Hid (Blk v0 w.heap.size 27 #[.int .i64 P, .int .i64 N, .slice (some ⟨b, o, none⟩) ds.length c]) := Lib.hid (S_0.out.below hb S_0.out.lt)
  have U_1 : Hid (Blk v0 (w.heap.size + 1) 29 #[.int .i64 0, .int .i64 0]) := Lib.hid (U_0.out.below hb U_0.out.lt)
  have V_1 : Hid (Blk v0 (w.heap.size + 2) 29 #[.int .i64 0, .int .i64 0]) := Lib.hid (V_0.out.below hb V_0.out.lt)
  have HB_1 : Hid (Below w.heap.size w v0) := Lib.hid (HB_0.out.trans (hb.mono HB_0.out.size))
  clear hb S_0 U_0 V_0 HB_0
  go_wp2_with fail
  refine wp_region_grow (S := (fun w' => w'.cell? ⟨w.heap.size, 2, none⟩ = some (.slice (some ⟨b, o, none⟩) ds.length c) ∧ w'.cell? ⟨b, o, none⟩ = some (.int .i64 d.x) ∧ w'.cell? ⟨b, o + 1, none⟩ = some (.int .i64 d.y) ∧ w'.cell? ⟨b, o + 2, none⟩ = some (.int .i64 d.t) ∧ w'.cell? ⟨b, o + 3, none⟩ = some (.int .i64 d.p) ∧ w'.cell? ⟨b, o + (ds.length - 1) * 4, none⟩ = some (.int .i64 f.x) ∧ w'.cell? ⟨b, o + (ds.length - 1) * 4 + 1, none⟩ = some (.int .i64 f.y) ∧ w'.cell? ⟨b, o + (ds.length - 1) * 4 + 2, none⟩ = some (.int .i64 f.t) ∧ w'.cell? ⟨b, o + (ds.length - 1) * 4 + 3, none⟩ = some (.int .i64 f.p))) ((fun w' => Below w.heap.size w w' ∧ Blk w' w.heap.size 27 #[.int .i64 P, .int .i64 N, .slice (some ⟨b, o, none⟩) ds.length c] ∧ Blk w' (w.heap.size + 1) 29 #[.int .i64 0, .int .i64 0] ∧ Blk w' (w.heap.size + 2) 29 #[.int .i64 0, .int .i64 0])) (by kernel_rfl) (⟨fun w2 h2 => ⟨(h2.2.1.cell (i := 2) rfl), (HD.out w2 h2.1).1, (HD.out w2 h2.1).2.1, (HD.out w2 h2.1).2.2.1, (HD.out w2 h2.1).2.2.2, (HF.out w2 h2.1).1, (HF.out w2 h2.1).2.1, (HF.out w2 h2.1).2.2.1, (HF.out w2 h2.1).2.2.2⟩, fun w2 w3 h2 hb2 => ⟨h2.1.trans (hb2.mono h2.1.size), h2.2.1.below hb2 h2.2.1.lt, h2.2.2.1.below hb2 h2.2.2.1.lt, h2.2.2.2.below hb2 h2.2.2.2.lt⟩⟩) (⟨HB_1.out.drew, S_1.out.drew, U_1.out.drew, V_1.out.drew⟩) (fun hCalm => ?_)
  refine grow_take 0 (some 10) ?_ rfl rfl (by kernel_rfl) (fun _ _ _ h => h) (by kernel_rfl) hCalm ?_ ?_
  rotate_left
  · intro wS hS; (try dsimp only at hS); go_simp <;> with_reducible rfl
  try simp only [Act.put, List.setIfInBounds_toArray, List.set_cons_zero, List.set_cons_succ]
  refine grow_take 1 (some 11) ?_ rfl rfl (by kernel_rfl) (fun _ _ _ h => h) (by kernel_rfl) hCalm ?_ ?_
  rotate_left
  · intro wS hS; (try dsimp only at hS); go_simp <;> with_reducible rfl
  try simp only [Act.put, List.setIfInBounds_toArray, List.set_cons_zero, List.set_cons_succ]
  refine grow_take 2 (some 12) ?_ rfl rfl (by kernel_rfl) (fun _ _ _ h => h) (by kernel_rfl) hCalm ?_ ?_
  rotate_left
  · intro wS hS; (try dsimp only at hS); go_simp <;> with_reducible rfl
  try simp only [Act.put, List.setIfInBounds_toArray, List.set_cons_zero, List.set_cons_succ]
  refine grow_take 3 (some 13) ?_ rfl rfl (by kernel_rfl) (fun _ _ _ h => h) (by kernel_rfl) hCalm ?_ ?_
  rotate_left
  · intro wS hS; (try dsimp only at hS); go_simp <;> with_reducible rfl
  try simp only [Act.put, List.setIfInBounds_toArray, List.set_cons_zero, List.set_cons_succ]
  refine grow_call 4 (some 14) (.agg #[.int .i64 d.x, .int .i64 d.y]) 42 [.tmp 13] #[24] rfl rfl (by kernel_rfl) (fun _ _ _ h => h) (by kernel_rfl) hCalm rfl (enters_of Try.func42 (by kernel_rfl) rfl) (fun wz _ => HP1.out wz) (by kernel_rfl) ?_
  try simp only [Act.put, List.setIfInBounds_toArray, List.set_cons_zero, List.set_cons_succ]
  refine grow_take 5 (some 15) ?_ rfl rfl (by kernel_rfl) (fun _ _ _ h => h) (by kernel_rfl) hCalm ?_ ?_
  rotate_left
  · intro wS hS; (try dsimp only at hS); go_simp <;> with_reducible rfl
  try simp only [Act.put, List.setIfInBounds_toArray, List.set_cons_zero, List.set_cons_succ]
  refine grow_take 6 (some 16) ?_ rfl rfl (by kernel_rfl) (fun _ _ _ h => h) (by kernel_rfl) hCalm ?_ ?_
  rotate_left
  · intro wS hS; (try dsimp only at hS); go_simp <;> with_reducible rfl
  try simp only [Act.put, List.setIfInBounds_toArray, List.set_cons_zero, List.set_cons_succ]
  refine grow_take 7 (some 17) ?_ rfl rfl (by kernel_rfl) (fun _ _ _ h => h) (by kernel_rfl) hCalm ?_ ?_
  rotate_left
  · intro wS hS; (try dsimp only at hS); go_simp <;> with_reducible rfl
  try simp only [Act.put, List.setIfInBounds_toArray, List.set_cons_zero, List.set_cons_succ]
  refine grow_take 8 (some 18) ?_ rfl rfl (by kernel_rfl) (fun _ _ _ h => h) (by kernel_rfl) hCalm ?_ ?_
  rotate_left
  · intro wS hS; (try dsimp only at hS); go_simp <;> with_reducible rfl
  try simp only [Act.put, List.setIfInBounds_toArray, List.set_cons_zero, List.set_cons_succ]
  refine grow_take 9 (some 19) ?_ rfl rfl (by kernel_rfl) (fun _ _ _ h => h) (by kernel_rfl) hCalm ?_ ?_
  rotate_left
  · intro wS hS; (try dsimp only at hS); go_simp <;> with_reducible rfl
  try simp only [Act.put, List.setIfInBounds_toArray, List.set_cons_zero, List.set_cons_succ]
  refine grow_take 10 (some 20) ?_ rfl rfl (by kernel_rfl) (fun _ _ _ h => h) (by kernel_rfl) hCalm ?_ ?_
  rotate_left
  · intro wS hS; (try dsimp only at hS); go_simp <;> with_reducible rfl
  try simp only [Act.put, List.setIfInBounds_toArray, List.set_cons_zero, List.set_cons_succ]
  refine grow_take 11 (some 21) ?_ rfl rfl (by kernel_rfl) (fun _ _ _ h => h) (by kernel_rfl) hCalm ?_ ?_
  rotate_left
  · intro wS hS; (try dsimp only at hS); go_simp <;> with_reducible rfl
  try simp only [Act.put, List.setIfInBounds_toArray, List.set_cons_zero, List.set_cons_succ]
  refine grow_take 12 (some 22) ?_ rfl rfl (by kernel_rfl) (fun _ _ _ h => h) (by kernel_rfl) hCalm ?_ ?_
  rotate_left
  · intro wS hS; (try dsimp only at hS); go_simp <;> with_reducible rfl
  try simp only [Act.put, List.setIfInBounds_toArray, List.set_cons_zero, List.set_cons_succ]
  refine grow_call 13 (some 23) (.agg #[.int .i64 f.x, .int .i64 f.y]) 42 [.tmp 22] #[24] rfl rfl (by kernel_rfl) (fun _ _ _ h => h) (by kernel_rfl) hCalm rfl (enters_of Try.func42 (by kernel_rfl) rfl) (fun wz _ => HP2.out wz) (by kernel_rfl) ?_
  try simp only [Act.put, List.setIfInBounds_toArray, List.set_cons_zero, List.set_cons_succ]
  refine grow_each [14] (by kernel_rfl) (by decide) ?_
  refine grow_cons 14 rfl (by kernel_rfl) (fun wA hA K hK => ?_) grow_nil
  have z0 := hA.2.2.1.cell (i := 0) (v := .int .i64 0) rfl; have f0 := hA.2.2.1.frozen 0
  have z1 := hA.2.2.1.cell (i := 1) (v := .int .i64 0) rfl; have f1 := hA.2.2.1.frozen 1
  go_simp
  refine hK.out _ _ (fun w' => Below w.heap.size w w' ∧ Blk w' w.heap.size 27 #[.int .i64 P, .int .i64 N, .slice (some ⟨b, o, none⟩) ds.length c] ∧ Blk w' (w.heap.size + 1) 29 #[.int .i64 d.x, .int .i64 d.y] ∧ Blk w' (w.heap.size + 2) 29 #[.int .i64 0, .int .i64 0]) ⟨fun w2 h2 => ⟨(h2.2.1.cell (i := 2) rfl), (HD.out w2 h2.1).1, (HD.out w2 h2.1).2.1, (HD.out w2 h2.1).2.2.1, (HD.out w2 h2.1).2.2.2, (HF.out w2 h2.1).1, (HF.out w2 h2.1).2.1, (HF.out w2 h2.1).2.2.1, (HF.out w2 h2.1).2.2.2⟩, fun w2 w3 h2 hb2 => ⟨h2.1.trans (hb2.mono h2.1.size), h2.2.1.below hb2 h2.2.1.lt, h2.2.2.1.below hb2 h2.2.2.1.lt, h2.2.2.2.below hb2 h2.2.2.2.lt⟩⟩ ⟨((hA.1.setCell (p := ⟨(w.heap.size + 1), 0, none⟩) (by show w.heap.size ≤ (w.heap.size + 1); omega) _).setCell (p := ⟨(w.heap.size + 1), 1, none⟩) (by show w.heap.size ≤ (w.heap.size + 1); omega) _), ((hA.2.1.far (p := ⟨(w.heap.size + 1), 0, none⟩) (by show w.heap.size ≠ (w.heap.size + 1); omega) _).far (p := ⟨(w.heap.size + 1), 1, none⟩) (by show w.heap.size ≠ (w.heap.size + 1); omega) _), ((hA.2.2.1.set 0 _).set 1 _), ((hA.2.2.2.far (p := ⟨(w.heap.size + 1), 0, none⟩) (by show (w.heap.size + 2) ≠ (w.heap.size + 1); omega) _).far (p := ⟨(w.heap.size + 1), 1, none⟩) (by show (w.heap.size + 2) ≠ (w.heap.size + 1); omega) _)⟩ ?_
  clear z0 f0 z1 f1 hK K hA wA hCalm
  have hCalm : Calm (fun w' => w'.cell? ⟨w.heap.size, 2, none⟩ = some (.slice (some ⟨b, o, none⟩) ds.length c) ∧ w'.cell? ⟨b, o, none⟩ = some (.int .i64 d.x) ∧ w'.cell? ⟨b, o + 1, none⟩ = some (.int .i64 d.y) ∧ w'.cell? ⟨b, o + 2, none⟩ = some (.int .i64 d.t) ∧ w'.cell? ⟨b, o + 3, none⟩ = some (.int .i64 d.p) ∧ w'.cell? ⟨b, o + (ds.length - 1) * 4, none⟩ = some (.int .i64 f.x) ∧ w'.cell? ⟨b, o + (ds.length - 1) * 4 + 1, none⟩ = some (.int .i64 f.y) ∧ w'.cell? ⟨b, o + (ds.length - 1) * 4 + 2, none⟩ = some (.int .i64 f.t) ∧ w'.cell? ⟨b, o + (ds.length - 1) * 4 + 3, none⟩ = some (.int .i64 f.p)) (fun w' => Below w.heap.size w w' ∧ Blk w' w.heap.size 27 #[.int .i64 P, .int .i64 N, .slice (some ⟨b, o, none⟩) ds.length c] ∧ Blk w' (w.heap.size + 1) 29 #[.int .i64 d.x, .int .i64 d.y] ∧ Blk w' (w.heap.size + 2) 29 #[.int .i64 0, .int .i64 0]) := ⟨fun w2 h2 => ⟨(h2.2.1.cell (i := 2) rfl), (HD.out w2 h2.1).1, (HD.out w2 h2.1).2.1, (HD.out w2 h2.1).2.2.1, (HD.out w2 h2.1).2.2.2, (HF.out w2 h2.1).1, (HF.out w2 h2.1).2.1, (HF.out w2 h2.1).2.2.1, (HF.out w2 h2.1).2.2.2⟩, fun w2 w3 h2 hb2 => ⟨h2.1.trans (hb2.mono h2.1.size), h2.2.1.below hb2 h2.2.1.lt, h2.2.2.1.below hb2 h2.2.2.1.lt, h2.2.2.2.below hb2 h2.2.2.2.lt⟩⟩
  try simp only [Act.put]
  refine grow_each [15] (by kernel_rfl) (by decide) ?_
  refine grow_cons 15 rfl (by kernel_rfl) (fun wA hA K hK => ?_) grow_nil
  have z0 := hA.2.2.2.cell (i := 0) (v := .int .i64 0) rfl; have f0 := hA.2.2.2.frozen 0
  have z1 := hA.2.2.2.cell (i := 1) (v := .int .i64 0) rfl; have f1 := hA.2.2.2.frozen 1
  go_simp
  refine hK.out _ _ (fun w' => Below w.heap.size w w' ∧ Blk w' w.heap.size 27 #[.int .i64 P, .int .i64 N, .slice (some ⟨b, o, none⟩) ds.length c] ∧ Blk w' (w.heap.size + 1) 29 #[.int .i64 d.x, .int .i64 d.y] ∧ Blk w' (w.heap.size + 2) 29 #[.int .i64 f.x, .int .i64 f.y]) ⟨fun w2 h2 => ⟨(h2.2.1.cell (i := 2) rfl), (HD.out w2 h2.1).1, (HD.out w2 h2.1).2.1, (HD.out w2 h2.1).2.2.1, (HD.out w2 h2.1).2.2.2, (HF.out w2 h2.1).1, (HF.out w2 h2.1).2.1, (HF.out w2 h2.1).2.2.1, (HF.out w2 h2.1).2.2.2⟩, fun w2 w3 h2 hb2 => ⟨h2.1.trans (hb2.mono h2.1.size), h2.2.1.below hb2 h2.2.1.lt, h2.2.2.1.below hb2 h2.2.2.1.lt, h2.2.2.2.below hb2 h2.2.2.2.lt⟩⟩ ⟨((hA.1.setCell (p := ⟨(w.heap.size + 2), 0, none⟩) (by show w.heap.size ≤ (w.heap.size + 2); omega) _).setCell (p := ⟨(w.heap.size + 2), 1, none⟩) (by show w.heap.size ≤ (w.heap.size + 2); omega) _), ((hA.2.1.far (p := ⟨(w.heap.size + 2), 0, none⟩) (by show w.heap.size ≠ (w.heap.size + 2); omega) _).far (p := ⟨(w.heap.size + 2), 1, none⟩) (by show w.heap.size ≠ (w.heap.size + 2); omega) _), ((hA.2.2.1.far (p := ⟨(w.heap.size + 2), 0, none⟩) (by show (w.heap.size + 1) ≠ (w.heap.size + 2); omega) _).far (p := ⟨(w.heap.size + 2), 1, none⟩) (by show (w.heap.size + 1) ≠ (w.heap.size + 2); omega) _), ((hA.2.2.2.set 0 _).set 1 _)⟩ ?_
  clear z0 f0 z1 f1 hK K hA wA hCalm
  have hCalm : Calm (fun w' => w'.cell? ⟨w.heap.size, 2, none⟩ = some (.slice (some ⟨b, o, none⟩) ds.length c) ∧ w'.cell? ⟨b, o, none⟩ = some (.int .i64 d.x) ∧ w'.cell? ⟨b, o + 1, none⟩ = some (.int .i64 d.y) ∧ w'.cell? ⟨b, o + 2, none⟩ = some (.int .i64 d.t) ∧ w'.cell? ⟨b, o + 3, none⟩ = some (.int .i64 d.p) ∧ w'.cell? ⟨b, o + (ds.length - 1) * 4, none⟩ = some (.int .i64 f.x) ∧ w'.cell? ⟨b, o + (ds.length - 1) * 4 + 1, none⟩ = some (.int .i64 f.y) ∧ w'.cell? ⟨b, o + (ds.length - 1) * 4 + 2, none⟩ = some (.int .i64 f.t) ∧ w'.cell? ⟨b, o + (ds.length - 1) * 4 + 3, none⟩ = some (.int .i64 f.p)) (fun w' => Below w.heap.size w w' ∧ Blk w' w.heap.size 27 #[.int .i64 P, .int .i64 N, .slice (some ⟨b, o, none⟩) ds.length c] ∧ Blk w' (w.heap.size + 1) 29 #[.int .i64 d.x, .int .i64 d.y] ∧ Blk w' (w.heap.size + 2) 29 #[.int .i64 f.x, .int .i64 f.y]) := ⟨fun w2 h2 => ⟨(h2.2.1.cell (i := 2) rfl), (HD.out w2 h2.1).1, (HD.out w2 h2.1).2.1, (HD.out w2 h2.1).2.2.1, (HD.out w2 h2.1).2.2.2, (HF.out w2 h2.1).1, (HF.out w2 h2.1).2.1, (HF.out w2 h2.1).2.2.1, (HF.out w2 h2.1).2.2.2⟩, fun w2 w3 h2 hb2 => ⟨h2.1.trans (hb2.mono h2.1.size), h2.2.1.below hb2 h2.2.1.lt, h2.2.2.1.below hb2 h2.2.2.1.lt, h2.2.2.2.below hb2 h2.2.2.2.lt⟩⟩
  try simp only [Act.put]
  refine grow_take 16 (some 4) ?_ rfl rfl (by kernel_rfl) (fun _ _ _ h => h) (by kernel_rfl) hCalm ?_ ?_
  rotate_left
  · intro wS hS; (try dsimp only at hS); go_simp <;> with_reducible rfl
  try simp only [Act.put, List.setIfInBounds_toArray, List.set_cons_zero, List.set_cons_succ]
  refine grow_done (by kernel_rfl) (fun wA hA => ?_) _
  have rU0 := hA.2.2.1.cell (i := 0) (v := .int .i64 d.x) rfl
  have rU1 := hA.2.2.1.cell (i := 1) (v := .int .i64 d.y) rfl
  have rV0 := hA.2.2.2.cell (i := 0) (v := .int .i64 f.x) rfl
  have rV1 := hA.2.2.2.cell (i := 1) (v := .int .i64 f.y) rfl
  go_wp2_with fail
  exact bodyPost_ret (v := .tuple #[.agg #[.int .i64 d.x, .int .i64 d.y], .agg #[.int .i64 f.x, .int .i64 f.y], .int .i64 0]) (by simp [results, Try.results18, go_sem, rU0, rU1, rV0, rV1]) rfl ⟨d, f, HDF.out.1, HDF.out.2, rfl, hA.1⟩
end Go.Proofs.Ytamogfcedkjmcaa
