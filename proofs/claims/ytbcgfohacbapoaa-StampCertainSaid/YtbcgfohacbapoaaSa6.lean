
/- The contracts of small functions of package stamp: isFrom, isTime, Valid, Before. No conditions. -/
import Derived.Test.YtbcgfohacbapoaaSl6
import Derived.Test.YtbcgfohacbapoaaAlc
namespace Go.Proofs.Ytbcgfohacbapoaa
open Go.RowKit Go.Lib

/-- A valid stamp. -/
def Sm.ok (s : Sm) : Prop := (0 ≤ s.t ∧ s.t ≤ 1000000) ∧ (0 ≤ s.p ∧ s.p ≤ 39) ∧ (1 ≤ s.n ∧ s.n ≤ 999)
instance (s : Sm) : Decidable s.ok := by unfold Sm.ok; infer_instance
set_option maxRecDepth 100000 in
set_option maxHeartbeats 4000000 in
theorem pfrom6_any (n a b : Int) (w : World) :
    Calls Try.prog 90 #[.int .i64 n, .int .i64 a, .int .i64 b] w fun e w' => e = .returned (.bool (decide (a ≤ n ∧ n ≤ b))) ∧ Below w.heap.size w w' := by
  by_cases h1 : a ≤ n
  · by_cases h2 : n ≤ b
    · have e : decide (a ≤ n ∧ n ≤ b) = true := decide_eq_true ⟨h1, h2⟩
      rw [e]; clear e
      go_enter Try.func90, Try.ntmps90
      go_wp2_with fail
      go_ret
      exact ⟨rfl, Below.refl _ _⟩
    · have e : decide (a ≤ n ∧ n ≤ b) = false := decide_eq_false fun h => h2 h.2
      rw [e]; clear e
      go_enter Try.func90, Try.ntmps90
      go_wp2_with fail
      go_ret
      exact ⟨rfl, Below.refl _ _⟩
  · have e : decide (a ≤ n ∧ n ≤ b) = false := decide_eq_false fun h => h1 h.1
    rw [e]; clear e
    have hundef := un_none
    go_enter Try.func90, Try.ntmps90
    go_wp2_with fail
    go_ret
    exact ⟨rfl, Below.refl _ _⟩
set_option maxRecDepth 100000 in
set_option maxHeartbeats 4000000 in
theorem ptime6_any (n : Int) (w : World) :
    Calls Try.prog 89 #[.int .i64 n] w fun e w' => e = .returned (.bool (decide (0 ≤ n ∧ n ≤ 1000000))) ∧ Below w.heap.size w w' := by
  have HC := Lib.hid (pfrom6_any n 0 1000000 w)
  go_enter Try.func89, Try.ntmps89
  go_wp2_with fail
  refine HC.out.mono ?_
  rintro e v0 ⟨rfl, hb⟩
  have HB := Lib.hid hb; clear hb HC
  go_wp2_with fail
  go_ret
  exact ⟨by simp, HB.out⟩
theorem pfrom6_yes (n a b : Int) (w : World) (h : a ≤ n ∧ n ≤ b) :
    Calls Try.prog 90 #[.int .i64 n, .int .i64 a, .int .i64 b] w fun e w' => e = .returned (.bool true) ∧ Below w.heap.size w w' := by
  have := pfrom6_any n a b w
  rwa [decide_eq_true h] at this
theorem pfrom6_not (n a b : Int) (w : World) (h : ¬ (a ≤ n ∧ n ≤ b)) :
    Calls Try.prog 90 #[.int .i64 n, .int .i64 a, .int .i64 b] w fun e w' => e = .returned (.bool false) ∧ Below w.heap.size w w' := by
  have := pfrom6_any n a b w
  rwa [decide_eq_false h] at this
theorem ptime6_yes (n : Int) (w : World) (h : 0 ≤ n ∧ n ≤ 1000000) :
    Calls Try.prog 89 #[.int .i64 n] w fun e w' => e = .returned (.bool true) ∧ Below w.heap.size w w' := by
  have := ptime6_any n w
  rwa [decide_eq_true h] at this
theorem ptime6_not (n : Int) (w : World) (h : ¬ (0 ≤ n ∧ n ≤ 1000000)) :
    Calls Try.prog 89 #[.int .i64 n] w fun e w' => e = .returned (.bool false) ∧ Below w.heap.size w w' := by
  have := ptime6_any n w
  rwa [decide_eq_false h] at this
set_option maxRecDepth 100000 in
set_option maxHeartbeats 4000000 in
theorem pvalid6_any (s : Sm) (w : World) :
    Calls Try.prog 50 #[.agg #[.int .i64 s.t, .int .i64 s.p, .int .i64 s.n]] w fun e w' => e = .returned (.bool (decide s.ok)) ∧ Below w.heap.size w w' := by
  by_cases h0 : 0 ≤ s.t ∧ s.t ≤ 1000000
  case neg =>
    have HN : Hid (decide s.ok = false) := Lib.hid (decide_eq_false fun h => h0 h.1)
    have HC0 := Lib.hid (fun W => ptime6_not s.t W h0)
    clear h0
    have S_0 : Hid (Blk (w.alloc (.cells #[.int .i64 s.t, .int .i64 s.p, .int .i64 s.n] 64)) w.heap.size 64 #[.int .i64 s.t, .int .i64 s.p, .int .i64 s.n]) := allocs_blk [(#[.int .i64 s.t, .int .i64 s.p, .int .i64 s.n], 64)] w 0 _ rfl
    have HB_0 : Hid (Below w.heap.size w (w.alloc (.cells #[.int .i64 s.t, .int .i64 s.p, .int .i64 s.n] 64))) := allocs_below [(#[.int .i64 s.t, .int .i64 s.p, .int .i64 s.n], 64)] w (Below.refl w.heap.size w) (Nat.le_refl _)
    go_enter Try.func50, Try.ntmps50
    have yy0 := S_0.out.cell (i := 0) (v := .int .i64 s.t) rfl; have yy1 := S_0.out.cell (i := 1) (v := .int .i64 s.p) rfl; have yy2 := S_0.out.cell (i := 2) (v := .int .i64 s.n) rfl
    go_wp2_with fail
    refine (HC0.out _).mono ?_
    rintro e v0 ⟨rfl, hb⟩
    clear yy0 yy1 yy2
    have S_1 : Hid (Blk v0 w.heap.size 64 #[.int .i64 s.t, .int .i64 s.p, .int .i64 s.n]) := Lib.hid (S_0.out.below hb S_0.out.lt)
    have HB_1 : Hid (Below w.heap.size w v0) := Lib.hid (HB_0.out.trans (hb.mono HB_0.out.size))
    clear hb S_0 HB_0
    have hundef := un_none
    go_wp2_with fail
    go_ret
    exact ⟨by rw [HN.out]; rfl, HB_1.out⟩
  case pos =>
    by_cases h1 : 0 ≤ s.p ∧ s.p ≤ 39
    case neg =>
      have HN : Hid (decide s.ok = false) := Lib.hid (decide_eq_false fun h => h1 h.2.1)
      have HC0 := Lib.hid (fun W => ptime6_yes s.t W h0)
      have HC1 := Lib.hid (fun W => pfrom6_not s.p 0 39 W h1)
      clear h0 h1
      have S_0 : Hid (Blk (w.alloc (.cells #[.int .i64 s.t, .int .i64 s.p, .int .i64 s.n] 64)) w.heap.size 64 #[.int .i64 s.t, .int .i64 s.p, .int .i64 s.n]) := allocs_blk [(#[.int .i64 s.t, .int .i64 s.p, .int .i64 s.n], 64)] w 0 _ rfl
      have HB_0 : Hid (Below w.heap.size w (w.alloc (.cells #[.int .i64 s.t, .int .i64 s.p, .int .i64 s.n] 64))) := allocs_below [(#[.int .i64 s.t, .int .i64 s.p, .int .i64 s.n], 64)] w (Below.refl w.heap.size w) (Nat.le_refl _)
      go_enter Try.func50, Try.ntmps50
      have yy0 := S_0.out.cell (i := 0) (v := .int .i64 s.t) rfl; have yy1 := S_0.out.cell (i := 1) (v := .int .i64 s.p) rfl; have yy2 := S_0.out.cell (i := 2) (v := .int .i64 s.n) rfl
      go_wp2_with fail
      refine (HC0.out _).mono ?_
      rintro e v0 ⟨rfl, hb⟩
      clear yy0 yy1 yy2
      have S_1 : Hid (Blk v0 w.heap.size 64 #[.int .i64 s.t, .int .i64 s.p, .int .i64 s.n]) := Lib.hid (S_0.out.below hb S_0.out.lt)
      have HB_1 : Hid (Below w.heap.size w v0) := Lib.hid (HB_0.out.trans (hb.mono HB_0.out.size))
      clear hb S_0 HB_0
      have yy0 := S_1.out.cell (i := 0) (v := .int .i64 s.t) rfl; have yy1 := S_1.out.cell (i := 1) (v := .int .i64 s.p) rfl; have yy2 := S_1.out.cell (i := 2) (v := .int .i64 s.n) rfl
      go_wp2_with fail
      refine (HC1.out _).mono ?_
      rintro e v1 ⟨rfl, hb⟩
      clear yy0 yy1 yy2
      have S_2 : Hid (Blk v1 w.heap.size 64 #[.int .i64 s.t, .int .i64 s.p, .int .i64 s.n]) := Lib.hid (S_1.out.below hb S_1.out.lt)
      have HB_2 : Hid (Below w.heap.size w v1) := Lib.hid (HB_1.out.trans (hb.mono HB_1.out.size))
      clear hb S_1 HB_1
      have hundef := un_none
      go_wp2_with fail
      go_ret
      exact ⟨by rw [HN.out]; rfl, HB_2.out⟩
    case pos =>
      by_cases h2 : 1 ≤ s.n ∧ s.n ≤ 999
      case neg =>
        have HN : Hid (decide s.ok = false) := Lib.hid (decide_eq_false fun h => h2 h.2.2)
        have HC0 := Lib.hid (fun W => ptime6_yes s.t W h0)
        have HC1 := Lib.hid (fun W => pfrom6_yes s.p 0 39 W h1)
        have HC2 := Lib.hid (fun W => pfrom6_not s.n 1 999 W h2)
        clear h0 h1 h2
        have S_0 : Hid (Blk (w.alloc (.cells #[.int .i64 s.t, .int .i64 s.p, .int .i64 s.n] 64)) w.heap.size 64 #[.int .i64 s.t, .int .i64 s.p, .int .i64 s.n]) := allocs_blk [(#[.int .i64 s.t, .int .i64 s.p, .int .i64 s.n], 64)] w 0 _ rfl
        have HB_0 : Hid (Below w.heap.size w (w.alloc (.cells #[.int .i64 s.t, .int .i64 s.p, .int .i64 s.n] 64))) := allocs_below [(#[.int .i64 s.t, .int .i64 s.p, .int .i64 s.n], 64)] w (Below.refl w.heap.size w) (Nat.le_refl _)
        go_enter Try.func50, Try.ntmps50
        have yy0 := S_0.out.cell (i := 0) (v := .int .i64 s.t) rfl; have yy1 := S_0.out.cell (i := 1) (v := .int .i64 s.p) rfl; have yy2 := S_0.out.cell (i := 2) (v := .int .i64 s.n) rfl
        go_wp2_with fail
        refine (HC0.out _).mono ?_
        rintro e v0 ⟨rfl, hb⟩
        clear yy0 yy1 yy2
        have S_1 : Hid (Blk v0 w.heap.size 64 #[.int .i64 s.t, .int .i64 s.p, .int .i64 s.n]) := Lib.hid (S_0.out.below hb S_0.out.lt)
        have HB_1 : Hid (Below w.heap.size w v0) := Lib.hid (HB_0.out.trans (hb.mono HB_0.out.size))
        clear hb S_0 HB_0
        have yy0 := S_1.out.cell (i := 0) (v := .int .i64 s.t) rfl; have yy1 := S_1.out.cell (i := 1) (v := .int .i64 s.p) rfl; have yy2 := S_1.out.cell (i := 2) (v := .int .i64 s.n) rfl
        go_wp2_with fail
        refine (HC1.out _).mono ?_
        rintro e v1 ⟨rfl, hb⟩
        clear yy0 yy1 yy2
        have S_2 : Hid (Blk v1 w.heap.size 64 #[.int .i64 s.t, .int .i64 s.p, .int .i64 s.n]) := Lib.hid (S_1.out.below hb S_1.out.lt)
        have HB_2 : Hid (Below w.heap.size w v1) := Lib.hid (HB_1.out.trans (hb.mono HB_1.out.size))
        clear hb S_1 HB_1
        have yy0 := S_2.out.cell (i := 0) (v := .int .i64 s.t) rfl; have yy1 := S_2.out.cell (i := 1) (v := .int .i64 s.p) rfl; have yy2 := S_2.out.cell (i := 2) (v := .int .i64 s.n) rfl
        go_wp2_with fail
        refine (HC2.out _).mono ?_
        rintro e v2 ⟨rfl, hb⟩
        clear yy0 yy1 yy2
        have S_3 : Hid (Blk v2 w.heap.size 64 #[.int .i64 s.t, .int .i64 s.p, .int .i64 s.n]) := Lib.hid (S_2.out.below hb S_2.out.lt)
        have HB_3 : Hid (Below w.heap.size w v2) := Lib.hid (HB_2.out.trans (hb.mono HB_2.out.size))
        clear hb S_2 HB_2
        have hundef := un_none
        go_wp2_with fail
        go_ret
        exact ⟨by rw [HN.out]; rfl, HB_3.out⟩
      case pos =>
        have HN : Hid (decide s.ok = true) := Lib.hid (decide_eq_true ⟨h0, h1, h2⟩)
        have HC0 := Lib.hid (fun W => ptime6_yes s.t W h0)
        have HC1 := Lib.hid (fun W => pfrom6_yes s.p 0 39 W h1)
        have HC2 := Lib.hid (fun W => pfrom6_yes s.n 1 999 W h2)
        clear h0 h1 h2
        have S_0 : Hid (Blk (w.alloc (.cells #[.int .i64 s.t, .int .i64 s.p, .int .i64 s.n] 64)) w.heap.size 64 #[.int .i64 s.t, .int .i64 s.p, .int .i64 s.n]) := allocs_blk [(#[.int .i64 s.t, .int .i64 s.p, .int .i64 s.n], 64)] w 0 _ rfl
        have HB_0 : Hid (Below w.heap.size w (w.alloc (.cells #[.int .i64 s.t, .int .i64 s.p, .int .i64 s.n] 64))) := allocs_below [(#[.int .i64 s.t, .int .i64 s.p, .int .i64 s.n], 64)] w (Below.refl w.heap.size w) (Nat.le_refl _)
        go_enter Try.func50, Try.ntmps50
        have yy0 := S_0.out.cell (i := 0) (v := .int .i64 s.t) rfl; have yy1 := S_0.out.cell (i := 1) (v := .int .i64 s.p) rfl; have yy2 := S_0.out.cell (i := 2) (v := .int .i64 s.n) rfl
        go_wp2_with fail
        refine (HC0.out _).mono ?_
        rintro e v0 ⟨rfl, hb⟩
        clear yy0 yy1 yy2
        have S_1 : Hid (Blk v0 w.heap.size 64 #[.int .i64 s.t, .int .i64 s.p, .int .i64 s.n]) := Lib.hid (S_0.out.below hb S_0.out.lt)
        have HB_1 : Hid (Below w.heap.size w v0) := Lib.hid (HB_0.out.trans (hb.mono HB_0.out.size))
        clear hb S_0 HB_0
        have yy0 := S_1.out.cell (i := 0) (v := .int .i64 s.t) rfl; have yy1 := S_1.out.cell (i := 1) (v := .int .i64 s.p) rfl; have yy2 := S_1.out.cell (i := 2) (v := .int .i64 s.n) rfl
        go_wp2_with fail
        refine (HC1.out _).mono ?_
        rintro e v1 ⟨rfl, hb⟩
        clear yy0 yy1 yy2
        have S_2 : Hid (Blk v1 w.heap.size 64 #[.int .i64 s.t, .int .i64 s.p, .int .i64 s.n]) := Lib.hid (S_1.out.below hb S_1.out.lt)
        have HB_2 : Hid (Below w.heap.size w v1) := Lib.hid (HB_1.out.trans (hb.mono HB_1.out.size))
        clear hb S_1 HB_1
        have yy0 := S_2.out.cell (i := 0) (v := .int .i64 s.t) rfl; have yy1 := S_2.out.cell (i := 1) (v := .int .i64 s.p) rfl; have yy2 := S_2.out.cell (i := 2) (v := .int .i64 s.n) rfl
        go_wp2_with fail
        refine (HC2.out _).mono ?_
        rintro e v2 ⟨rfl, hb⟩
        clear yy0 yy1 yy2
        have S_3 : Hid (Blk v2 w.heap.size 64 #[.int .i64 s.t, .int .i64 s.p, .int .i64 s.n]) := Lib.hid (S_2.out.below hb S_2.out.lt)
        have HB_3 : Hid (Below w.heap.size w v2) := Lib.hid (HB_2.out.trans (hb.mono HB_2.out.size))
        clear hb S_2 HB_2
        have hundef := un_none
        go_wp2_with fail
        go_ret
        exact ⟨by rw [HN.out]; rfl, HB_3.out⟩
set_option maxRecDepth 100000 in
set_option maxHeartbeats 4000000 in
theorem pbef6_any (a b : Sm) (w : World) :
    Calls Try.prog 48 #[.agg #[.int .i64 a.t, .int .i64 a.p, .int .i64 a.n], .agg #[.int .i64 b.t, .int .i64 b.p, .int .i64 b.n]] w fun e w' => e = .returned (.bool (bef a b)) ∧ Below w.heap.size w w' := by
  have A_0 : Hid (Blk ((w.alloc (.cells #[.int .i64 a.t, .int .i64 a.p, .int .i64 a.n] 64)).alloc (.cells #[.int .i64 b.t, .int .i64 b.p, .int .i64 b.n] 64)) w.heap.size 64 #[.int .i64 a.t, .int .i64 a.p, .int .i64 a.n]) := allocs_blk [(#[.int .i64 a.t, .int .i64 a.p, .int .i64 a.n], 64), (#[.int .i64 b.t, .int .i64 b.p, .int .i64 b.n], 64)] w 0 _ rfl
  have B_0 : Hid (Blk ((w.alloc (.cells #[.int .i64 a.t, .int .i64 a.p, .int .i64 a.n] 64)).alloc (.cells #[.int .i64 b.t, .int .i64 b.p, .int .i64 b.n] 64)) (w.heap.size + 1) 64 #[.int .i64 b.t, .int .i64 b.p, .int .i64 b.n]) := allocs_blk [(#[.int .i64 a.t, .int .i64 a.p, .int .i64 a.n], 64), (#[.int .i64 b.t, .int .i64 b.p, .int .i64 b.n], 64)] w 1 _ rfl
  have HB_0 : Hid (Below w.heap.size w ((w.alloc (.cells #[.int .i64 a.t, .int .i64 a.p, .int .i64 a.n] 64)).alloc (.cells #[.int .i64 b.t, .int .i64 b.p, .int .i64 b.n] 64))) := allocs_below [(#[.int .i64 a.t, .int .i64 a.p, .int .i64 a.n], 64), (#[.int .i64 b.t, .int .i64 b.p, .int .i64 b.n], 64)] w (Below.refl w.heap.size w) (Nat.le_refl _)
  have yy0 := A_0.out.cell (i := 0) (v := .int .i64 a.t) rfl; have yy1 := A_0.out.cell (i := 1) (v := .int .i64 a.p) rfl; have yy2 := A_0.out.cell (i := 2) (v := .int .i64 a.n) rfl
  have yy3 := B_0.out.cell (i := 0) (v := .int .i64 b.t) rfl; have yy4 := B_0.out.cell (i := 1) (v := .int .i64 b.p) rfl; have yy5 := B_0.out.cell (i := 2) (v := .int .i64 b.n) rfl
  obtain ⟨at_, ap, an⟩ := a; obtain ⟨bt, bp, bn⟩ := b; dsimp only at *
  by_cases h1 : at_ = bt
  case neg =>
    have e : bef ⟨at_, ap, an⟩ ⟨bt, bp, bn⟩ = decide (at_ < bt) := by unfold bef; rw [if_pos h1]
    have d1 : (at_ == bt) = false := by simpa using h1
    rw [e]; clear e
    go_enter Try.func48, Try.ntmps48
    go_wp2_with fail
    go_ret
    exact ⟨rfl, HB_0.out⟩
  case pos =>
    subst h1
    by_cases h2 : ap = bp
    case neg =>
      have e : bef ⟨at_, ap, an⟩ ⟨at_, bp, bn⟩ = decide (ap < bp) := by unfold bef; rw [if_neg (by simp), if_pos h2]
      have d1 : (ap == bp) = false := by simpa using h2
      rw [e]; clear e
      go_enter Try.func48, Try.ntmps48
      go_wp2_with fail
      go_ret
      exact ⟨rfl, HB_0.out⟩
    case pos =>
      subst h2
      have e : bef ⟨at_, ap, an⟩ ⟨at_, ap, bn⟩ = decide (an < bn) := by unfold bef; rw [if_neg (by simp), if_neg (by simp)]
      rw [e]; clear e
      go_enter Try.func48, Try.ntmps48
      go_wp2_with fail
      go_ret
      exact ⟨rfl, HB_0.out⟩
end Go.Proofs.Ytbcgfohacbapoaa
