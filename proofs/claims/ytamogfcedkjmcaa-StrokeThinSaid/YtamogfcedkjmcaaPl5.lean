
/- The contracts of small functions on places and numbers: Place, At, size, square, pick. Conditions: ints. -/
import Derived.Test.YtamogfcedkjmcaaDt5
import Derived.BigQuiet
namespace Go.Proofs.Ytamogfcedkjmcaa
open Go.RowKit Go.Lib


set_option maxRecDepth 100000 in
set_option maxHeartbeats 1000000 in
theorem rplace_any (x y : Int) (w : World) :
    Calls Try.prog 49 #[.agg #[.int .i64 x, .int .i64 y]] w fun e w' => e = .returned (.bool (OnB x y)) ∧ Below w.heap.size w w' := by
  have HB : Hid (Below w.heap.size w (w.alloc (.cells #[.int .i64 x, .int .i64 y] 29))) := (Below.refl _ _).alloc (Nat.le_refl _) _
  have c0 := (Blk.new w 29 #[.int .i64 x, .int .i64 y]).cell (i := 0) rfl
  have c1 := (Blk.new w 29 #[.int .i64 x, .int .i64 y]).cell (i := 1) rfl
  by_cases h1 : 0 ≤ x
  · by_cases h2 : x ≤ 4095
    · by_cases h3 : 0 ≤ y
      · by_cases h4 : y ≤ 4095
        · have e : OnB x y = true := by unfold OnB; simp; omega
          rw [e]
          go_enter Try.func49, Try.ntmps49
          go_wp2_with fail
          go_ret
          exact ⟨rfl, HB.out⟩
        · have e : OnB x y = false := by unfold OnB; simp; omega
          rw [e]
          go_enter Try.func49, Try.ntmps49
          go_wp2_with fail
          go_ret
          exact ⟨rfl, HB.out⟩
      · have e : OnB x y = false := by unfold OnB; simp; omega
        rw [e]
        go_enter Try.func49, Try.ntmps49
        go_wp2_with fail
        go_ret
        exact ⟨rfl, HB.out⟩
    · have e : OnB x y = false := by unfold OnB; simp; omega
      rw [e]
      go_enter Try.func49, Try.ntmps49
      go_wp2_with fail
      go_ret
      exact ⟨rfl, HB.out⟩
  · have e : OnB x y = false := by unfold OnB; simp; omega
    rw [e]
    go_enter Try.func49, Try.ntmps49
    go_wp2_with fail
    go_ret
    exact ⟨rfl, HB.out⟩
theorem rplace_yes (x y : Int) (w : World) (h : 0 ≤ x ∧ x ≤ 4095 ∧ 0 ≤ y ∧ y ≤ 4095) :
    Calls Try.prog 49 #[.agg #[.int .i64 x, .int .i64 y]] w fun e w' => e = .returned (.bool true) ∧ Below w.heap.size w w' := by
  have := rplace_any x y w
  rwa [show OnB x y = true from decide_eq_true h] at this
theorem rplace_no (x y : Int) (w : World) (h : ¬ (0 ≤ x ∧ x ≤ 4095 ∧ 0 ≤ y ∧ y ≤ 4095)) :
    Calls Try.prog 49 #[.agg #[.int .i64 x, .int .i64 y]] w fun e w' => e = .returned (.bool false) ∧ Below w.heap.size w w' := by
  have := rplace_any x y w
  rwa [show OnB x y = false from decide_eq_false h] at this
end Go.Proofs.Ytamogfcedkjmcaa
