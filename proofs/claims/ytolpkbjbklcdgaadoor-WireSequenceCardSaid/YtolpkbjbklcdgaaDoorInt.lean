/- The contracts of isOffset, Int, PutString and String: what they return for every string and offset; nothing that lay in memory has changed. Condition: the string is no longer than Go's strings can be. -/
import Derived.Test.YtolpkbjbklcdgaaDoorJoin
import Derived.Test.YtolpkbjbklcdgaaDoorPutInt
import Derived.Deep.QuietTactic
import Derived.BigQuiet
namespace Go.Proofs.YtolpkbjbklcdgaaDoor
open Go.RowKit Go.Lib

theorem isOffset_any (s : ByteArray) (a : Int) (w : World) :
    Calls Tryd.prog 26 #[.string s, .int .i64 a] w fun e w' => e = .returned (.bool (decide (0 ≤ a) && decide (a ≤ s.size))) ∧ w = w' := by
  by_cases h1 : 0 ≤ a
  · go_enter Tryd.func26, Tryd.ntmps26
    go_wp2
    go_ret
    exact ⟨by simp [h1], rfl⟩
  · go_enter Tryd.func26, Tryd.ntmps26
    go_wp2
    go_ret
    exact ⟨by simp; omega, rfl⟩

/-- What Int returns. -/
def intV (k : Nat) : Option (Int × Nat) → Ending
  | some (n, j) => .returned (.tuple #[.int .i64 n, .int .i64 (k + j), .int .i64 0])
  | none => .returned (.tuple #[.int .i64 0, .int .i64 0, .int .i64 10])

theorem int_out (s : ByteArray) (a : Int) (w : World) (h : ¬ (0 ≤ a ∧ a ≤ s.size)) :
    Calls Tryd.prog 15 #[.string s, .int .i64 a] w fun e w' => e = .returned (.tuple #[.int .i64 0, .int .i64 0, .int .i64 2]) ∧ w = w' := by
  have hd : (decide (0 ≤ a) && decide (a ≤ s.size)) = false := by
    rw [← Bool.decide_and]; simpa using h
  have hc := isOffset_any s a w
  rw [hd] at hc
  have HC := Lib.hid hc; clear hc hd h
  go_enter Tryd.func15, Tryd.ntmps15
  go_wp2_with (go_at_call 26; refine HC.out.mono ?_; rintro e w' ⟨rfl, rfl⟩)
  go_ret3
  exact ⟨rfl, rfl⟩

theorem int_any (s : ByteArray) (k : Nat) (w : World) (hs : s.size ≤ maxLen) (hk : k ≤ s.size) :
    Calls Tryd.prog 15 #[.string s, .int .i64 k] w fun e w' => e = intV k (dec (s.data.toList.drop k)) ∧ w = w' := by
  have hc := isOffset_any s k w
  rw [show (decide (0 ≤ (k : Int)) && decide ((k : Int) ≤ s.size)) = true from by simp; omega] at hc
  have hj := joinGroups_any s k w hs hk
  have hm : s.size ≤ 9223372036854775807 := by unfold maxLen at hs; omega
  have hn : ∀ z n, join 9 0 0 (s.data.toList.drop k) = some (z, n, true) → k + n ≤ s.size := by
    intro z n h
    obtain ⟨x, r, hl, _, hn, _, _⟩ := join_sound 9 0 0 _ z n h
    have h2 := congrArg List.length hl
    rw [List.length_drop, List.length_append] at h2
    have : s.data.toList.length = s.size := rfl
    omega
  rcases h : join 9 0 0 (s.data.toList.drop k) with _ | ⟨z, n, ok⟩
  · have hd : dec (s.data.toList.drop k) = none := by unfold dec; rw [h]
    rw [h] at hj
    dsimp only [joinV] at hj
    rw [hd]
    have HC := Lib.hid hc; have HJ := Lib.hid hj; clear hc hj h hd hn
    go_enter Tryd.func15, Tryd.ntmps15
    go_wp2_with (first
      | (go_at_call 26; refine HC.out.mono ?_; rintro e w' ⟨rfl, rfl⟩)
      | (go_at_call 27; refine HJ.out.mono ?_; rintro e w' ⟨rfl, rfl⟩))
    go_ret3
    exact ⟨rfl, rfl⟩
  · have hn := hn z n
    rw [h] at hj
    dsimp only [joinV] at hj
    cases ok
    · have hd : dec (s.data.toList.drop k) = none := by unfold dec; rw [h]
      rw [hd]
      have HC := Lib.hid hc; have HJ := Lib.hid hj; clear hc hj h hd hn
      go_enter Tryd.func15, Tryd.ntmps15
      go_wp2_with (first
        | (go_at_call 26; refine HC.out.mono ?_; rintro e w' ⟨rfl, rfl⟩)
        | (go_at_call 27; refine HJ.out.mono ?_; rintro e w' ⟨rfl, rfl⟩))
      go_ret3
      exact ⟨rfl, rfl⟩
    · have hn := hn h
      by_cases hz : z ≤ 9223372036854775806
      · have hd : dec (s.data.toList.drop k) = some (unzigzag z, n) := by unfold dec; rw [h]; simp [hz]
        rw [hd]
        have HC := Lib.hid hc; have HJ := Lib.hid hj; clear hc hj h hd
        go_enter Tryd.func15, Tryd.ntmps15
        go_wp2_with (first
          | (go_at_call 26; refine HC.out.mono ?_; rintro e w' ⟨rfl, rfl⟩)
          | (go_at_call 27; refine HJ.out.mono ?_; rintro e w' ⟨rfl, rfl⟩)
          | (go_at_call 28; refine (unfold_any z _ hz).mono ?_; rintro e w' ⟨rfl, rfl⟩))
        go_ret3
        exact ⟨rfl, rfl⟩
      · have hd : dec (s.data.toList.drop k) = none := by unfold dec; rw [h]; simp [hz]
        rw [hd]
        have HC := Lib.hid hc; have HJ := Lib.hid hj; clear hc hj h hd
        go_enter Tryd.func15, Tryd.ntmps15
        go_wp2_with (first
          | (go_at_call 26; refine HC.out.mono ?_; rintro e w' ⟨rfl, rfl⟩)
          | (go_at_call 27; refine HJ.out.mono ?_; rintro e w' ⟨rfl, rfl⟩))
        go_ret3
        exact ⟨rfl, rfl⟩
end Go.Proofs.YtolpkbjbklcdgaaDoor
