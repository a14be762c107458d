/- The contracts of the reference's PutString and String: they return what the program's own do. Condition: the string is no longer than Go's strings can be. -/
import Derived.Test.YtolpkbjbklcdgaaDoorRef
namespace Go.Proofs.YtolpkbjbklcdgaaDoor
open Go.RowKit Go.Lib

theorem refputstring_any (s : ByteArray) (w : World) (hs : s.size ≤ maxLen) :
    Calls Tryd.prog 20 #[.string s] w fun e w' => e = .returned (.tuple #[.string (putSS s), .int .i64 (putSE s)]) ∧ Below w.heap.size w w' := by
  unfold putSS putSE
  unfold maxLen at hs
  by_cases h : s.size ≤ 65536
  · rw [if_pos h, if_pos h]
    have hlen : (⟨(enc s.size).toArray⟩ : ByteArray).size ≤ 9 := enc_length (by unfold okI; omega)
    obtain ⟨p, hp⟩ : ∃ p : ByteArray, p = ⟨(enc s.size).toArray⟩ := ⟨_, rfl⟩
    have hcall := refputint_ok s.size w (by omega) (by omega)
    rw [← hp] at hlen hcall ⊢
    have HC := Lib.hid hcall; clear hcall hp
    go_enter Tryd.func20, Tryd.ntmps20
    go_wp2_with (go_at_call 13; refine HC.out.mono ?_; rintro e w' ⟨rfl, hb⟩)
    go_ret2
    exact ⟨rfl, hb⟩
  · rw [if_neg h, if_neg h]
    go_enter Tryd.func20, Tryd.ntmps20
    go_wp2
    go_ret2
    exact ⟨rfl, Below.refl _ _⟩

theorem refstring_out (s : ByteArray) (a : Int) (w : World) (h : ¬ (0 ≤ a ∧ a ≤ s.size)) :
    Calls Tryd.prog 18 #[.string s, .int .i64 a] w fun e w' => e = .returned (.tuple #[.string ⟨#[]⟩, .int .i64 0, .int .i64 2]) ∧ Below w.heap.size w w' := by
  have HC := Lib.hid (refint_out s a w h); clear h
  go_enter Tryd.func18, Tryd.ntmps18
  go_wp2_with (go_at_call 16; refine HC.out.mono ?_; rintro e w' ⟨rfl, hb⟩)
  go_ret3
  exact ⟨rfl, hb⟩

theorem refstring_any (s : ByteArray) (k : Nat) (w : World) (hs : s.size ≤ maxLen) (hk : k ≤ s.size) :
    Calls Tryd.prog 18 #[.string s, .int .i64 k] w fun e w' => e = strV s k (decS (s.data.toList.drop k)) ∧ Below w.heap.size w w' := by
  have hc := refint_any s k w hs hk
  have hm : s.size ≤ 9223372036854775807 := by unfold maxLen at hs; omega
  have hll : (s.data.toList.drop k).length = s.size - k := by rw [List.length_drop]; rfl
  rcases h : dec (s.data.toList.drop k) with _ | ⟨n, j⟩
  · have hd : decS (s.data.toList.drop k) = none := by unfold decS; rw [h]
    rw [h] at hc
    dsimp only [intV] at hc
    rw [hd]
    have HC := Lib.hid hc; clear hc h hd hll
    go_enter Tryd.func18, Tryd.ntmps18
    go_wp2_with (go_at_call 16; refine HC.out.mono ?_; rintro e w' ⟨rfl, hb⟩)
    go_ret3
    exact ⟨rfl, hb⟩
  · have hj : k + j ≤ s.size := by
      obtain ⟨_, r, hl, hj⟩ := dec_sound h
      have h2 := congrArg List.length hl
      rw [hll, List.length_append] at h2
      omega
    have hokI := (dec_sound h).1
    unfold okI at hokI
    rw [h] at hc
    dsimp only [intV] at hc
    by_cases h3 : 0 ≤ n ∧ n ≤ 65536 ∧ n ≤ ((s.data.toList.drop k).length : Int) - j
    · have hd : decS (s.data.toList.drop k) = some (n.toNat, j) := by unfold decS; rw [h]; simp only; rw [if_pos h3]
      rw [hd]
      rw [hll] at h3
      obtain ⟨m, rfl⟩ := Int.eq_ofNat_of_zero_le h3.1
      have hm1 : k + j + m ≤ s.size := by omega
      have hm2 : m ≤ 65536 := by omega
      have hsl := fun w => run_slice_str (P := Tryd.prog) 9 Tryd.underlying9 s (x := (k : Int) + j) (y := (k : Int) + j + m) (k + j) (k + j + m) (by omega) (by omega) (by omega) hm1 w
      have HC := Lib.hid hc; clear hc h hd hll h3
      go_enter Tryd.func18, Tryd.ntmps18
      go_wp2_with (go_at_call 16; refine HC.out.mono ?_; rintro e w' ⟨rfl, hb⟩)
      go_ret3
      exact ⟨rfl, hb⟩
    · have hd : decS (s.data.toList.drop k) = none := by unfold decS; rw [h]; simp only; rw [if_neg h3]
      rw [hd]
      rw [hll] at h3
      have h3' : n < 0 ∨ 65536 < n ∨ ((s.size : Int) - (k + j) < n) := by omega
      have HC := Lib.hid hc; clear hc h hd hll h3
      by_cases hn0 : n < 0
      · go_enter Tryd.func18, Tryd.ntmps18
        go_wp2_with (go_at_call 16; refine HC.out.mono ?_; rintro e w' ⟨rfl, hb⟩)
        go_ret3
        exact ⟨rfl, hb⟩
      · by_cases hn1 : 65536 < n
        · go_enter Tryd.func18, Tryd.ntmps18
          go_wp2_with (go_at_call 16; refine HC.out.mono ?_; rintro e w' ⟨rfl, hb⟩)
          go_ret3
          exact ⟨rfl, hb⟩
        · have hn2 : (s.size : Int) - (k + j) < n := by omega
          clear h3'
          go_enter Tryd.func18, Tryd.ntmps18
          go_wp2_with (go_at_call 16; refine HC.out.mono ?_; rintro e w' ⟨rfl, hb⟩)
          go_ret3
          exact ⟨rfl, hb⟩
end Go.Proofs.YtolpkbjbklcdgaaDoor
