/- The contract of Valid. Condition: a string's length is an int's. -/
import Derived.Test.YtgpppjfgdbloiaaCutS
namespace Go.Proofs.Ytgpppjfgdbloiaa
open Go.RowKit Go.Lib

theorem cutR_le (L : List UInt8) : (cutR L).length ≤ L.length := by unfold cutR; split <;> simp
theorem head_at {r : ByteArray} (h0 : 0 < r.size) : ∃ R, r.data.toList = r[0] :: R ∧ R.length + 1 = r.size := by
  have hs := size_eq r
  cases hq : r.data.toList with
  | nil => rw [hq, List.length_nil] at hs; omega
  | cons c R =>
    have h4 : r[0] = r.data.toList[0]'(by rw [hq]; simp) := rfl
    refine ⟨R, ?_, by rw [hs, hq, List.length_cons]⟩
    rw [h4]; simp [hq]
set_option maxRecDepth 100000 in
set_option maxHeartbeats 1000000 in
theorem valid_any (s : ByteArray) (w : World) (hs : s.size ≤ 9000000000000000000) : Calls Try.prog 29 #[.string s] w fun e w' => e = .returned (.bool (validB s.data.toList)) ∧ ∃ k, w' = w.drewN k := by
  have hcs := cutSign_any s w hs
  have hle := cutR_le s.data.toList
  rw [← size_eq, ← bs_size] at hle
  unfold validB OutCut at *
  have hd : (bs (cutR s.data.toList)).data.toList = cutR s.data.toList := rfl
  rw [← hd]
  obtain ⟨r, hr⟩ : ∃ r, r = bs (cutR s.data.toList) := ⟨_, rfl⟩
  obtain ⟨b, hb⟩ : ∃ b, b = cutB s.data.toList := ⟨_, rfl⟩
  rw [← hr, ← hb] at hcs ⊢
  rw [← hr] at hle
  have HC := Lib.hid hcs
  obtain ⟨v, hv⟩ : ∃ v, v = okD b r.data.toList := ⟨_, rfl⟩
  rw [← hv]
  clear hcs hd hr hb
  by_cases h0 : r.size = 0
  · obtain rfl : r = ⟨#[]⟩ := by
      have : r.data.toList = [] := by rw [← List.length_eq_zero_iff]; exact h0
      rw [← bs_self r, this]; rfl
    obtain rfl : v = false := hv
    clear h0 hle
    go_enter Try.func29, Try.ntmps29
    go_wp2_with fail
    refine HC.out.mono ?_
    rintro e w1 ⟨rfl, k, rfl⟩
    go_wp2_with fail
    go_ret
    exact ⟨rfl, k, rfl⟩
  · have hp : 0 < r.size := by omega
    have h1 : r.toList ≠ [] := by rw [toList_data, ne_eq, ← List.length_eq_zero_iff]; exact h0
    have h2 : r.toList.isEmpty = false := by simp [h1]
    obtain ⟨R, hR, hRl⟩ := head_at hp
    unfold okD at hv
    rw [hR] at hv
    simp only [hRl] at hv
    by_cases h3 : 200 < r.size
    · rw [if_pos h3] at hv
      subst hv
      have h4 : (200 : Int) < (r.size : Int) := by omega
      clear hR hRl h0 h3
      go_enter Try.func29, Try.ntmps29
      go_wp2_with fail
      refine HC.out.mono ?_
      rintro e w1 ⟨rfl, k, rfl⟩
      go_wp2_with fail
      go_ret
      exact ⟨rfl, k, rfl⟩
    · rw [if_neg h3] at hv
      have h4 : (r.size : Int) ≤ 200 := by omega
      by_cases h5 : r[0].toNat = 48
      · rw [if_pos h5] at hv
        have h6 : ((r[0].toNat : Int) == 48) = true := by rw [h5]; rfl
        have h7 : ((r.size : Int) == 1) = (R.length == 0) := by rw [Bool.eq_iff_iff, beq_iff_eq, beq_iff_eq]; omega
        obtain ⟨q, hq⟩ : ∃ q, q = (R.length == 0) := ⟨_, rfl⟩
        rw [← hq] at h7 hv
        clear hR hRl h0 h3 h5 hq
        cases q
        · obtain rfl : v = false := by rw [hv]; rfl
          clear hv
          go_enter Try.func29, Try.ntmps29
          go_wp2_with fail
          refine HC.out.mono ?_
          rintro e w1 ⟨rfl, k, rfl⟩
          go_wp2_with fail
          go_ret
          exact ⟨rfl, k, rfl⟩
        · obtain rfl : v = !b := by rw [hv]; rfl
          clear hv
          cases b
          all_goals
            go_enter Try.func29, Try.ntmps29
            go_wp2_with fail
            refine HC.out.mono ?_
            rintro e w1 ⟨rfl, k, rfl⟩
            go_wp2_with fail
            go_ret
            exact ⟨rfl, k, rfl⟩
      · rw [if_neg h5, ← hR] at hv
        have h6 : ((r[0].toNat : Int) == 48) = false := by rw [beq_eq_false_iff_ne]; omega
        have ha := fun w => alldec_any r w (by omega)
        rw [← hv] at ha
        have HA := Lib.hid ha
        clear ha hv hR hRl h0 h3 h5
        go_enter Try.func29, Try.ntmps29
        go_wp2_with fail
        refine HC.out.mono ?_
        rintro e w1 ⟨rfl, k, rfl⟩
        go_wp2_with fail
        refine (HA.out _).mono ?_
        rintro e w1 ⟨rfl, rfl⟩
        go_wp2_with fail
        go_ret
        exact ⟨rfl, k, rfl⟩
end Go.Proofs.Ytgpppjfgdbloiaa
