/- The contract of the reference's Valid. Condition: a string's length is an int's. -/
import Derived.Test.YtgpppjfgdbloiaaQPlus
import Derived.Test.YtgpppjfgdbloiaaValid
namespace Go.Proofs.Ytgpppjfgdbloiaa
open Go.RowKit Go.Lib

/-- The test behind the loop. -/
theorem okD_false {b : Bool} {L : List UInt8} (h : allD L = false) : okD b L = false := by
  unfold okD
  split
  · rfl
  · rename_i c R
    split
    · rfl
    · split
      · rename_i h2
        have h3 : ¬ (R.length = 0) := fun h4 => by
          have : R = [] := List.eq_nil_of_length_eq_zero h4
          subst this
          have h5 : allD [c] = true := allD_iff.2 (by intro d hd; simp at hd; subst hd; unfold IsD; omega)
          rw [h] at h5; cases h5
        simp [h3]
      · exact h
theorem okD_many {b : Bool} {L : List UInt8} (h : 200 < L.length) : okD b L = false := by
  unfold okD
  split
  · rfl
  · rw [if_pos (by simpa using h)]
theorem okD_front {b : Bool} {c : UInt8} {R : List UInt8} (h : c.toNat = 48) (hR : b = true ∨ R ≠ []) : okD b (c :: R) = false := by
  unfold okD
  simp only
  split
  · rfl
  · rcases hR with rfl | h2
    · simp
    · have : R.length ≠ 0 := fun h3 => h2 (List.eq_nil_of_length_eq_zero h3)
      simp [this]
theorem okD_yes {b : Bool} {c : UInt8} {R : List UInt8} (h : c.toNat ≠ 48) (hl : R.length + 1 ≤ 200) : okD b (c :: R) = allD (c :: R) := by
  unfold okD
  simp only
  rw [if_neg (by omega), if_neg h]
theorem list48 {R : List UInt8} {c : UInt8} : ((c :: R) = [48]) ↔ (c.toNat = 48 ∧ R = []) := by
  rw [List.cons_eq_cons]
  constructor
  · rintro ⟨rfl, h⟩; exact ⟨rfl, h⟩
  · rintro ⟨h, h2⟩; exact ⟨UInt8.toNat_inj.1 (by rw [h]; rfl), h2⟩

theorem is48 (r : ByteArray) (b : Bool) (h : b = decide (r.data.toList = [48])) : (r.toList == [48]) = b := by
  rw [h, toList_data, Bool.eq_iff_iff]; simp

set_option maxRecDepth 100000 in
set_option maxHeartbeats 2000000 in
theorem qvalid_any (s : ByteArray) (w : World) (hs : s.size ≤ 9000000000000000000) : Calls Try.prog 30 #[.string s] w fun e w' => e = .returned (.bool (validB s.data.toList)) ∧ ∃ k, w' = w.drewN k := by
  by_cases h0 : s.size = 0
  · obtain rfl : s = ⟨#[]⟩ := by
      have : s.data.toList = [] := by rw [← List.length_eq_zero_iff]; exact h0
      rw [← bs_self s, this]; rfl
    have hv : validB (⟨#[]⟩ : ByteArray).data.toList = false := rfl
    rw [hv]
    clear hs h0 hv
    go_enter Try.func30, Try.ntmps30
    go_wp2
    go_loop [3] (fun i => i = .int .i64 0) (fun _ => 0)
    case atStart => rfl
    case round =>
      subst hrel
      go_wp2
      go_ret
      exact ⟨rfl, 0, rfl⟩
  · have hp : 0 < s.size := by omega
    have h1 : s.toList ≠ [] := by rw [toList_data, ne_eq, ← List.length_eq_zero_iff]; exact h0
    have h2 : (!s.toList.isEmpty) = true := by simp [h1]
    have hL : s.data.toList = s[0] :: s.data.toList.tail := by
      cases hq : s.data.toList with
      | nil => rw [← List.length_eq_zero_iff] at hq; exact absurd hq h0
      | cons c R =>
        have : s[0] = c := by
          have h4 : s[0] = s.data.toList[0]'(by rw [hq]; simp) := rfl
          rw [h4]; simp [hq]
        rw [this]; rfl
    by_cases hc : s[0] = 45
    · have h3 : ((s[0].toNat : Int) == 45) = true := by rw [hc]; rfl
      have hcb : cutB s.data.toList = true := by rw [hL, hc]; rfl
      have hcr : bs (cutR s.data.toList) = s.extract 1 s.size := by
        rw [extract_eq]
        have : cutR s.data.toList = s.data.toList.tail := by rw [hL, hc]; rfl
        rw [this, ← List.drop_one, List.take_of_length_le (by rw [List.length_drop, size_eq]; exact Nat.le_refl _)]; rfl
      have hsl := fun w => run_slice_string_l (P := Try.prog) w 9 s Try.underlying9 .i64 1 (by omega) (by omega)
      rw [show (1 : Int).toNat = 1 from rfl] at hsl
      have hbv : validB s.data.toList = okD true (bs (cutR s.data.toList)).data.toList := by unfold validB; rw [hcb]; rfl
      rw [hcr] at hbv
      have hrs : (s.extract 1 s.size).size ≤ s.size := by rw [← hcr, bs_size, size_eq]; exact cutR_le _
      obtain ⟨r, hr⟩ : ∃ r, r = s.extract 1 s.size := ⟨_, rfl⟩
      rw [← hr] at hbv hsl hrs
      obtain ⟨v, hv⟩ : ∃ v, v = validB s.data.toList := ⟨_, rfl⟩
      rw [← hv] at hbv ⊢
      have HV := Lib.hid hbv
      clear hv hr hcr hcb hL hc hbv h0
      by_cases hz : r.data.toList = [48]
      · have ht : (r.toList == [48]) = true := is48 _ _ (by rw [hz]; rfl)
        obtain rfl : v = false := HV.out.trans (by rw [hz]; rfl)
        clear hz
        go_enter Try.func30, Try.ntmps30
        go_wp2
        go_ret
        exact ⟨rfl, 0, rfl⟩
      · have ht : (r.toList == [48]) = false := is48 _ _ (by symm; rw [decide_eq_false_iff_not]; exact hz)
        have HN := Lib.hid hz
        clear hz
        have hs3 : r.size ≤ 9000000000000000000 := by omega
        go_enter Try.func30, Try.ntmps30
        go_wp2
        clear hsl ht
        go_loop [3] (fun i => ∃ k : Nat, k ≤ r.size ∧ i = .int .i64 k ∧ Hid (∀ j (h : j < k) (h2 : j < r.size), IsD r[j])) (fun i => r.size - (intOf i).toNat)
        case atStart => exact ⟨0, Nat.zero_le _, rfl, fun j h => absurd h (Nat.not_lt_zero _)⟩
        case round =>
          obtain ⟨k, hk, rfl, HK⟩ := hrel
          by_cases hlt : k < r.size
          · by_cases hd : IsD r[k]
            · have HK2 : Hid (∀ j (h : j < k + 1) (h2 : j < r.size), IsD r[j]) := fun j h h2 => by
                rcases Nat.lt_succ_iff_lt_or_eq.1 h with h3 | h3
                · exact HK.out j h3 h2
                · subst h3; exact hd
              unfold IsD at hd
              obtain ⟨d1, d2⟩ := hd
              have d3 : (48 : Int) ≤ (r[k].toNat : Int) := by omega
              have d4 : (r[k].toNat : Int) ≤ 57 := by omega
              go_wp2
              go_round
              case rel => exact ⟨k + 1, by omega, by go_num, HK2⟩
              case measure => simp [intOf]; omega
            · have hf := all_false hlt hd
              unfold IsD at hd
              obtain rfl : v = false := HV.out.trans (okD_false hf)
              rcases Nat.lt_or_ge r[k].toNat 48 with h | h
              · have d3 : (r[k].toNat : Int) < 48 := by omega
                clear hf hd HK
                go_wp2
                go_ret
                exact ⟨rfl, 0, rfl⟩
              · have d3 : (48 : Int) ≤ (r[k].toNat : Int) := by omega
                have d4 : (57 : Int) < (r[k].toNat : Int) := by omega
                clear hf hd HK
                go_wp2
                go_ret
                exact ⟨rfl, 0, rfl⟩
          · have ht : allD r.data.toList = true := by
              rw [allD_iff]
              intro c hc
              obtain ⟨i, hi, rfl⟩ := List.mem_iff_getElem.1 hc
              exact HK.out i (by rw [← size_eq] at hi; omega) (by rw [← size_eq] at hi; omega)
            have hsz := size_eq r
            rcases Nat.eq_zero_or_pos r.size with z0 | z0
            · have z1 : ¬ (0 : Int) < (r.size : Int) := by omega
              obtain rfl : v = false := HV.out.trans (by
                rw [z0] at hsz
                rw [List.eq_nil_of_length_eq_zero hsz.symm]; rfl)
              clear ht HK hsz
              go_wp2
              go_ret
              exact ⟨rfl, 0, rfl⟩
            · have z1 : (0 : Int) < (r.size : Int) := by omega
              obtain ⟨R, hR, hRl⟩ := head_at z0
              rcases Nat.lt_or_ge 200 r.size with z2 | z2
              · have z3 : ¬ (r.size : Int) ≤ 200 := by omega
                obtain rfl : v = false := HV.out.trans (okD_many (by rw [← hsz]; exact z2))
                clear ht HK hsz hR hRl
                go_wp2
                go_ret
                exact ⟨rfl, 0, rfl⟩
              · have z3 : (r.size : Int) ≤ 200 := by omega
                by_cases z4 : r[0].toNat = 48
                · have z5 : ((r[0].toNat : Int) == 48) = true := by rw [z4]; rfl
                  have z9 : ((r[0].toNat : Int) != 48) = false := by rw [bne, z5]; rfl
                  by_cases z6 : R = []
                  · exact absurd (by rw [hR, z6, list48]; exact ⟨z4, rfl⟩) HN.out
                  · have z8 : (r.toList == [48]) = false := is48 _ _ (by
                      rw [hR]; symm; rw [decide_eq_false_iff_not, list48]; exact fun h => z6 h.2)
                    obtain rfl : v = false := HV.out.trans (by rw [hR]; exact okD_front z4 (.inr z6))
                    clear ht HK hsz hR hRl z4 z6 z5
                    go_wp2
                    go_ret
                    exact ⟨rfl, 0, rfl⟩
                · have z5 : ((r[0].toNat : Int) == 48) = false := by rw [beq_eq_false_iff_ne]; omega
                  have z9 : ((r[0].toNat : Int) != 48) = true := by rw [bne, z5]; rfl
                  have z8 : (r.toList == [48]) = false := is48 _ _ (by
                    rw [hR]; symm; rw [decide_eq_false_iff_not, list48]; exact fun h => z4 h.1)
                  obtain rfl : v = true := HV.out.trans (by rw [hR, okD_yes z4 (by omega), ← hR]; exact ht)
                  clear ht HK hsz hR hRl z4 z5
                  go_wp2
                  go_ret
                  exact ⟨rfl, 0, rfl⟩
    · have h3 : ((s[0].toNat : Int) == 45) = false := by
        rw [beq_eq_false_iff_ne]; intro h; exact hc (UInt8.toNat_inj.1 (show s[0].toNat = (45 : UInt8).toNat from Int.ofNat.inj h))
      have hcb : cutB s.data.toList = false := by
        rw [hL]; unfold cutB; split
        · rename_i h; injection h with h _; exact absurd h hc
        · rfl
      have hcr : cutR s.data.toList = s.data.toList := by
        rw [hL]; unfold cutR; split
        · rename_i h; injection h with h _; exact absurd h hc
        · rfl
      have hbv : validB s.data.toList = okD false s.data.toList := by unfold validB; rw [hcb, hcr]
      obtain ⟨v, hv⟩ : ∃ v, v = validB s.data.toList := ⟨_, rfl⟩
      rw [← hv] at hbv ⊢
      have HV := Lib.hid hbv
      clear hv hcr hcb hL hc hbv h0
      go_enter Try.func30, Try.ntmps30
      go_wp2
      clear h1 h2 h3
      obtain ⟨r, hr⟩ : ∃ r, r = s := ⟨_, rfl⟩
      subst hr
      go_loop [3] (fun i => ∃ k : Nat, k ≤ r.size ∧ i = .int .i64 k ∧ Hid (∀ j (h : j < k) (h2 : j < r.size), IsD r[j])) (fun i => r.size - (intOf i).toNat)
      case atStart => exact ⟨0, Nat.zero_le _, rfl, fun j h => absurd h (Nat.not_lt_zero _)⟩
      case round =>
        obtain ⟨k, hk, rfl, HK⟩ := hrel
        by_cases hlt : k < r.size
        · by_cases hd : IsD r[k]
          · have HK2 : Hid (∀ j (h : j < k + 1) (h2 : j < r.size), IsD r[j]) := fun j h h2 => by
              rcases Nat.lt_succ_iff_lt_or_eq.1 h with h3 | h3
              · exact HK.out j h3 h2
              · subst h3; exact hd
            unfold IsD at hd
            obtain ⟨d1, d2⟩ := hd
            have d3 : (48 : Int) ≤ (r[k].toNat : Int) := by omega
            have d4 : (r[k].toNat : Int) ≤ 57 := by omega
            go_wp2
            go_round
            case rel => exact ⟨k + 1, by omega, by go_num, HK2⟩
            case measure => simp [intOf]; omega
          · have hf := all_false hlt hd
            unfold IsD at hd
            obtain rfl : v = false := HV.out.trans (okD_false hf)
            rcases Nat.lt_or_ge r[k].toNat 48 with h | h
            · have d3 : (r[k].toNat : Int) < 48 := by omega
              clear hf hd HK
              go_wp2
              go_ret
              exact ⟨rfl, 0, rfl⟩
            · have d3 : (48 : Int) ≤ (r[k].toNat : Int) := by omega
              have d4 : (57 : Int) < (r[k].toNat : Int) := by omega
              clear hf hd HK
              go_wp2
              go_ret
              exact ⟨rfl, 0, rfl⟩
        · have ht : allD r.data.toList = true := by
            rw [allD_iff]
            intro c hc
            obtain ⟨i, hi, rfl⟩ := List.mem_iff_getElem.1 hc
            exact HK.out i (by rw [← size_eq] at hi; omega) (by rw [← size_eq] at hi; omega)
          have hsz := size_eq r
          rcases Nat.eq_zero_or_pos r.size with z0 | z0
          · exact absurd z0 (by omega)
          · have z1 : (0 : Int) < (r.size : Int) := by omega
            obtain ⟨R, hR, hRl⟩ := head_at z0
            rcases Nat.lt_or_ge 200 r.size with z2 | z2
            · have z3 : ¬ (r.size : Int) ≤ 200 := by omega
              obtain rfl : v = false := HV.out.trans (okD_many (by rw [← hsz]; exact z2))
              clear ht HK hsz hR hRl
              go_wp2
              go_ret
              exact ⟨rfl, 0, rfl⟩
            · have z3 : (r.size : Int) ≤ 200 := by omega
              by_cases z4 : r[0].toNat = 48
              · have z5 : ((r[0].toNat : Int) == 48) = true := by rw [z4]; rfl
                have z9 : ((r[0].toNat : Int) != 48) = false := by rw [bne, z5]; rfl
                by_cases z6 : R = []
                · have z8 : (r.toList == [48]) = true := is48 _ _ (by
                    rw [hR]; symm; rw [decide_eq_true_eq, list48]; exact ⟨z4, z6⟩)
                  obtain rfl : v = true := HV.out.trans (by rw [hR, z6, show r[0] = 48 from UInt8.toNat_inj.1 (by rw [z4]; rfl)]; rfl)
                  clear ht HK hsz hR hRl z4 z6 z5
                  go_wp2
                  go_ret
                  exact ⟨rfl, 0, rfl⟩
                · have z8 : (r.toList == [48]) = false := is48 _ _ (by
                    rw [hR]; symm; rw [decide_eq_false_iff_not, list48]; exact fun h => z6 h.2)
                  obtain rfl : v = false := HV.out.trans (by rw [hR]; exact okD_front z4 (.inr z6))
                  clear ht HK hsz hR hRl z4 z6 z5
                  go_wp2
                  go_ret
                  exact ⟨rfl, 0, rfl⟩
              · have z5 : ((r[0].toNat : Int) == 48) = false := by rw [beq_eq_false_iff_ne]; omega
                have z9 : ((r[0].toNat : Int) != 48) = true := by rw [bne, z5]; rfl
                have z8 : (r.toList == [48]) = false := is48 _ _ (by
                  rw [hR]; symm; rw [decide_eq_false_iff_not, list48]; exact fun h => z4 h.1)
                obtain rfl : v = true := HV.out.trans (by rw [hR, okD_yes z4 (by omega), ← hR]; exact ht)
                clear ht HK hsz hR hRl z4 z5
                go_wp2
                go_ret
                exact ⟨rfl, 0, rfl⟩
end Go.Proofs.Ytgpppjfgdbloiaa
