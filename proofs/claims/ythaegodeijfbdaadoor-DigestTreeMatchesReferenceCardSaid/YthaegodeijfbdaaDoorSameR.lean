/- The contract of the reference's Same. Conditions: the slices read, have at most 2^40 strings. -/
import Derived.Test.YthaegodeijfbdaaDoorVerify
namespace Go.Proofs.YthaegodeijfbdaaDoor
open Go.RowKit Go.Lib

set_option maxRecDepth 100000 in
set_option maxHeartbeats 1000000 in
theorem refSame_any (A1 : Option Addr) (n1 c1 : Nat) (L1 : List ByteArray) (A2 : Option Addr) (n2 c2 : Nat) (L2 : List ByteArray) (B1 B2 : Nat) (w : World) (h1 : Rd w B1 A1 n1 c1 L1) (h2 : Rd w B2 A2 n2 c2 L2) (l1 : n1 ≤ 1099511627776) (l2 : n2 ≤ 1099511627776) :
    Calls Tryd.prog 20 #[.slice A1 n1 c1, .slice A2 n2 c2] w fun e w' => e = .returned (.bool (decide (L1 = L2))) ∧ ∃ k, w' = w.drewN k := by
  have H1 := Lib.hid h1; have H2 := Lib.hid h2
  clear h1 h2
  by_cases hn : n1 = n2
  · subst hn
    have HD : Hid (n1 = L1.length ∧ n1 = L2.length) := ⟨H1.out.1, H2.out.1⟩
    go_enter Tryd.func20, Tryd.ntmps20
    go_wp2_with fail
    go_loopw [5] (fun ii wr => ∃ i : Nat, ii = .int .i64 i ∧ i ≤ n1 ∧ Hid (L1.take i = L2.take i) ∧ ∃ k, wr = w.drewN k) (fun ii _ => n1 - (intOf ii).toNat)
    case atStart => exact ⟨0, rfl, by omega, by show _ = _; simp, 0, rfl⟩
    case round =>
      obtain ⟨i, rfl, hi, HE, k, rfl⟩ := hrel
      by_cases hlt : i < n1
      · have e1 : i < L1.length := by have := HD.out.1; omega
        have e2 : i < L2.length := by have := HD.out.2; omega
        obtain ⟨b1, o1, rfl, hb1, k1⟩ := H1.out.2.2 (by omega)
        obtain ⟨b2, o2, rfl, hb2, k2⟩ := H2.out.2.2 (by omega)
        have hc1 : w.cell? ⟨b1, o1 + i, none⟩ = some (.string L1[i]) := k1 i e1
        have hc2 : w.cell? ⟨b2, o2 + i, none⟩ = some (.string L2[i]) := k2 i e2
        have q1 : (0 : Int) ≤ (i : Int) := by omega
        have q2 : (i : Int) < (n1 : Int) := by omega
        by_cases hxy : L1[i] = L2[i]
        · have HE2 : Hid (L1.take (i + 1) = L2.take (i + 1)) := by
            show _ = _
            rw [List.take_succ_eq_append_getElem e1, List.take_succ_eq_append_getElem e2, HE.out, hxy]
          rw [hxy] at hc1
          obtain ⟨y, hy⟩ : ∃ y, y = L2[i] := ⟨_, rfl⟩
          rw [← hy] at hc1 hc2
          have t2 : (y.toList != y.toList) = false := by simp
          clear hxy hy k1 k2 e1 e2
          go_wp2_with fail
          go_quiet (fail)
          go_wp2
          go_roundw
          case rel => exact ⟨i + 1, by go_num, by omega, HE2.out, _, rfl⟩
          case measure => simp [intOf]; omega
        · have HE2 : Hid (decide (L1 = L2) = false) := decide_eq_false fun h => hxy (by subst h; rfl)
          obtain ⟨x, hx⟩ : ∃ x, x = L1[i] := ⟨_, rfl⟩
          obtain ⟨y, hy⟩ : ∃ y, y = L2[i] := ⟨_, rfl⟩
          rw [← hx] at hc1 hxy
          rw [← hy] at hc2 hxy
          have t1 : (x.toList == y.toList) = false := by rw [str_beq]; exact decide_eq_false hxy
          have t2 : (x.toList != y.toList) = true := by rw [bne, t1]; rfl
          clear hxy hx hy k1 k2 e1 e2
          go_wp2_with fail
          go_quiet (fail)
          go_wp2
          go_ret
          exact ⟨by rw [HE2.out]; rfl, _, World.drewN_drewN _ _ _⟩
      · have HE2 : Hid (decide (L1 = L2) = true) := decide_eq_true (by
          have := HE.out
          rw [List.take_of_length_le (by have := HD.out.1; omega), List.take_of_length_le (by have := HD.out.2; omega)] at this
          exact this)
        go_wp2
        go_ret
        exact ⟨by rw [HE2.out]; rfl, _, rfl⟩
  · have HE2 : Hid (decide (L1 = L2) = false) := decide_eq_false fun h => hn (by rw [H1.out.1, H2.out.1, h])
    have t1 : ((n1 : Int) == (n2 : Int)) = false := by rw [beq_eq_false_iff_ne]; omega
    have t2 : ((n1 : Int) != (n2 : Int)) = true := by rw [bne, t1]; rfl
    clear hn
    go_enter Tryd.func20, Tryd.ntmps20
    go_wp2
    go_ret
    exact ⟨by rw [HE2.out]; rfl, 0, rfl⟩
end Go.Proofs.YthaegodeijfbdaaDoor
