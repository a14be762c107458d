/- The contract of the statements' helper collide. Conditions: the slices read and are short; the strings are no longer than 2^50 bytes; the table holds what its text says. -/
import Derived.Test.YtpnhaoegnglooaaDoorWay
namespace Go.Proofs.YtpnhaoegnglooaaDoor
open Go.RowKit Go.Lib

theorem collide_step {a b : List ByteArray} {i : Nat} (h1 : i < a.length) (h2 : i < b.length) : collideB (a.drop i) (b.drop i) = ((decide (a[i] ≠ b[i]) && decide (dg a[i].data.toList = dg b[i].data.toList)) || collideB (a.drop (i + 1)) (b.drop (i + 1))) := by
  rw [List.drop_eq_getElem_cons h1, List.drop_eq_getElem_cons h2, collideB]
theorem collide_end {a b : List ByteArray} {i : Nat} (h : a.length ≤ i ∨ b.length ≤ i) : collideB (a.drop i) (b.drop i) = false := by
  rcases h with h | h
  · rw [List.drop_of_length_le h]; rfl
  · rw [List.drop_of_length_le h]; cases a.drop i <;> rfl

set_option maxRecDepth 100000 in
set_option maxHeartbeats 1000000 in
theorem collide_any (A1 : Option Addr) (n1 c1 : Nat) (L1 : List ByteArray) (A2 : Option Addr) (n2 c2 : Nat) (L2 : List ByteArray) (w : World) (h1 : Rd w w.heap.size A1 n1 c1 L1) (h2 : Rd w w.heap.size A2 n2 c2 L2) (l1 : n1 ≤ 1000) (l2 : n2 ≤ 1000)
    (s1 : ∀ s ∈ L1, Small s) (s2 : ∀ s ∈ L2, Small s) (hT : Tab w) :
    Calls Tryd.prog 35 #[.slice A1 n1 c1, .slice A2 n2 c2] w fun e w' => e = .returned (.bool (collideB L1 L2)) ∧ Below w.heap.size w w' := by
  have N0 := Lib.hid (Now.start hT)
  have H1 := Lib.hid h1; have H2 := Lib.hid h2; have S1 := Lib.hid s1; have S2 := Lib.hid s2
  clear h1 h2 s1 s2 hT
  go_enter Tryd.func35, Tryd.ntmps35
  go_wp2_with fail
  go_loopw [5] (fun ii wr => ∃ i : Nat, ii = .int .i64 i ∧ i ≤ n1 ∧ i ≤ n2 ∧ Hid (collideB L1 L2 = collideB (L1.drop i) (L2.drop i)) ∧ Now w wr) (fun ii _ => n1 - (intOf ii).toNat)
  case atStart => exact ⟨0, rfl, by omega, by omega, rfl, N0.out⟩
  case round =>
    obtain ⟨i, rfl, hi1, hi2, HC, hN⟩ := hrel
    have N1 := Lib.hid hN
    clear hN
    by_cases hlt : i < n1 ∧ i < n2
    · obtain ⟨g1, g2⟩ := hlt
      have e1 : i < L1.length := by have := H1.out.1; omega
      have e2 : i < L2.length := by have := H2.out.1; omega
      obtain ⟨b1, o1, rfl, hb1, k1⟩ := H1.out.2.2 (by omega)
      obtain ⟨b2, o2, rfl, hb2, k2⟩ := H2.out.2.2 (by omega)
      have hc1 : wr.cell? ⟨b1, o1 + i, none⟩ = some (.string L1[i]) := (N1.out.1.cell (p := ⟨b1, o1 + i, none⟩) hb1).trans (k1 i e1)
      have hc2 : wr.cell? ⟨b2, o2 + i, none⟩ = some (.string L2[i]) := (N1.out.1.cell (p := ⟨b2, o2 + i, none⟩) hb2).trans (k2 i e2)
      have hb1' : b1 < wr.heap.size := Nat.lt_of_lt_of_le hb1 N1.out.size
      have hb2' : b2 < wr.heap.size := Nat.lt_of_lt_of_le hb2 N1.out.size
      have hst := collide_step e1 e2
      have hx1 := S1.out L1[i] (List.getElem_mem e1)
      have hx2 := S2.out L2[i] (List.getElem_mem e2)
      obtain ⟨x, hx⟩ : ∃ x, x = L1[i] := ⟨_, rfl⟩
      obtain ⟨y, hy⟩ : ∃ y, y = L2[i] := ⟨_, rfl⟩
      rw [← hx] at hst hc1 hx1
      rw [← hy] at hst hc2 hx2
      have HX1 := Lib.hid hx1; have HX2 := Lib.hid hx2
      have q1 : (0 : Int) ≤ (i : Int) := by omega
      have q2 : (i : Int) < (n1 : Int) := by omega
      have q3 : (i : Int) < (n2 : Int) := by omega
      clear hx hy k1 k2 hx1 hx2 e1 e2
      by_cases hxy : x = y
      · subst hxy
        rw [decide_eq_false (by simp), Bool.false_and, Bool.false_or] at hst
        have HC2 : Hid (collideB L1 L2 = collideB (L1.drop (i + 1)) (L2.drop (i + 1))) := HC.out.trans hst
        have t1 : (x.toList == x.toList) = true := by simp
        have t2 : (x.toList != x.toList) = false := by simp
        clear hst
        go_wp2_with fail
        go_quiet (fail)
        go_wp2
        go_roundw
        case rel => exact ⟨i + 1, by go_num, by omega, by omega, HC2.out, N1.out.drewN _⟩
        case measure => simp [intOf]; omega
      · rw [decide_eq_true (show x ≠ y from hxy), Bool.true_and] at hst
        have t1 : (x.toList == y.toList) = false := by rw [str_beq]; exact decide_eq_false hxy
        have t2 : (x.toList != y.toList) = true := by rw [bne, t1]; rfl
        have HK1 := Lib.hid fun W (h : Below wr.heap.size wr W) => (h.cell (p := ⟨b1, o1 + i, none⟩) hb1').trans hc1
        have HK2 := Lib.hid fun W (h : Below wr.heap.size wr W) => (h.cell (p := ⟨b2, o2 + i, none⟩) hb2').trans hc2
        have bK := (Below.refl wr.heap.size wr).drew
        by_cases hd : dg x.data.toList = dg y.data.toList
        · rw [decide_eq_true hd, Bool.true_or] at hst
          have HC2 : Hid (collideB L1 L2 = true) := HC.out.trans hst
          have t3 : ((dg x.data.toList).toList == (dg y.data.toList).toList) = true := by rw [str_beq]; exact decide_eq_true hd
          have HD := Lib.hid hd
          clear hst hxy hd
          go_wp2_with fail
          go_region_held3 (fun w' => w'.cell? ⟨b1, o1 + i, none⟩ = some (.string x) ∧ w'.cell? ⟨b2, o2 + i, none⟩ = some (.string y)) (exact ⟨HK1.out _ bK, HK2.out _ bK⟩)
            (first
              | (refine step_callg (by kernel_rfl) 13 [.tmp 31] #[9] rfl enters_Sum (sumB_any x _ HX1.out (N1.out.tab.below bK (Nat.le_refl _))) (by kernel_rfl) ?_; rintro e w1 ⟨rfl, hbx⟩; refine ⟨_, rfl, ?_⟩; have bK := bK.trans (hbx.mono bK.size))
              | (refine step_callg (by kernel_rfl) 13 [.tmp 36] #[9] rfl enters_Sum (sumB_any y _ HX2.out (N1.out.tab.below bK (Nat.le_refl _))) (by kernel_rfl) ?_; rintro e w2 ⟨rfl, hby⟩; refine ⟨_, rfl, ?_⟩; have bK := bK.trans (hby.mono bK.size)))
          all_goals
            have N2 := Lib.hid (N1.out.step bK)
            clear HK1 HK2 bK
            go_wp2
            go_ret
            exact ⟨by rw [HC2.out]; rfl, N2.out.1⟩
        · rw [decide_eq_false hd, Bool.false_or] at hst
          have HC2 : Hid (collideB L1 L2 = collideB (L1.drop (i + 1)) (L2.drop (i + 1))) := HC.out.trans hst
          have t3 : ((dg x.data.toList).toList == (dg y.data.toList).toList) = false := by rw [str_beq]; exact decide_eq_false hd
          clear hst hxy hd
          go_wp2_with fail
          go_region_held3 (fun w' => w'.cell? ⟨b1, o1 + i, none⟩ = some (.string x) ∧ w'.cell? ⟨b2, o2 + i, none⟩ = some (.string y)) (exact ⟨HK1.out _ bK, HK2.out _ bK⟩)
            (first
              | (refine step_callg (by kernel_rfl) 13 [.tmp 31] #[9] rfl enters_Sum (sumB_any x _ HX1.out (N1.out.tab.below bK (Nat.le_refl _))) (by kernel_rfl) ?_; rintro e w1 ⟨rfl, hbx⟩; refine ⟨_, rfl, ?_⟩; have bK := bK.trans (hbx.mono bK.size))
              | (refine step_callg (by kernel_rfl) 13 [.tmp 36] #[9] rfl enters_Sum (sumB_any y _ HX2.out (N1.out.tab.below bK (Nat.le_refl _))) (by kernel_rfl) ?_; rintro e w2 ⟨rfl, hby⟩; refine ⟨_, rfl, ?_⟩; have bK := bK.trans (hby.mono bK.size)))
          all_goals
            have N2 := Lib.hid (N1.out.step bK)
            clear HK1 HK2 bK
            go_wp2
            go_roundw
            case rel => exact ⟨i + 1, by go_num, by omega, by omega, HC2.out, N2.out⟩
            case measure => simp [intOf]; omega
    · have HE : Hid (collideB L1 L2 = false) := HC.out.trans (collide_end (by have := H1.out.1; have := H2.out.1; omega))
      by_cases g1 : i < n1
      · have g2 : ¬ i < n2 := fun h => hlt ⟨g1, h⟩
        clear hlt
        go_wp2
        go_ret
        exact ⟨by rw [HE.out]; rfl, N1.out.1⟩
      · clear hlt
        go_wp2
        go_ret
        exact ⟨by rw [HE.out]; rfl, N1.out.1⟩
end Go.Proofs.YtpnhaoegnglooaaDoor
