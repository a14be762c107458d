/- The contracts of the reference's Digests, value and Verify. Conditions: the slice reads, has at most 2^40 strings; numbers are of their Go types. -/
import Derived.Test.YthaegodeijfbdaaDoorRefProof
namespace Go.Proofs.YthaegodeijfbdaaDoor
open Go.RowKit Go.Lib

set_option maxRecDepth 100000 in
theorem refdigests_any (A : Option Addr) (n c : Nat) (L : List ByteArray) (B : Nat) (w : World) (hR : Rd w B A n c L) (hn : n ≤ 1099511627776) (hm : ∀ s ∈ L, s.size ≤ 9223372036854775807) :
    Calls Tryd.prog 38 #[.slice A n c] w fun e w' => e = .returned (.bool (all32 L)) ∧ w = w' := by
  have HR := Lib.hid hR; have HM := Lib.hid hm; clear hR hm
  go_enter Tryd.func38, Tryd.ntmps38
  go_wp2
  go_loop [3] (fun ii => ∃ i : Nat, ii = .int .i64 i ∧ i ≤ n ∧ Hid (∀ k, k < i → (h : k < L.length) → L[k].size = 32)) (fun ii => n - (intOf ii).toNat)
  case atStart => exact ⟨0, rfl, by omega, fun k hk => absurd hk (by omega)⟩
  case round =>
    obtain ⟨i, rfl, hi, HA⟩ := hrel
    by_cases hlt : i < n
    · have hl : i < L.length := by have := HR.out.1; omega
      obtain ⟨b, o, rfl, hb, hcell⟩ := HR.out.2.2 (by omega)
      have hc0 := hcell i hl
      have hsz := HM.out L[i] (List.getElem_mem hl)
      clear hcell
      obtain ⟨s, hs⟩ : ∃ s, s = L[i] := ⟨_, rfl⟩
      rw [← hs] at hc0 hsz
      have HS := Lib.hid hs; clear hs
      have q1 : (0 : Int) ≤ (i : Int) := by omega
      have q2 : (i : Int) < (n : Int) := by omega
      by_cases h32 : s.size = 32
      · have h3 : ((s.size : Int) == 32) = true := by rw [beq_iff_eq]; omega
        have h4 : ((s.size : Int) != 32) = false := by rw [bne, h3]; rfl
        have H32 := Lib.hid h32; clear h32
        go_wp2
        go_round
        case rel =>
          refine ⟨i + 1, by go_num, by omega, fun k hk h => ?_⟩
          by_cases e : k = i
          · subst e; rw [← HS.out]; exact H32.out
          · exact HA.out k (by omega) h
        case measure => simp [intOf]; omega
      · have h3 : ((s.size : Int) == 32) = false := by rw [beq_eq_false_iff_ne]; omega
        have h4 : ((s.size : Int) != 32) = true := by rw [bne, h3]; rfl
        have H5 : Hid (all32 L = false) := all32_not hl (by rw [← HS.out]; exact h32)
        clear h32
        go_wp2
        go_ret
        exact ⟨by rw [H5.out]; rfl, rfl⟩
    · have H5 : Hid (all32 L = true) := all32_of fun x hx => by
        obtain ⟨k, hk, rfl⟩ := List.getElem_of_mem hx
        exact HA.out k (by have := HR.out.1; omega) hk
      go_wp2
      go_ret
      exact ⟨by rw [H5.out]; rfl, rfl⟩

set_option maxRecDepth 100000 in
set_option maxHeartbeats 1000000 in
theorem refvalue_any (N : Nat) : ∀ (P : List ByteArray) (A : Option Addr) (n c B num i : Nat) (s : ByteArray) (w : World), P.length ≤ N → Rd w B A n c P → B ≤ w.heap.size → n ≤ 1099511627776 → 1 ≤ num → num ≤ 9223372036854775807 → i < num → s.size ≤ 1000 → (∀ x ∈ P, x.size ≤ 1000) →
    Calls Tryd.prog 39 #[.int .i64 num, .int .i64 i, .string s, .slice A n c] w fun e w' => e = .returned (.tuple #[.string (valueB num i s P).1, .bool (valueB num i s P).2]) ∧ Below w.heap.size w w' := by
  induction N with
  | zero =>
    intro P A n c B num i s w hN hR hB hn h1 h2 hi hs hP 
    have hP0 : P = [] := List.eq_nil_of_length_eq_zero (by omega)
    subst hP0
    have hn0 : n = 0 := hR.1
    subst hn0
    by_cases hnum : num = 1
    · have HC := Lib.hid (refleaf_any s w hs)
      have HV := Lib.hid (valueB_one i s [])
      subst hnum
      clear hR hs  hP hN
      go_enter Tryd.func39, Tryd.ntmps39
      go_wp2_with fail
      refine HC.out.mono ?_
      rintro e w' ⟨rfl, hb⟩
      go_wp2
      go_ret2
      exact ⟨by rw [HV.out]; rfl, hb⟩
    · have hn1 : ((num : Int) == 1) = false := by rw [beq_eq_false_iff_ne]; omega
      have HV := Lib.hid (valueB_empty (i := i) (s := s) hnum)
      clear hR hs  hP hN hnum
      go_enter Tryd.func39, Tryd.ntmps39
      go_wp2
      go_ret2
      exact ⟨by rw [HV.out]; rfl, Below.refl _ _⟩
  | succ N ih =>
    intro P A n c B num i s w hN hR hB hn h1 h2 hi hs hP 
    rcases List.eq_nil_or_concat P with hP0 | ⟨P', x, hP0⟩
    · exact ih P A n c B num i s w (by rw [hP0]; simp) hR hB hn h1 h2 hi hs hP 
    · rw [List.concat_eq_append] at hP0
      subst hP0
      have hl := hR.1
      rw [List.length_append, List.length_singleton] at hl hN
      by_cases hnum : num = 1
      · have HC := Lib.hid (refleaf_any s w hs)
        have HV : Hid (valueB 1 i s (P' ++ [x]) = (leafB s, false)) := by show _ = _; rw [valueB_one]; simp
        have HD : Hid (decide ((n : Int) - 1 < 0) = false) := decide_eq_false (by omega)
        subst hnum
        clear hR hs  hP hN hl
        go_enter Tryd.func39, Tryd.ntmps39
        go_wp2_with fail
        refine HC.out.mono ?_
        rintro e w' ⟨rfl, hb⟩
        go_wp2
        go_ret2
        exact ⟨by rw [HV.out]; show Ending.returned (.tuple #[.string (leafB s), .bool (decide ((n : Int) - 1 < 0))]) = _; rw [HD.out], hb⟩
      · obtain ⟨b, o, rfl, hb, hcell⟩ := hR.2.2 (by omega)
        have hk := spl_lt (n := num) (by omega)
        have hp := spl_pos num
        have hcl : w.cell? ⟨b, o + (n - 1), none⟩ = some (.string x) := by
          have := (hR.at_ (i := n - 1) (by rw [List.length_append, List.length_singleton]; omega)).2
          rw [this, List.getElem_append_right (by omega)]; simp
        have hs1 := run_slice_to 26 9 b o n c (n - 1) Tryd.underlying26 infoStr (by omega) hR.2.1
        rw [show ((n - 1 : Nat) : Int) = (n : Int) - 1 from by omega] at hs1
        have HCL := Lib.hid fun W (h : Below w.heap.size w W) => (h.cell (p := ⟨b, o + (n - 1), none⟩) (Nat.lt_of_lt_of_le hb hB)).trans hcl
        have p1 : (1 : Int) ≤ (n : Int) := by omega
        have p2 : (n : Int) - 1 < (n : Int) := by omega
        have p3 : (0 : Int) ≤ (n : Int) - 1 := by omega
        have p4 : ((n : Int) - 1).toNat = n - 1 := by omega
        have HCS := Lib.hid fun w => refLeft_any num w (by omega) h2
        obtain ⟨k, hke⟩ : ∃ k, k = spl num := ⟨_, rfl⟩
        have HKE := Lib.hid hke
        rw [← hke] at hk hp HCS
        have hR2 := read_cut hR
        have hx : x.size ≤ 1000 := hP x (by simp)
        have hP2 : ∀ y ∈ P', y.size ≤ 1000 := fun y hy => hP y (by simp [hy])
        have n1 : ((num : Int) == 1) = false := by rw [beq_eq_false_iff_ne]; omega
        have n2 : ((n : Int) == 0) = false := by rw [beq_eq_false_iff_ne]; omega
        by_cases hik : i < k
        · have HV : Hid (valueB num i s (P' ++ [x]) = (nodeB (valueB k i s P').1 x, (valueB k i s P').2)) := by show _ = _; rw [valueB_lo hnum (by rw [← hke]; exact hik), ← hke]
          have C1 := Lib.hid fun W (h : Below w.heap.size w W) => ih P' (some ⟨b, o, none⟩) (n - 1) c B k i s W (by omega) (hR2.below (h.mono hB)) (Nat.le_trans hB h.size) (by omega) (by omega) (by omega) hik hs hP2 
          have C2 := Lib.hid fun W => refnode_any (valueB k i s P').1 x W (Nat.le_trans (valueB_size _ _ _ _) (by omega)) hx 
          generalize valueB k i s P' = r at *
          obtain ⟨r1, r2⟩ := r
          clear hR hs  hP hN hl hR2 hP2 hcell hke hnum ih hx
          go_enter Tryd.func39, Tryd.ntmps39
          go_wp2_with fail
          refine (HCS.out _).mono ?_
          rintro e w' ⟨rfl, rfl⟩
          have hB0 := Below.refl w.heap.size w
          go_wp2_with fail
          refine (C1.out _ hB0).mono ?_
          rintro e w1 ⟨rfl, hb1⟩
          have hB1 := hB0.trans hb1
          have hc1 := HCL.out _ hB1
          go_wp2_with fail
          refine (C2.out _).mono ?_
          rintro e w2 ⟨rfl, hb2⟩
          have hB2 := hB1.trans (hb2.mono hB1.size)
          go_wp2
          go_ret2
          exact ⟨by rw [HV.out]; rfl, hB2⟩
        · have HV : Hid (valueB num i s (P' ++ [x]) = (nodeB x (valueB (num - k) (i - k) s P').1, (valueB (num - k) (i - k) s P').2)) := by show _ = _; rw [valueB_hi hnum (by rw [← hke]; exact hik), ← hke]
          have C1 : Hid (∀ W, Below w.heap.size w W → Calls Tryd.prog 39 #[.int .i64 ((num : Int) - k), .int .i64 ((i : Int) - k), .string s, .slice (some ⟨b, o, none⟩) (n - 1) c] W fun e w' => e = .returned (.tuple #[.string (valueB (num - k) (i - k) s P').1, .bool (valueB (num - k) (i - k) s P').2]) ∧ Below W.heap.size W w') := Lib.hid fun W h => by
            have := ih P' (some ⟨b, o, none⟩) (n - 1) c B (num - k) (i - k) s W (by omega) (hR2.below (h.mono hB)) (Nat.le_trans hB h.size) (by omega) (by omega) (by omega) (by omega) hs hP2 
            rw [show ((num - k : Nat) : Int) = (num : Int) - k from by omega, show ((i - k : Nat) : Int) = (i : Int) - k from by omega] at this
            exact this
          have C2 := Lib.hid fun W => refnode_any x (valueB (num - k) (i - k) s P').1 W hx (Nat.le_trans (valueB_size _ _ _ _) (by omega)) 
          generalize valueB (num - k) (i - k) s P' = r at *
          obtain ⟨r1, r2⟩ := r
          clear hR hs  hP hN hl hR2 hP2 hcell hke hnum ih hx
          go_enter Tryd.func39, Tryd.ntmps39
          go_wp2_with fail
          refine (HCS.out _).mono ?_
          rintro e w' ⟨rfl, rfl⟩
          have hB0 := Below.refl w.heap.size w
          go_wp2_with fail
          refine (C1.out _ hB0).mono ?_
          rintro e w1 ⟨rfl, hb1⟩
          have hB1 := hB0.trans hb1
          have hc1 := HCL.out _ hB1
          go_wp2_with fail
          refine (C2.out _).mono ?_
          rintro e w2 ⟨rfl, hb2⟩
          have hB2 := hB1.trans (hb2.mono hB1.size)
          go_wp2
          go_ret2
          exact ⟨by rw [HV.out]; rfl, hB2⟩

end Go.Proofs.YthaegodeijfbdaaDoor
