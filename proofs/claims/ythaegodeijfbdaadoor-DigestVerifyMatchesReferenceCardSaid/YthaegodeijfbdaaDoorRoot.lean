/- The contract of Root. Conditions: the slice reads, has at most 2^40 strings, each not longer than 2^50 bytes; the table holds what its text says. -/
import Derived.Test.YthaegodeijfbdaaDoorCut
import Derived.Deep.RegionHeld3
namespace Go.Proofs.YthaegodeijfbdaaDoor
open Go.RowKit Go.Lib

theorem small_take {L : List ByteArray} (h : ∀ s ∈ L, Small s) (k : Nat) : ∀ s ∈ L.take k, Small s := fun s hs => h s (List.mem_of_mem_take hs)
theorem small_drop {L : List ByteArray} (h : ∀ s ∈ L, Small s) (k : Nat) : ∀ s ∈ L.drop k, Small s := fun s hs => h s (List.mem_of_mem_drop hs)
theorem small_root (L : List ByteArray) : Small (rootB L) := small_32 (by rw [rootB_size]; omega)

set_option maxRecDepth 100000 in
set_option maxHeartbeats 1000000 in
theorem root_any (N : Nat) : ∀ (L : List ByteArray) (A : Option Addr) (n c B : Nat) (w : World), L.length ≤ N → Rd w B A n c L → B ≤ w.heap.size → n ≤ 1099511627776 → (∀ s ∈ L, Small s) → Tab w →
    Calls Tryd.prog 21 #[.slice A n c] w fun e w' => e = .returned (.string (rootB L)) ∧ Below w.heap.size w w' := by
  induction N with
  | zero =>
    intro L A n c B w hN hR hB hn hs hT
    have h0 : L = [] := List.eq_nil_of_length_eq_zero (by omega)
    subst h0
    have hn0 : n = 0 := hR.1
    subst hn0
    have HC := Lib.hid (sumB_any ⟨#[]⟩ w (by unfold Small; show 0 ≤ _; omega) hT)
    have HR0 : Hid (rootB [] = dg (ByteArray.mk #[]).data.toList) := rootB_nil
    clear hR hs hT
    go_enter Tryd.func21, Tryd.ntmps21
    go_wp2_with fail
    refine HC.out.mono ?_
    rintro e w' ⟨rfl, hb⟩
    go_wp2
    go_ret
    exact ⟨by rw [HR0.out]; rfl, hb⟩
  | succ N ih =>
    intro L A n c B w hN hR hB hn hs hT
    by_cases h0 : n = 0
    · exact ih L A n c B w (by have := hR.1; omega) hR hB hn hs hT
    · obtain ⟨b, o, rfl, hb, hcell⟩ := hR.2.2 (by omega)
      have hl := hR.1
      by_cases h1 : n = 1
      · have hx : ∃ x, L = [x] := List.length_eq_one_iff.1 (by omega)
        obtain ⟨x, rfl⟩ := hx
        have hc0 : w.cell? ⟨b, o, none⟩ = some (.string x) := hcell 0 (by simp)
        have HC := Lib.hid (leafB_any x w (hs x (by simp)) hT)
        have HR0 := Lib.hid (rootB_one x)
        subst h1
        clear hR hs hT hcell h0 hl hN
        go_enter Tryd.func21, Tryd.ntmps21
        go_wp2_with fail
        refine HC.out.mono ?_
        rintro e w' ⟨rfl, hb'⟩
        go_wp2
        go_ret
        exact ⟨by rw [HR0.out]; rfl, hb'⟩
      · have hk := spl_lt (n := n) (by omega)
        have hp := spl_pos n
        have HCS := Lib.hid fun w => split_any n w (by omega) (by omega)
        obtain ⟨k, hke⟩ : ∃ k, k = spl n := ⟨_, rfl⟩
        rw [← hke] at hk hp HCS
        have hs1 := run_slice_to 26 9 b o n c k Tryd.underlying26 infoStr (by omega) hR.2.1
        have hs2 := run_slice_from 26 9 b o n c k Tryd.underlying26 infoStr (by omega) hR.2.1
        have HR0 : Hid (rootB L = nodeB (rootB (L.take k)) (rootB (L.drop k))) := by show _ = _; rw [rootB_two (by omega), ← hl, ← hke]
        have C1 := Lib.hid fun W (h : Below w.heap.size w W) => ih (L.take k) (some ⟨b, o, none⟩) k c B W (by rw [List.length_take]; omega) ((hR.take (by omega)).below (h.mono hB)) (Nat.le_trans hB h.size) (by omega) (small_take hs k) (hT.below h (Nat.le_refl _))
        have C2 := Lib.hid fun W (h : Below w.heap.size w W) => ih (L.drop k) (some ⟨b, o + k, none⟩) (n - k) (c - k) B W (by rw [List.length_drop]; omega) ((hR.drop (by omega)).below (h.mono hB)) (Nat.le_trans hB h.size) (by omega) (small_drop hs k) (hT.below h (Nat.le_refl _))
        have C3 := Lib.hid fun W (h : Below w.heap.size w W) => nodeB_any (rootB (L.take k)) (rootB (L.drop k)) W (small_root _) (small_root _) (hT.below h (Nat.le_refl _))
        have n1 : ((n : Int) == 0) = false := by rw [beq_eq_false_iff_ne]; omega
        have n2 : ((n : Int) == 1) = false := by rw [beq_eq_false_iff_ne]; omega
        clear hR hs hT hcell hke ih hl hN
        go_enter Tryd.func21, Tryd.ntmps21
        go_wp2_with fail
        refine (HCS.out _).mono ?_
        rintro e w' ⟨rfl, rfl⟩
        go_wp2_with fail
        have hB0 := (Below.refl w.heap.size w).drew
        go_region_with (first
          | (go_at_call 21; (with_reducible refine (C1.out _ hB0).mono ?_); rintro e w1 ⟨rfl, hb1⟩; have hB1 := hB0.trans hb1)
          | (go_at_call 21; (with_reducible refine (C2.out _ hB1).mono ?_); rintro e w2 ⟨rfl, hb2⟩; have hB2 := hB1.trans (hb2.mono hB1.size))
          | (go_at_call 11; (with_reducible refine (C3.out _ hB2).mono ?_); rintro e w3 ⟨rfl, hb3⟩; have hB3 := hB2.trans (hb3.mono hB2.size)))
        all_goals
          go_wp2
          go_ret
          exact ⟨by rw [HR0.out]; rfl, hB3⟩
end Go.Proofs.YthaegodeijfbdaaDoor
