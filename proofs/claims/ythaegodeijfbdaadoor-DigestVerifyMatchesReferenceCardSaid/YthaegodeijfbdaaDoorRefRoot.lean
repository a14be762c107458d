/- The contract of the reference's Root. Conditions: the slice reads, has at most 2^40 strings, each no longer than 1,000 bytes. -/
import Derived.Test.YthaegodeijfbdaaDoorRefDig
namespace Go.Proofs.YthaegodeijfbdaaDoor
open Go.RowKit Go.Lib

def Tiny (L : List ByteArray) : Prop := ∀ s ∈ L, s.size ≤ 1000
theorem Tiny.take {L : List ByteArray} (h : Tiny L) (k : Nat) : Tiny (L.take k) := fun s hs => h s (List.mem_of_mem_take hs)
theorem Tiny.drop {L : List ByteArray} (h : Tiny L) (k : Nat) : Tiny (L.drop k) := fun s hs => h s (List.mem_of_mem_drop hs)
theorem tiny_root (L : List ByteArray) : (rootB L).size ≤ 1000 := by rw [rootB_size]; omega

set_option maxRecDepth 100000 in
set_option maxHeartbeats 1000000 in
theorem refroot_any (N : Nat) : ∀ (L : List ByteArray) (A : Option Addr) (n c B : Nat) (w : World), L.length ≤ N → Rd w B A n c L → B ≤ w.heap.size → n ≤ 1099511627776 → Tiny L →
    Calls Tryd.prog 22 #[.slice A n c] w fun e w' => e = .returned (.string (rootB L)) ∧ Below w.heap.size w w' := by
  induction N with
  | zero =>
    intro L A n c B w hN hR hB hn hs
    have h0 : L = [] := List.eq_nil_of_length_eq_zero (by omega)
    subst h0
    have hn0 : n = 0 := hR.1
    subst hn0
    have HC := Lib.hid (refsum_any ⟨#[]⟩ w (by show 0 ≤ _; omega))
    have HR0 : Hid (rootB [] = dg (ByteArray.mk #[]).data.toList) := rootB_nil
    clear hR hs
    go_enter Tryd.func22, Tryd.ntmps22
    go_wp2_with fail
    refine HC.out.mono ?_
    rintro e w' ⟨rfl, hb⟩
    go_wp2
    go_ret
    exact ⟨by rw [HR0.out]; rfl, hb⟩
  | succ N ih =>
    intro L A n c B w hN hR hB hn hs
    by_cases h0 : n = 0
    · exact ih L A n c B w (by have := hR.1; omega) hR hB hn hs
    · obtain ⟨b, o, rfl, hb, hcell⟩ := hR.2.2 (by omega)
      have hl := hR.1
      by_cases h1 : n = 1
      · have hx : ∃ x, L = [x] := List.length_eq_one_iff.1 (by omega)
        obtain ⟨x, rfl⟩ := hx
        have hc0 : w.cell? ⟨b, o, none⟩ = some (.string x) := hcell 0 (by simp)
        have HC := Lib.hid fun W => refleaf_any x W (hs x (by simp))
        have HR0 := Lib.hid (rootB_one x)
        subst h1
        clear hR hs hcell h0 hl hN
        go_enter Tryd.func22, Tryd.ntmps22
        go_wp2_with fail
        refine (HC.out _).mono ?_
        rintro e w' ⟨rfl, hb'⟩
        go_wp2
        go_ret
        exact ⟨by rw [HR0.out]; rfl, hb'⟩
      · have hk := spl_lt (n := n) (by omega)
        have hp := spl_pos n
        have HCS := Lib.hid fun w => refLeft_any n w (by omega) (by omega)
        obtain ⟨k, hke⟩ : ∃ k, k = spl n := ⟨_, rfl⟩
        rw [← hke] at hk hp HCS
        have hs1 := run_slice_to 26 9 b o n c k Tryd.underlying26 infoStr (by omega) hR.2.1
        have hs2 := run_slice_from 26 9 b o n c k Tryd.underlying26 infoStr (by omega) hR.2.1
        have HR0 : Hid (rootB L = nodeB (rootB (L.take k)) (rootB (L.drop k))) := by show _ = _; rw [rootB_two (by omega), ← hl, ← hke]
        have C1 := Lib.hid fun W (h : Below w.heap.size w W) => ih (L.take k) (some ⟨b, o, none⟩) k c B W (by rw [List.length_take]; omega) ((hR.take (by omega)).below (h.mono hB)) (Nat.le_trans hB h.size) (by omega) (hs.take k)
        have C2 := Lib.hid fun W (h : Below w.heap.size w W) => ih (L.drop k) (some ⟨b, o + k, none⟩) (n - k) (c - k) B W (by rw [List.length_drop]; omega) ((hR.drop (by omega)).below (h.mono hB)) (Nat.le_trans hB h.size) (by omega) (hs.drop k)
        have C3 := Lib.hid fun W => refnode_any (rootB (L.take k)) (rootB (L.drop k)) W (tiny_root _) (tiny_root _)
        have n1 : ((n : Int) == 0) = false := by rw [beq_eq_false_iff_ne]; omega
        have n2 : ((n : Int) == 1) = false := by rw [beq_eq_false_iff_ne]; omega
        clear hR hs hcell hke ih hl hN
        go_enter Tryd.func22, Tryd.ntmps22
        go_wp2_with fail
        refine (HCS.out _).mono ?_
        rintro e w' ⟨rfl, rfl⟩
        go_wp2_with fail
        have hB0 := (Below.refl w.heap.size w).drew
        go_region_with (first
          | (go_at_call 22; (with_reducible refine (C1.out _ hB0).mono ?_); rintro e w1 ⟨rfl, hb1⟩; have hB1 := hB0.trans hb1)
          | (go_at_call 22; (with_reducible refine (C2.out _ hB1).mono ?_); rintro e w2 ⟨rfl, hb2⟩; have hB2 := hB1.trans (hb2.mono hB1.size))
          | (go_at_call 12; (with_reducible refine (C3.out _).mono ?_); rintro e w3 ⟨rfl, hb3⟩; have hB3 := hB2.trans (hb3.mono hB2.size)))
        all_goals
          go_wp2
          go_ret
          exact ⟨by rw [HR0.out]; rfl, hB3⟩
end Go.Proofs.YthaegodeijfbdaaDoor
