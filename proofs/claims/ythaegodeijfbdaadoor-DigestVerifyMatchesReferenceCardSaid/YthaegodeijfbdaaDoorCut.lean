/- The contracts of cutLast, of allDigests and of the reference's Digests. Condition: the slice reads. -/
import Derived.Test.YthaegodeijfbdaaDoorRead
namespace Go.Proofs.YthaegodeijfbdaaDoor
open Go.RowKit Go.Lib

/-- A slice expression of a slice of strings. -/
theorem run_slice_to (t e : TypeId) (b o n c k : Nat) (ht : Tryd.prog.underlying t = some (.slice e)) (he : (Tryd.prog.info? e).map (·.size) = some 1) (hk : k ≤ n) (hc : n ≤ c) (w : World) :
    (Instr.slice t (.slice (some ⟨b, o, none⟩) n c) none (some (.int .i64 (k : Nat))) none).run Tryd.prog w = .ok (.slice (some ⟨b, o, none⟩) k c) w := by
  have h1 : (k : Int) ≤ c := by omega
  have hz : (sizeOf e).run Tryd.prog w = .ok 1 w := by
    cases hq : Tryd.prog.info? e with
    | none => simp [hq] at he
    | some i => have : i.size = 1 := by simpa [hq] using he
                simp [sizeOf, typeInfo, hq, this]
  have h3 : (⟨b, o, none⟩ : Addr).add 0 = ⟨b, o, none⟩ := by unfold Addr.add; rfl
  simp [Instr.slice, run_underlying ht, Instr.sliceBounds, run_sliceBound, h1, hz, h3]
theorem run_slice_from (t e : TypeId) (b o n c k : Nat) (ht : Tryd.prog.underlying t = some (.slice e)) (he : (Tryd.prog.info? e).map (·.size) = some 1) (hk : k < n) (hc : n ≤ c) (w : World) :
    (Instr.slice t (.slice (some ⟨b, o, none⟩) n c) (some (.int .i64 (k : Nat))) none none).run Tryd.prog w = .ok (.slice (some ⟨b, o + k, none⟩) (n - k) (c - k)) w := by
  have h1 : (k : Int) ≤ n := by omega
  have hz : (sizeOf e).run Tryd.prog w = .ok 1 w := by
    cases hq : Tryd.prog.info? e with
    | none => simp [hq] at he
    | some i => have : i.size = 1 := by simpa [hq] using he
                simp [sizeOf, typeInfo, hq, this]
  have h2 : ¬ c = k := by omega
  have h3 : (⟨b, o, none⟩ : Addr).add k = ⟨b, o + k, none⟩ := by unfold Addr.add; split <;> simp_all
  simp [Instr.slice, run_underlying ht, Instr.sliceBounds, run_sliceBound, h1, h2, hz, h3]
theorem infoStr : (Tryd.prog.info? 9).map (·.size) = some 1 := by kernel_rfl

set_option maxRecDepth 100000 in
theorem cutLast_any (b o n c : Nat) (P : List ByteArray) (x : ByteArray) (B : Nat) (w : World) (hR : Rd w B (some ⟨b, o, none⟩) n c (P ++ [x])) (hn : n ≤ 1099511627776) :
    Calls Tryd.prog 47 #[.slice (some ⟨b, o, none⟩) n c] w fun e w' => e = .returned (.tuple #[.slice (some ⟨b, o, none⟩) (n - 1) c, .string x]) ∧ ∃ k, w' = w.drewN k := by
  have hl := hR.1
  rw [List.length_append, List.length_singleton] at hl
  have hcl : w.cell? ⟨b, o + (n - 1), none⟩ = some (.string x) := by
    have := (hR.at_ (i := n - 1) (by rw [List.length_append, List.length_singleton]; omega)).2
    rw [this, List.getElem_append_right (by omega)]; simp
  have hs := run_slice_to 26 9 b o n c (n - 1) Tryd.underlying26 infoStr (by omega) hR.2.1
  rw [show ((n - 1 : Nat) : Int) = (n : Int) - 1 from by omega] at hs
  have p1 : (1 : Int) ≤ (n : Int) := by omega
  have p2 : (n : Int) - 1 < (n : Int) := by omega
  have p3 : (0 : Int) ≤ (n : Int) - 1 := by omega
  have p4 : ((n : Int) - 1).toNat = n - 1 := by omega
  clear hR hl
  go_enter Tryd.func47, Tryd.ntmps47
  go_wp2
  go_quiet (fail)
  go_wp2
  go_ret2
  exact ⟨rfl, _, rfl⟩

/-- All of these are digests. -/
def all32 (L : List ByteArray) : Bool := L.all fun s => s.size == 32
theorem all32_mem {L : List ByteArray} (h : all32 L = true) : ∀ x ∈ L, x.size = 32 := by
  unfold all32 at h
  rw [List.all_eq_true] at h
  intro x hx
  simpa using h x hx
theorem all32_of {L : List ByteArray} (h : ∀ x ∈ L, x.size = 32) : all32 L = true := by
  unfold all32
  rw [List.all_eq_true]
  intro x hx
  simpa using h x hx
theorem all32_not {L : List ByteArray} {i : Nat} (hi : i < L.length) (h : L[i].size ≠ 32) : all32 L = false := by
  rw [← Bool.not_eq_true]
  exact fun e => h (all32_mem e _ (List.getElem_mem hi))

set_option maxRecDepth 100000 in
theorem allDigests_any (A : Option Addr) (n c : Nat) (L : List ByteArray) (B : Nat) (w : World) (hR : Rd w B A n c L) (hn : n ≤ 1099511627776) (hm : ∀ s ∈ L, s.size ≤ 9223372036854775807) :
    Calls Tryd.prog 36 #[.slice A n c] w fun e w' => e = .returned (.bool (all32 L)) ∧ w = w' := by
  have HR := Lib.hid hR; have HM := Lib.hid hm; clear hR hm
  go_enter Tryd.func36, Tryd.ntmps36
  go_wp2
  go_loop [4, 7] (fun _ ii => ∃ i : Nat, ii = .int .i64 i ∧ i ≤ n ∧ Hid (∀ k, k < i → (h : k < L.length) → L[k].size = 32)) (fun _ ii => n - (intOf ii).toNat)
  case atStart => exact ⟨0, rfl, by omega, fun k hk => absurd hk (by omega)⟩
  case round =>
    obtain ⟨i, rfl, hi, HA⟩ := hrel
    by_cases hlt : i < n
    · have hl : i < L.length := by have := HR.out.1; omega
      obtain ⟨b, o, rfl, hb, hcell⟩ := HR.out.2.2 (by omega)
      have hc0 := hcell i hl
      have hsz := HM.out L[i] (List.getElem_mem hl)
      clear hcell
      obtain ⟨s, hs⟩ : ∃ s, s = L[i] := ⟨_, rfl⟩
      rw [← hs] at hc0 hsz
      have HS := Lib.hid hs; clear hs
      have q1 : (0 : Int) ≤ (i : Int) := by omega
      have q2 : (i : Int) < (n : Int) := by omega
      by_cases h32 : s.size = 32
      · have h3 : ((s.size : Int) == 32) = true := by rw [beq_iff_eq]; omega
        have h4 : ((s.size : Int) != 32) = false := by rw [bne, h3]; rfl
        have H32 := Lib.hid h32; clear h32
        go_wp2
        go_round
        case rel =>
          refine ⟨i + 1, by go_num, by omega, fun k hk h => ?_⟩
          by_cases e : k = i
          · subst e; rw [← HS.out]; exact H32.out
          · exact HA.out k (by omega) h
        case measure => simp [intOf]; omega
      · have h3 : ((s.size : Int) == 32) = false := by rw [beq_eq_false_iff_ne]; omega
        have h4 : ((s.size : Int) != 32) = true := by rw [bne, h3]; rfl
        have H5 : Hid (all32 L = false) := all32_not hl (by rw [← HS.out]; exact h32)
        clear h32
        go_wp2
        go_ret
        exact ⟨by rw [H5.out]; rfl, rfl⟩
    · have H5 : Hid (all32 L = true) := all32_of fun x hx => by
        obtain ⟨k, hk, rfl⟩ := List.getElem_of_mem hx
        exact HA.out k (by have := HR.out.1; omega) hk
      go_wp2
      go_ret
      exact ⟨by rw [H5.out]; rfl, rfl⟩
end Go.Proofs.YthaegodeijfbdaaDoor
