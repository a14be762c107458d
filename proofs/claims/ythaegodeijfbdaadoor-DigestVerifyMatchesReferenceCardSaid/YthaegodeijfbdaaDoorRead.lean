/- A slice of strings that reads as a list; the contracts of split, cutLast and allDigests, and of their like in the reference and the statements. Conditions: the slice reads, lengths are from 1 to 2^40. -/
import Derived.Test.YthaegodeijfbdaaDoorDig
namespace Go.Proofs.YthaegodeijfbdaaDoor
open Go.RowKit Go.Lib

/-- The slice value '.slice A n c' reads as L, in blocks below B. -/
def Rd (W : World) (B : Nat) (A : Option Addr) (n c : Nat) (L : List ByteArray) : Prop :=
  n = L.length ∧ n ≤ c ∧ (0 < n → ∃ b o, A = some ⟨b, o, none⟩ ∧ b < B ∧ ∀ i (h : i < L.length), W.cell? ⟨b, o + i, none⟩ = some (.string L[i]))
section
variable {W W' : World} {B n c : Nat} {A : Option Addr} {L : List ByteArray}
theorem Rd.below (h : Rd W B A n c L) (hb : Below B W W') : Rd W' B A n c L :=
  ⟨h.1, h.2.1, fun hn => by
    obtain ⟨b, o, hA, hlt, hc⟩ := h.2.2 hn
    exact ⟨b, o, hA, hlt, fun i hi => (hb.cell (p := ⟨b, o + i, none⟩) hlt).trans (hc i hi)⟩⟩
theorem Rd.more {B' : Nat} (h : Rd W B A n c L) (hB : B ≤ B') : Rd W B' A n c L :=
  ⟨h.1, h.2.1, fun hn => by
    obtain ⟨b, o, hA, hlt, hc⟩ := h.2.2 hn
    exact ⟨b, o, hA, Nat.lt_of_lt_of_le hlt hB, hc⟩⟩
theorem Rd.drew (h : Rd W B A n c L) : Rd W.drew B A n c L := h
theorem Rd.drewN (h : Rd W B A n c L) (k : Nat) : Rd (W.drewN k) B A n c L := h
theorem Rd.nil : Rd W B none 0 0 [] := ⟨rfl, Nat.le_refl _, fun h => absurd h (by omega)⟩
theorem Rd.take {k : Nat} (h : Rd W B A n c L) (hk : k ≤ n) : Rd W B A k c (L.take k) :=
  ⟨by rw [List.length_take, ← h.1]; omega, by have := h.2.1; omega, fun hn => by
    obtain ⟨b, o, hA, hlt, hc⟩ := h.2.2 (by omega)
    exact ⟨b, o, hA, hlt, fun i hi => by rw [List.length_take] at hi; rw [List.getElem_take]; exact hc i (by omega)⟩⟩
theorem Rd.drop {b o k : Nat} (h : Rd W B (some ⟨b, o, none⟩) n c L) (hk : k < n) : Rd W B (some ⟨b, o + k, none⟩) (n - k) (c - k) (L.drop k) :=
  ⟨by rw [List.length_drop, ← h.1], by have := h.2.1; omega, fun hn => by
    obtain ⟨b', o', hA, hlt, hc⟩ := h.2.2 (by omega)
    cases hA
    exact ⟨b, o + k, rfl, hlt, fun i hi => by rw [List.length_drop] at hi; rw [List.getElem_drop, Nat.add_assoc]; exact hc (k + i) (by omega)⟩⟩
theorem Rd.of_own {base e cp : Nat} (h : W.ownsRow base e 1 (.slice A n cp) n (L.map sv)) : Rd W W.heap.size A n cp L := by
  have hl : L.length = n := by have := h.1; simpa using this
  refine ⟨hl.symm, ?_, fun hn => ?_⟩
  · rcases h.2 with ⟨h0, h1⟩ | ⟨g, cap, cur, hv, _, _, hc, _⟩
    · omega
    · cases hv; exact hc
  · rcases h.2 with ⟨h0, h1⟩ | ⟨g, cap, cur, hv, _, hgb, _⟩
    · omega
    cases hv
    exact ⟨g, 0, rfl, (Array.getElem?_eq_some_iff.1 hgb).1, fun i hi => by
      have := h.cellAt i (by omega)
      rw [Nat.zero_add, this]
      simp [hi, sv]⟩
theorem Rd.at_ {b o i : Nat} (h : Rd W B (some ⟨b, o, none⟩) n c L) (hi : i < L.length) : b < B ∧ W.cell? ⟨b, o + i, none⟩ = some (.string L[i]) := by
  obtain ⟨b', o', hA, hlt, hc⟩ := h.2.2 (by have := h.1; omega)
  cases hA
  exact ⟨hlt, hc i hi⟩
end

theorem pow_step {j k : Nat} (h : k = 2 ^ j) : 2 * k = 2 ^ (j + 1) := by rw [h, Nat.pow_succ]; omega

theorem split_any (n : Nat) (w : World) (h1 : 2 ≤ n) (h2 : n ≤ 9223372036854775807) :
    Calls Tryd.prog 35 #[.int .i64 n] w fun e w' => e = .returned (.int .i64 (spl n : Nat)) ∧ w = w' := by
  go_enter Tryd.func35, Tryd.ntmps35
  go_wp2
  go_loop [3] (fun kk => ∃ k : Nat, kk = .int .i64 k ∧ k < n ∧ 1 ≤ k ∧ Hid (∃ j, k = 2 ^ j)) (fun kk => n - (intOf kk).toNat)
  case atStart => exact ⟨1, rfl, by omega, by omega, ⟨0, rfl⟩⟩
  case round =>
    obtain ⟨k, rfl, hk1, hk2, HJ⟩ := hrel
    by_cases hlt : 2 * k < n
    · have hl : (k : Int) < (n : Int) - k := by omega
      go_wp2
      go_round
      case rel => exact ⟨2 * k, by go_num, hlt, by omega, by obtain ⟨j, hj⟩ := HJ.out; exact ⟨j + 1, pow_step hj⟩⟩
      case measure => simp [intOf]; omega
    · have hl : (n : Int) - k ≤ (k : Int) := by omega
      have hs : Hid (k = spl n) := by obtain ⟨j, hj⟩ := HJ.out; show _ = _; rw [hj]; exact (spl_unique (by omega) (by omega)).symm
      go_wp2
      go_ret
      exact ⟨by rw [← hs.out]; rfl, rfl⟩
theorem refLeft_any (n : Nat) (w : World) (h1 : 2 ≤ n) (h2 : n ≤ 9223372036854775807) :
    Calls Tryd.prog 32 #[.int .i64 n] w fun e w' => e = .returned (.int .i64 (spl n : Nat)) ∧ w = w' := by
  go_enter Tryd.func32, Tryd.ntmps32
  go_wp2
  go_loop [3] (fun kk => ∃ k : Nat, kk = .int .i64 k ∧ k < n ∧ 1 ≤ k ∧ Hid (∃ j, k = 2 ^ j)) (fun kk => n - (intOf kk).toNat)
  case atStart => exact ⟨1, rfl, by omega, by omega, ⟨0, rfl⟩⟩
  case round =>
    obtain ⟨k, rfl, hk1, hk2, HJ⟩ := hrel
    by_cases hlt : 2 * k < n
    · have hl : (k : Int) < (n : Int) - k := by omega
      go_wp2
      go_round
      case rel => exact ⟨2 * k, by go_num, hlt, by omega, by obtain ⟨j, hj⟩ := HJ.out; exact ⟨j + 1, pow_step hj⟩⟩
      case measure => simp [intOf]; omega
    · have hl : (n : Int) - k ≤ (k : Int) := by omega
      have hs : Hid (k = spl n) := by obtain ⟨j, hj⟩ := HJ.out; show _ = _; rw [hj]; exact (spl_unique (by omega) (by omega)).symm
      go_wp2
      go_ret
      exact ⟨by rw [← hs.out]; rfl, rfl⟩
end Go.Proofs.YthaegodeijfbdaaDoor
