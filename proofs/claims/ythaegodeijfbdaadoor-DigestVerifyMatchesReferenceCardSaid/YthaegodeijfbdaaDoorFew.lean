/- The contract of the statements' helper few. Condition: the slice reads. -/
import Derived.Test.YthaegodeijfbdaaDoorHex
namespace Go.Proofs.YthaegodeijfbdaaDoor
open Go.RowKit Go.Lib

/-- 's[:min(len(s), 60)]'. -/
def cut60 (s : ByteArray) : ByteArray := s.extract 0 (min s.size 60)
theorem cut60_size (s : ByteArray) : (cut60 s).size ≤ 60 := by unfold cut60; rw [ByteArray.size_extract]; omega
theorem cut60_small (s : ByteArray) : Small (cut60 s) := by have := cut60_size s; unfold Small; omega
theorem cut_at {P : Program} (t : TypeId) (ht : P.underlying t = some .string) (s : ByteArray) (N : Nat) :
    (if (N : Int) < (s.size : Int) then (N : Int) else (s.size : Int)) = (min s.size N : Nat) ∧
      ∀ w, (Instr.slice t (.string s) none (some (.int .i64 ((min s.size N : Nat) : Int))) none).run P w = .ok (.string (s.extract 0 (min s.size N))) w := by
  refine ⟨by split <;> omega, fun w => ?_⟩
  obtain ⟨m, hm⟩ : ∃ m, m = min s.size N := ⟨_, rfl⟩
  rw [← hm, run_slice_string_h w t s ht .i64 m (by omega) (by omega)]
  simp

/-- The slice value of an argument reads as L. -/
def Arg (W : World) (A : Option Addr) (n : Nat) (L : List ByteArray) : Prop :=
  n = L.length ∧ (0 < n → ∃ b o, A = some ⟨b, o, none⟩ ∧ b < W.heap.size ∧ ∀ i (h : i < L.length), W.cell? ⟨b, o + i, none⟩ = some (.string L[i]))
theorem Arg.below {W W' : World} {A : Option Addr} {n : Nat} {L : List ByteArray} (h : Arg W A n L) (hb : Below W.heap.size W W') : Arg W' A n L :=
  ⟨h.1, fun hn => by
    obtain ⟨b, o, hA, hlt, hc⟩ := h.2 hn
    exact ⟨b, o, hA, Nat.lt_of_lt_of_le hlt hb.size, fun i hi => (hb.cell (p := ⟨b, o + i, none⟩) hlt).trans (hc i hi)⟩⟩
/-- At most k strings, each cut. -/
def fewL (L : List ByteArray) (k : Nat) : List ByteArray := (L.take k).map cut60
theorem fewL_succ {L : List ByteArray} {i : Nat} (h : i < L.length) : fewL L (i + 1) = fewL L i ++ [cut60 L[i]] := by
  unfold fewL; rw [List.take_succ_eq_append_getElem h, List.map_append]; rfl
theorem fewL_length {L : List ByteArray} {i : Nat} (h : i ≤ L.length) : (fewL L i).length = i := by unfold fewL; rw [List.length_map, List.length_take]; omega
theorem fewL_le (L : List ByteArray) (k : Nat) : (fewL L k).length ≤ k := by unfold fewL; rw [List.length_map, List.length_take]; omega
theorem fewL_small (L : List ByteArray) (k : Nat) : ∀ s ∈ fewL L k, Small s := fun s hs => by
  unfold fewL at hs
  obtain ⟨x, _, rfl⟩ := List.mem_map.1 hs
  exact cut60_small x
theorem fewL_max (L : List ByteArray) (k : Nat) : ∀ s ∈ fewL L k, s.size ≤ 9223372036854775807 := fun s hs => by
  unfold fewL at hs
  obtain ⟨x, _, rfl⟩ := List.mem_map.1 hs
  have := cut60_size x; omega
theorem fewL_all {L : List ByteArray} {k i : Nat} (h : L.length ≤ i) (hk : i ≤ k) : fewL L k = fewL L i := by unfold fewL; rw [List.take_of_length_le (by omega), List.take_of_length_le h]

set_option maxRecDepth 100000 in
set_option maxHeartbeats 1000000 in
theorem few_any (A : Option Addr) (n c k : Nat) (L : List ByteArray) (w : World) (hR : Arg w A n L) (hk : k ≤ 100) (hn : n ≤ 9223372036854775807) :
    Calls Tryd.prog 15 #[.slice A n c, .int .i64 k] w (OwnOut w (fewL L k)) := by
  obtain ⟨i0, hi0, hz0, hz1, hz2⟩ := info_parts info_str
  have HR := Lib.hid hR; clear hR
  go_enter Tryd.func15, Tryd.ntmps15
  go_wp2
  go_loopw [5, 6] (fun v ii wr => ∃ i : Nat, ii = .int .i64 i ∧ i ≤ k ∧ i ≤ n ∧ wr.ownsRow w.heap.size 9 1 v i ((fewL L i).map sv) ∧ Below w.heap.size w wr) (fun _ ii _ => k - (intOf ii).toNat)
  case atStart => exact ⟨0, rfl, by omega, by omega, World.ownsRow_nil _ _ _ _, Below.refl _ _⟩
  case round =>
    obtain ⟨i, rfl, hi, hin, ho, hb⟩ := hrel
    by_cases hlt : i < n ∧ i < k
    · obtain ⟨h1, h2⟩ := hlt
      have hl : i < L.length := by have := HR.out.1; omega
      obtain ⟨bb, oo, rfl, hbb, hcell⟩ := HR.out.2 (by omega)
      have hc0 : wr.cell? ⟨bb, oo + i, none⟩ = some (.string L[i]) := (hb.cell (p := ⟨bb, oo + i, none⟩) hbb).trans (hcell i hl)
      obtain ⟨s, hs⟩ : ∃ s, s = L[i] := ⟨_, rfl⟩
      rw [← hs] at hc0
      have HF : Hid (fewL L (i + 1) = fewL L i ++ [cut60 s]) := by show _ = _; rw [hs]; exact fewL_succ hl
      have HLI := Lib.hid (fewL_length (L := L) (i := i) (by omega))
      obtain ⟨hif, hsl⟩ := cut_at (P := Tryd.prog) 9 Tryd.underlying9 s 60
      obtain ⟨T, hT⟩ : ∃ T, T = cut60 s := ⟨_, rfl⟩
      have hsl2 : ∀ w, (Instr.slice 9 (.string s) none (some (.int .i64 ((min s.size 60 : Nat) : Int))) none).run Tryd.prog w = .ok (.string T) w := by rw [hT]; exact hsl
      obtain ⟨mm, hmm⟩ : ∃ mm, mm = min s.size 60 := ⟨_, rfl⟩
      rw [← hmm] at hif hsl2
      rw [show ((60 : Nat) : Int) = 60 from rfl] at hif
      have HT := Lib.hid hT
      have q1 : (0 : Int) ≤ (i : Int) := by omega
      have q2 : (i : Int) < (n : Int) := by omega
      have q3 : (i : Int) < (k : Int) := by omega
      clear hcell hs hT hsl hmm
      go_wp2
      go_region_law (refine step_append_own rfl _ _ 26 rfl w.heap.size 9 i0 (.string ⟨#[]⟩) 1 16 Tryd.underlying26 hi0 hz0 hz1 hz2 rfl (by decide) _ _ _ (by kernel_rfl) (ho.drew.alloc _) ⟨wr.heap.size, 0, none⟩ 1 1 [sv T] (by kernel_rfl) rfl (cell_one_new _ _ _) (by simp [Value.oneCell', sv]) (by unfold maxLen; omega) (by omega) (by have := hb.size; simp; omega) ?_; intro v3 w3 ho3 hg3; have hB3 := (hb.drew.alloc hb.size _).grown hg3 (by have := hb.size; simp; omega) (own_base ho))
      all_goals
        go_wp2
        go_roundw
        case rel => exact ⟨i + 1, by go_num, by omega, by omega, (by rw [HF.out, List.map_append, ← HT.out]; exact ho3), hB3⟩
        case measure => simp [intOf]; omega
    · have HL : Hid (fewL L k = fewL L i ∧ (fewL L i).length = i) := by
        have h1 := HR.out.1
        refine ⟨?_, fewL_length (by omega)⟩
        by_cases h : i < n
        · rw [show k = i from by omega]
        · exact fewL_all (by omega) hi
      by_cases h1 : i < n
      · have h2 : ¬ i < k := fun h => hlt ⟨h1, h⟩
        clear hlt
        go_wp2
        go_ret
        exact ⟨_, rfl, by rw [HL.out.1, HL.out.2]; exact ho, hb⟩
      · clear hlt
        go_wp2
        go_ret
        exact ⟨_, rfl, by rw [HL.out.1, HL.out.2]; exact ho, hb⟩
end Go.Proofs.YthaegodeijfbdaaDoor
