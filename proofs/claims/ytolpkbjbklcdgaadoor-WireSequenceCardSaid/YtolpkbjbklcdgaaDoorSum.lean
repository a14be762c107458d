/- The contracts of shiftFour and Sum, and of the reference's Sum: the checksum of every string. Conditions: the table holds what its text says; the string is no longer than Go's strings can be. -/
import Derived.Test.YtolpkbjbklcdgaaDoorRows
import Derived.Test.YtolpkbjbklcdgaaDoorCrc
import Derived.WalkKit
import Derived.Laws.BitsAllLaws
import Derived.Lib.Hide
import Derived.Outline
import Derived.Deep.DeepFit
namespace Go.Proofs.YtolpkbjbklcdgaaDoor
open Go.RowKit Go.Lib

/-- The table of the program, as its text lays it. -/
def Tab (w : World) : Prop := 0 < w.heap.size ∧ ∀ i, i < 16 → w.cell? ⟨0, i, none⟩ = some (.int .u32 (tab.getD i 0 : Nat))
theorem Tab.below {w w' : World} {B : Nat} (h : Tab w) (hb : Below B w w') (hB : w.heap.size ≤ B) : Tab w' :=
  ⟨Nat.lt_of_lt_of_le h.1 hb.size, fun i hi => (hb.cell (p := ⟨0, i, none⟩) (Nat.lt_of_lt_of_le h.1 hB)).trans (h.2 i hi)⟩
theorem tab_lt : ∀ k : Fin 16, tab.getD k.val 0 < 4294967296 := by decide

theorem ret_int32 {k : IntKind} {a b : Int} (h : a = b) : Ending.returned (.int k a) = .returned (.int k b) := by rw [h]

set_option maxRecDepth 100000 in
theorem shiftFour_any (r : Nat) (w : World) (hr : r < 4294967296) (hT : Tab w) :
    Calls Tryd.prog 29 #[.int .u32 r] w fun e w' => e = .returned (.int .u32 (steps 4 r : Nat)) ∧ w = w' := by
  obtain ⟨t, ht⟩ : ∃ t, t = tab.getD (r % 16) 0 := ⟨_, rfl⟩
  have hc := hT.2 (r % 16) (by omega)
  have hlt := tab_lt ⟨r % 16, by omega⟩
  simp only at hlt
  rw [← ht] at hc hlt
  have hs := steps_four r
  rw [← ht] at hs
  have HS := Lib.hid hs
  clear hs ht hT
  go_enter Tryd.func29, Tryd.ntmps29
  have hx := u32_xor_nat (r / 16) t (by omega) hlt
  rw [show ((r / 16 : Nat) : Int) = (r : Int) / 16 from by omega] at hx
  have HX := Lib.hid hx; clear hx
  go_wp2
  go_ret
  exact ⟨ret_int32 (by rw [HX.out, HS.out]), rfl⟩

theorem take_snoc (s : ByteArray) (k : Nat) (h : k < s.size) : s.data.toList.take (k + 1) = s.data.toList.take k ++ [s[k]] := by
  rw [List.take_succ_eq_append_getElem (by simpa using h)]; rfl

theorem fin_sum {r : Nat} {l : List UInt8} (hr : r < 4294967296) (h : r = reg 4294967295 l) : wrap64 (bits .xor .u32 (r : Int) 4294967295) = (crc l : Nat) := by
  have hx := u32_xor_nat r 4294967295 hr (by omega)
  have h2 : r ^^^ 4294967295 < 4294967296 := Nat.xor_lt_two_pow (n := 32) hr (by omega)
  rw [show ((4294967295 : Nat) : Int) = 4294967295 from rfl] at hx
  rw [hx, crc, ← h]
  exact IntWalk.wrap64_in _ ⟨by omega, by omega⟩
theorem fin_sum' {r : Nat} {l : List UInt8} (hr : r < 4294967296) (h : r = reg 4294967295 l) : wrap64 (bits .xor .u32 IntKind.u32.max (r : Int)) = (crc l : Nat) := by
  have hx := u32_xor_nat 4294967295 r (by omega) hr
  have h2 : 4294967295 ^^^ r < 4294967296 := Nat.xor_lt_two_pow (n := 32) (by omega) hr
  rw [show ((4294967295 : Nat) : Int) = IntKind.u32.max from rfl] at hx
  rw [hx, crc, ← h, Nat.xor_comm]
  rw [Nat.xor_comm] at h2
  exact IntWalk.wrap64_in _ ⟨by omega, by omega⟩

set_option maxRecDepth 100000 in
set_option maxHeartbeats 1000000 in
theorem sum_any (s : ByteArray) (w : World) (hs : s.size ≤ maxLen) (hT : Tab w) :
    Calls Tryd.prog 21 #[.string s] w fun e w' => e = .returned (.int .i64 (crc s.data.toList : Nat)) ∧ w = w' := by
  unfold maxLen at hs
  have HT := Lib.hid hT; clear hT
  go_enter Tryd.func21, Tryd.ntmps21
  go_wp2
  go_loop [3, 4, 7] (fun rr _ kk => ∃ (k r : Nat), k ≤ s.size ∧ kk = .int .i64 k ∧ rr = .int .u32 r ∧ r < 4294967296 ∧ Hid (r = reg 4294967295 (s.data.toList.take k))) (fun _ _ k => s.size - (intOf k).toNat)
  case atStart => exact ⟨0, 4294967295, Nat.zero_le _, rfl, rfl, by omega, Lib.hid rfl⟩
  case round =>
    obtain ⟨k, r, hk, rfl, rfl, hr, HR⟩ := hrel
    by_cases hlt : k < s.size
    · have hb : s[k].toNat < 256 := UInt8.toNat_lt _
      have hq : r ^^^ s[k].toNat < 4294967296 := Nat.xor_lt_two_pow (n := 32) hr (by omega)
      have hx := u32_xor_nat r s[k].toNat hr (by omega)
      have h1 := shiftFour_any (r ^^^ s[k].toNat) w hq HT.out
      have h2 := shiftFour_any (steps 4 (r ^^^ s[k].toNat)) w (steps_lt 4 hq) HT.out
      have H1 := Lib.hid h1; have H2 := Lib.hid h2; clear h1 h2
      go_wp2_with fail
      refine H1.out.mono ?_
      rintro e w' ⟨rfl, rfl⟩
      go_wp2_with fail
      refine H2.out.mono ?_
      rintro e w' ⟨rfl, rfl⟩
      go_wp2
      go_round
      case rel => exact ⟨k + 1, _, by omega, by go_num, rfl, steps_lt 4 (steps_lt 4 hq), by show _ = _; rw [take_snoc s k hlt, reg_snoc, ← HR.out, upd, show 8 = 4 + 4 from rfl, steps_add]⟩
      case measure => simp [intOf]; omega
    · have hl : s.data.toList.take k = s.data.toList := List.take_of_length_le (by show s.data.size ≤ k; have : s.data.size = s.size := rfl; omega)
      have HF := Lib.hid (fin_sum hr (HR.out.trans (by rw [hl]))); clear hl
      go_wp2
      go_ret
      exact ⟨ret_int32 HF.out, rfl⟩

set_option maxRecDepth 100000 in
set_option maxHeartbeats 1000000 in
theorem refsum_any (s : ByteArray) (w : World) (hs : s.size ≤ maxLen) :
    Calls Tryd.prog 22 #[.string s] w fun e w' => e = .returned (.int .i64 (crc s.data.toList : Nat)) ∧ w = w' := by
  unfold maxLen at hs
  go_enter Tryd.func22, Tryd.ntmps22
  go_wp2
  go_loop [3, 4, 5, 6] (fun rr kk _ _ => ∃ (k r : Nat), k ≤ s.size ∧ kk = .int .i64 k ∧ rr = .int .u32 r ∧ r < 4294967296 ∧ Hid (r = reg 4294967295 (s.data.toList.take k))) (fun _ k _ _ => s.size - (intOf k).toNat)
  case atStart => exact ⟨0, 4294967295, Nat.zero_le _, rfl, rfl, by omega, Lib.hid rfl⟩
  case round =>
    obtain ⟨k, r, hk, rfl, rfl, hr, HR⟩ := hrel
    by_cases hlt : k < s.size
    · have hb : s[k].toNat < 256 := UInt8.toNat_lt _
      have hq : r ^^^ s[k].toNat < 4294967296 := Nat.xor_lt_two_pow (n := 32) hr (by omega)
      have hx := u32_xor_nat r s[k].toNat hr (by omega)
      go_wp2
      go_loop [3, 5, 6] (fun rr jj _ => ∃ (j q : Nat), j ≤ 8 ∧ jj = .int .i64 j ∧ rr = .int .u32 q ∧ q < 4294967296 ∧ Hid (steps 8 (r ^^^ s[k].toNat) = steps (8 - j) q)) (fun _ j _ => 8 - (intOf j).toNat)
      case atStart => exact ⟨0, r ^^^ s[k].toNat, by omega, rfl, rfl, hq, Lib.hid rfl⟩
      case round =>
        obtain ⟨j, q, hj, rfl, rfl, hq2, HQ⟩ := hrel
        by_cases hj8 : j < 8
        · have e1 := HQ.out
          rw [show 8 - j = (8 - (j + 1)) + 1 from by omega, steps] at e1
          by_cases ho : q % 2 = 1
          · have ho' : (q : Int) % 2 = 1 := by omega
            have hx2 := u32_xor_nat (q / 2) 2197175160 (by omega) (by omega)
            rw [show ((q / 2 : Nat) : Int) = (q : Int) / 2 from by omega] at hx2
            have hst : step q = q / 2 ^^^ 2197175160 := by unfold step poly; rw [if_pos ho]
            have E1 := Lib.hid e1; have HX2 := Lib.hid hx2; have HST := Lib.hid hst; clear e1 hx2 hst
            go_wp2
            go_round
            case rel => exact ⟨j + 1, step q, by omega, by go_num, by rw [HST.out, ← HX2.out]; rfl, step_lt hq2, E1⟩
            case measure => simp [intOf]; omega
          · have ho' : (q : Int) % 2 = 0 := by omega
            have hst : step q = q / 2 := by unfold step; rw [if_neg ho]
            have E1 := Lib.hid e1; have HST := Lib.hid hst; clear e1 hst
            go_wp2
            go_round
            case rel => exact ⟨j + 1, step q, by omega, by go_num, by rw [HST.out]; go_num, step_lt hq2, E1⟩
            case measure => simp [intOf]; omega
        · have e1 := HQ.out
          rw [show 8 - j = 0 from by omega, steps] at e1
          have E1 := Lib.hid e1; clear e1
          go_wp2
          go_round
          case rel => exact ⟨k + 1, q, by omega, by go_num, rfl, hq2, by show _ = _; rw [take_snoc s k hlt, reg_snoc, ← HR.out, upd, E1.out]⟩
          case measure => simp [intOf]; omega
    · have hl : s.data.toList.take k = s.data.toList := List.take_of_length_le (by show s.data.size ≤ k; have : s.data.size = s.size := rfl; omega)
      have HF := Lib.hid (fin_sum' hr (HR.out.trans (by rw [hl]))); clear hl
      go_wp2
      go_ret
      exact ⟨ret_int32 HF.out, rfl⟩
end Go.Proofs.YtolpkbjbklcdgaaDoor
