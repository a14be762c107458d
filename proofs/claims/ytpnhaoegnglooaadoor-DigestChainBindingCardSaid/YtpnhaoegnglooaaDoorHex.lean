/- The contracts of the statements' helpers hex and binary. Conditions: the string is no longer than 2^50 bytes; the number is not negative. -/
import Derived.Test.YtpnhaoegnglooaaDoorVerExt
namespace Go.Proofs.YtpnhaoegnglooaaDoor
open Go.RowKit Go.Lib

def hexD : ByteArray := ⟨#[48, 49, 50, 51, 52, 53, 54, 55, 56, 57, 97, 98, 99, 100, 101, 102]⟩
def hex1 (b : UInt8) : List UInt8 := [hexD.data.toList.getD (b.toNat / 16) 0, hexD.data.toList.getD (b.toNat % 16) 0]
/-- Bytes in hexadecimal. -/
def hexL (l : List UInt8) : List UInt8 := l.flatMap hex1
theorem take_snoc (s : ByteArray) (k : Nat) (h : k < s.size) : s.data.toList.take (k + 1) = s.data.toList.take k ++ [s[k]] := by
  rw [List.take_succ_eq_append_getElem (by simpa using h)]; rfl
theorem hexL_snoc (s : ByteArray) (k : Nat) (h : k < s.size) : hexL (s.data.toList.take (k + 1)) = hexL (s.data.toList.take k) ++ hex1 s[k] := by
  rw [take_snoc s k h, hexL, List.flatMap_append]; simp [hexL]

/-- One digit. -/
theorem digit_at {P : Program} (t : TypeId) (ht : P.underlying t = some .string) (q : Nat) (hq : q < 16) (w : World) :
    (Instr.slice t (.string hexD) (some (.int .u8 (q : Nat))) (some (.int .u8 ((q : Int) + 1))) none).run P w = .ok (.string ⟨#[hexD.data.toList.getD q 0]⟩) w := by
  have h1 : (q : Int) ≤ (q : Int) + 1 := by omega
  have h2 : (q : Int) + 1 ≤ 16 := by omega
  have h3 : (0 : Int) ≤ (q : Int) + 1 := by omega
  have h4 : ((q : Int) + 1).toNat = q + 1 := by omega
  have hs : hexD.size = 16 := rfl
  have e : ∀ k : Fin 16, hexD.extract k.val (k.val + 1) = ⟨#[hexD.data.toList.getD k.val 0]⟩ := by decide
  have := e ⟨q, hq⟩
  simp only at this
  simp [Instr.slice, run_underlying ht, Instr.sliceBounds, run_sliceBound, h1, h2, h3, h4, hs, this]

set_option maxRecDepth 100000 in
set_option maxHeartbeats 1000000 in
theorem hex_any (s : ByteArray) (w : World) (hs : s.size ≤ 1000) :
    Calls Tryd.prog 39 #[.string s] w fun e w' => e = .returned (.string (mk (hexL s.data.toList))) ∧ ∃ k, w' = w.drewN k := by
  go_enter Tryd.func39, Tryd.ntmps39
  go_wp2
  go_loopw [3, 4] (fun oo ii wr => ∃ (i : Nat) (o : ByteArray), ii = .int .i64 i ∧ i ≤ s.size ∧ oo = .string o ∧ o.size ≤ 2 * i ∧ Hid (o.data.toList = hexL (s.data.toList.take i)) ∧ ∃ k, wr = w.drewN k) (fun _ ii _ => s.size - (intOf ii).toNat)
  case atStart => exact ⟨0, ⟨#[]⟩, rfl, by omega, rfl, Nat.le_refl _, rfl, 0, rfl⟩
  case round =>
    obtain ⟨i, o, rfl, hi, rfl, ho, HO, k, rfl⟩ := hrel
    by_cases hlt : i < s.size
    · have hx : s[i].toNat < 256 := UInt8.toNat_lt _
      have d1 := fun w => digit_at (P := Tryd.prog) 9 Tryd.underlying9 (s[i].toNat / 16) (by omega) w
      have d2 := fun w => digit_at (P := Tryd.prog) 9 Tryd.underlying9 (s[i].toNat % 16) (by omega) w
      rw [show ((s[i].toNat / 16 : Nat) : Int) = (s[i].toNat : Int) / 16 from by omega] at d1
      rw [show ((s[i].toNat % 16 : Nat) : Int) = (s[i].toNat : Int) % 16 from by omega] at d2
      have q1 : (0 : Int) ≤ (i : Int) := by omega
      have q2 : (i : Int) < (s.size : Int) := by omega
      unfold hexD at d1 d2
      go_wp2
      go_quiet (fail)
      go_wp2
      go_roundw
      case rel =>
        refine ⟨i + 1, _, by go_num, by omega, rfl, ?_, ?_, _, rfl⟩
        · rw [ByteArray.size_append, ByteArray.size_append]
          show o.size + 1 + 1 ≤ _; omega
        · show _ = _
          rw [ByteArray.data_append, ByteArray.data_append, Array.toList_append, Array.toList_append, HO.out, hexL_snoc s i hlt, List.append_assoc]
          rfl
      case measure => simp [intOf]; omega
    · have hl : Hid (mk (hexL s.data.toList) = o) := by
        show _ = _
        have e : s.data.toList.take i = s.data.toList := List.take_of_length_le (by rw [str_length]; omega)
        rw [← e, ← HO.out]; rfl
      go_wp2
      go_ret
      exact ⟨by rw [hl.out]; rfl, _, rfl⟩

theorem binary_any (n : Nat) (w : World) (hn : n ≤ 1099511627776) :
    Calls Tryd.prog 33 #[.int .i64 n] w fun e w' => e = .returned (.int .i64 (binB n : Nat)) ∧ w = w' := by
  go_enter Tryd.func33, Tryd.ntmps33
  go_wp2
  go_loop [0, 3] (fun nn kk => ∃ m k : Nat, nn = .int .i64 m ∧ kk = .int .i64 k ∧ m ≤ 1099511627776 ∧ m + k ≤ 1099511627776 ∧ Hid (binB n = k + binB m)) (fun nn _ => (intOf nn).toNat)
  case atStart => exact ⟨n, 0, rfl, rfl, hn, by omega, by show _ = _; omega⟩
  case round =>
    obtain ⟨m, k, rfl, rfl, hm, hmk, HB⟩ := hrel
    by_cases hlt : 0 < m
    · go_wp2
      go_round
      case rel => exact ⟨m / 2, k + 1, by go_num, by go_num, by omega, by omega, by show _ = _; rw [HB.out, binB_pos hlt]; omega⟩
      case measure => simp [intOf]; omega
    · have h0 : Hid (binB n = k) := by show _ = _; rw [HB.out, show m = 0 from by omega, binB_zero]; omega
      go_wp2
      go_ret
      exact ⟨by rw [h0.out]; rfl, rfl⟩
end Go.Proofs.YtpnhaoegnglooaaDoor
