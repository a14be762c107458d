/- The contracts of the statements' helpers hex and binary. Conditions: the string is no longer than 2^50 bytes; the number is not negative. -/
import Derived.Test.YthaegodeijfbdaaDoorVerExt
namespace Go.Proofs.YthaegodeijfbdaaDoor
open Go.RowKit Go.Lib

def hexD : ByteArray := ⟨#[48, 49, 50, 51, 52, 53, 54, 55, 56, 57, 97, 98, 99, 100, 101, 102]⟩
def hex1 (b : UInt8) : List UInt8 := [hexD.data.toList.getD (b.toNat / 16) 0, hexD.data.toList.getD (b.toNat % 16) 0]
/-- Bytes in hexadecimal. -/
def hexL (l : List UInt8) : List UInt8 := l.flatMap hex1
theorem take_snoc (s : ByteArray) (k : Nat) (h : k < s.size) : s.data.toList.take (k + 1) = s.data.toList.take k ++ [s[k]] := by
  rw [List.take_succ_eq_append_getElem (by simpa using h)]; rfl
theorem hexL_snoc (s : ByteArray) (k : Nat) (h : k < s.size) : hexL (s.data.toList.take (k + 1)) = hexL (s.data.toList.take k) ++ hex1 s[k] := by
  rw [take_snoc s k h, hexL, List.flatMap_append]; simp [hexL]

/-- One digit. -/
theorem digit_at {P : Program} (t : TypeId) (ht : P.underlying t = some .string) (q : Nat) (hq : q < 16) (w : World) :
    (Instr.slice t (.string hexD) (some (.int .u8 (q : Nat))) (some (.int .u8 ((q : Int) + 1))) none).run P w = .ok (.string ⟨#[hexD.data.toList.getD q 0]⟩) w := by
  have h1 : (q : Int) ≤ (q : Int) + 1 := by omega
  have h2 : (q : Int) + 1 ≤ 16 := by omega
  have h3 : (0 : Int) ≤ (q : Int) + 1 := by omega
  have h4 : ((q : Int) + 1).toNat = q + 1 := by omega
  have hs : hexD.size = 16 := rfl
  have e : ∀ k : Fin 16, hexD.extract k.val (k.val + 1) = ⟨#[hexD.data.toList.getD k.val 0]⟩ := by decide
  have := e ⟨q, hq⟩
  simp only at this
  simp [Instr.slice, run_underlying ht, Instr.sliceBounds, run_sliceBound, h1, h2, h3, h4, hs, this]

set_option maxRecDepth 100000 in
set_option maxHeartbeats 1000000 in
theorem hex_any (s : ByteArray) (w : World) (hs : s.size ≤ 1000) :
    Calls Tryd.prog 27 #[.string s] w fun e w' => e = .returned (.string (mk (hexL s.data.toList))) ∧ ∃ k, w' = w.drewN k := by
  go_enter Tryd.func27, Tryd.ntmps27
  go_wp2
  go_loopw [3, 4] (fun oo ii wr => ∃ (i : Nat) (o : ByteArray), ii = .int .i64 i ∧ i ≤ s.size ∧ oo = .string o ∧ o.size ≤ 2 * i ∧ Hid (o.data.toList = hexL (s.data.toList.take i)) ∧ ∃ k, wr = w.drewN k) (fun _ ii _ => s.size - (intOf ii).toNat)
  case atStart => exact ⟨0, ⟨#[]⟩, rfl, by omega, rfl, Nat.le_refl _, rfl, 0, rfl⟩
  case round =>
    obtain ⟨i, o, rfl, hi, rfl, ho, HO, k, rfl⟩ := hrel
    by_cases hlt : i < s.size
    · have hx : s[i].toNat < 256 := UInt8.toNat_lt _
      have d1 := fun w => digit_at (P := Tryd.prog) 9 Tryd.underlying9 (s[i].toNat / 16) (by omega) w
      have d2 := fun w => digit_at (P := Tryd.prog) 9 Tryd.underlying9 (s[i].toNat % 16) (by omega) w
      rw [show ((s[i].toNat / 16 : Nat) : Int) = (s[i].toNat : Int) / 16 from by omega] at d1
      rw [show ((s[i].toNat % 16 : Nat) : Int) = (s[i].toNat : Int) % 16 from by omega] at d2
      have q1 : (0 : Int) ≤ (i : Int) := by omega
      have q2 : (i : Int) < (s.size : Int) := by omega
      unfold hexD at d1 d2
      go_wp2
      go_quiet (fail)
      go_wp2
      go_roundw
      case rel =>
        refine ⟨i + 1, _, by go_num, by omega, rfl, ?_, ?_, _, rfl⟩
        · rw [ByteArray.size_append, ByteArray.size_append]
          show o.size + 1 + 1 ≤ _; omega
        · show _ = _
          rw [ByteArray.data_append, ByteArray.data_append, Array.toList_append, Array.toList_append, HO.out, hexL_snoc s i hlt, List.append_assoc]
          rfl
      case measure => simp [intOf]; omega
    · have hl : Hid (mk (hexL s.data.toList) = o) := by
        show _ = _
        have e : s.data.toList.take i = s.data.toList := List.take_of_length_le (by rw [str_length]; omega)
        rw [← e, ← HO.out]; rfl
      go_wp2
      go_ret
      exact ⟨by rw [hl.out]; rfl, _, rfl⟩
end Go.Proofs.YthaegodeijfbdaaDoor
