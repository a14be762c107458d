/- Words that the statements' walks share: the cut of a string, an encoding under a name, how memory grows from call to call. -/
import Derived.Test.YtolpkbjbklcdgaaDoorSane
import Derived.Lib.Strings
namespace Go.Proofs.YtolpkbjbklcdgaaDoor
open Go.RowKit Go.Lib

theorem Below_step {B : Nat} {w w1 w2 : World} (h : Below B w w1) (h2 : Below w1.heap.size w1 w2) (hB : B ≤ w.heap.size) : Below B w w2 := h.trans (h2.mono (Nat.le_trans hB h.size))

/-- 's[:min(len(s), N)]' under a name. -/
theorem cut_at {P : Program} (t : TypeId) (ht : P.underlying t = some .string) (s : ByteArray) (N : Int) (hN : 0 ≤ N) :
    ∃ (T : ByteArray) (m : Nat), (m : Int) ≤ N ∧ m ≤ s.size ∧ T.size = m ∧ T = s.extract 0 m ∧ (if N < (s.size : Int) then N else (s.size : Int)) = (m : Int) ∧
      ∀ w, (Instr.slice t (.string s) none (some (.int .i64 (m : Int))) none).run P w = .ok (.string T) w := by
  obtain ⟨m, hm⟩ : ∃ m : Nat, (m : Int) = if N < (s.size : Int) then N else (s.size : Int) := ⟨(if N < (s.size : Int) then N else (s.size : Int)).toNat, by split <;> omega⟩
  have h1 : (m : Int) ≤ N := by rw [hm]; split <;> omega
  have h2 : m ≤ s.size := by have : (m : Int) ≤ s.size := by rw [hm]; split <;> omega
                             omega
  refine ⟨s.extract 0 m, m, h1, h2, by simp; omega, rfl, hm.symm, fun w => ?_⟩
  rw [run_slice_string_h w t s ht .i64 m (by omega) (by omega)]
  simp

theorem extract_list (s : ByteArray) (k : Nat) : (s.extract 0 k).data.toList = s.data.toList.take k := by simp [ByteArray.data_extract]

/-- An encoding of an integer as a string. -/
def E (n : Int) : ByteArray := ⟨(enc n).toArray⟩
theorem E_size (n : Int) : (E n).size = (enc n).length := rfl
theorem E_list (n : Int) : (E n).data.toList = enc n := rfl
/-- An encoding of a string. -/
def S (s : ByteArray) : ByteArray := E s.size ++ s
theorem S_size (s : ByteArray) : (S s).size = (E s.size).size + s.size := by unfold S; exact ByteArray.size_append
theorem S_list (s : ByteArray) : (S s).data.toList = enc s.size ++ s.data.toList := by unfold S; simp [ByteArray.data_append, E_list]

theorem putE_any (n : Int) (w : World) (h : okI n) :
    Calls Tryd.prog 12 #[.int .i64 n] w fun e w' => e = .returned (.tuple #[.string (E n), .int .i64 0]) ∧ Below w.heap.size w w' := putint_ok n w h.1 h.2
theorem putS_any (s : ByteArray) (w : World) (h : s.size ≤ 65536) :
    Calls Tryd.prog 19 #[.string s] w fun e w' => e = .returned (.tuple #[.string (S s), .int .i64 0]) ∧ Below w.heap.size w w' := by
  have h2 := putstring_any s w (by unfold maxLen; omega)
  unfold putSS putSE at h2
  rw [if_pos h, if_pos h] at h2
  exact h2
theorem E_bounds {n : Int} (h : okI n) : 1 ≤ (E n).size ∧ (E n).size ≤ 9 := ⟨enc_pos n, enc_length h⟩

theorem dec_S {s : ByteArray} (h : s.size ≤ 65536) (r : List UInt8) : dec (enc s.size ++ r) = some ((s.size : Int), (enc s.size).length) := dec_enc (by unfold okI; omega) r
theorem decS_S {s : ByteArray} (h : s.size ≤ 65536) (r : List UInt8) : decS (enc s.size ++ (s.data.toList ++ r)) = some (s.size, (enc s.size).length) := by
  unfold decS
  rw [dec_S h]
  have hl : s.data.toList.length = s.size := rfl
  simp only [List.length_append]
  rw [if_pos ⟨by omega, by omega, by omega⟩]
  simp
/-- No proper prefix of an encoding of a string is accepted. -/
theorem decS_short {s : ByteArray} (h : s.size ≤ 65536) {k : Nat} (hk : k < (S s).size) : decS ((S s).data.toList.take k) = none := by
  rw [S_size, E_size] at hk
  rw [S_list]
  unfold decS
  by_cases h2 : k < (enc s.size).length
  · rw [List.take_append_of_le_length (by omega), dec_short (by unfold okI; omega) h2]
  · rw [List.take_append, List.take_of_length_le (by omega), dec_S h]
    have hl : s.data.toList.length = s.size := rfl
    simp only [List.length_append, List.length_take]
    rw [if_neg (by omega)]
end Go.Proofs.YtolpkbjbklcdgaaDoor
