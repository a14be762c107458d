/- WireTruncated answers true, and changes nothing that lay in memory. Conditions: the integers are of their Go types, the string is no longer than Go's strings can be, the table holds what its text says. -/
import Derived.Test.YtolpkbjbklcdgaaDoorLawA
namespace Go.Proofs.YtolpkbjbklcdgaaDoor
open Go.RowKit Go.Lib

set_option maxRecDepth 100000 in
set_option maxHeartbeats 2000000 in
theorem law7_any (c d a : Int) (s : ByteArray) (w : World) (hc0 : -9223372036854775808 ≤ c) (hc1 : c ≤ 9223372036854775807) (hd0 : -9223372036854775808 ≤ d) (hd1 : d ≤ 9223372036854775807)
    (ha0 : -9223372036854775808 ≤ a) (ha1 : a ≤ 9223372036854775807) (hT : Tab w) :
    Calls Tryd.prog 7 #[.int .i64 c, .int .i64 d, .string s, .int .i64 a] w fun e w' => e = .returned (.bool true) ∧ Below w.heap.size w w' := by
  obtain ⟨T, m, hm1, hm2, hm3, -, hif, hsl⟩ := cut_at (P := Tryd.prog) 9 Tryd.underlying9 s 200 (by omega)
  have C1 := Lib.hid fun w => numberFrom_any c w hc0 hc1
  have C2 := Lib.hid fun w => numberFrom_any d w hd0 hd1
  have C3 := Lib.hid fun w => putE_any (numV c) w (numV_ok c)
  have C4 := Lib.hid fun w => putE_any (numV d) w (numV_ok d)
  have C5 := Lib.hid fun w => putS_any T w (by omega)
  have hx := E_bounds (numV_ok c)
  have hy := E_bounds (numV_ok d)
  have hz : 1 ≤ (S T).size ∧ (S T).size ≤ 300 := by rw [S_size]; have := E_bounds (n := T.size) (by unfold okI; omega); omega
  obtain ⟨p, hp⟩ : ∃ p : Nat, (p : Int) = pickV a (E (numV c)).size := ⟨(pickV a (E (numV c)).size).toNat, by have := pickV_range (c := a) (n := (E (numV c)).size) (by omega); omega⟩
  obtain ⟨q, hq⟩ : ∃ q : Nat, (q : Int) = pickV a (S T).size := ⟨(pickV a (S T).size).toNat, by have := pickV_range (c := a) (n := (S T).size) (by omega); omega⟩
  have hp1 : p < (E (numV c)).size := by have := pickV_range (c := a) (n := (E (numV c)).size) (by omega); omega
  have hq1 : q < (S T).size := by have := pickV_range (c := a) (n := (S T).size) (by omega); omega
  have P1 := Lib.hid fun w => pick_any a (E (numV c)).size w ha0 ha1 (by omega) (by omega)
  have P3 := Lib.hid fun w => pick_any a (S T).size w ha0 ha1 (by omega) (by omega)
  rw [← hp] at P1
  rw [← hq] at P3
  have P2 : Hid (∀ w, Calls Tryd.prog 15 #[.string ((E (numV c)).extract 0 p), .int .i64 0] w fun e w' => e = .returned (.tuple #[.int .i64 0, .int .i64 0, .int .i64 10]) ∧ w = w') := Lib.hid fun w => by
    have h := int_any ((E (numV c)).extract 0 p) 0 w (by rw [ByteArray.size_extract]; unfold maxLen; omega) (Nat.zero_le _)
    rw [List.drop_zero, extract_list, E_list, dec_short (numV_ok c) (by rw [← E_size]; exact hp1)] at h
    exact h
  have P4 : Hid (∀ w, Calls Tryd.prog 17 #[.string ((S T).extract 0 q), .int .i64 0] w fun e w' => e = .returned (.tuple #[.string ⟨#[]⟩, .int .i64 0, .int .i64 10]) ∧ Below w.heap.size w w') := Lib.hid fun w => by
    have h := string_any ((S T).extract 0 q) 0 w (by rw [ByteArray.size_extract]; unfold maxLen; omega) (Nat.zero_le _)
    rw [List.drop_zero, extract_list, decS_short (by omega) hq1] at h
    exact h
  clear hp hq
  have hE1 : (((E (numV c)).size : Int) == 0) = false := by rw [beq_eq_false_iff_ne]; omega
  have hS1 : (((S T).size : Int) == 0) = false := by rw [beq_eq_false_iff_ne]; omega
  have hkey : ((E (numV c)).size ≤ (E (numV d)).size ∧ (((E (numV d)).extract 0 (E (numV c)).size).toList == (E (numV c)).toList) = true ∧ (numV c == numV d) = true) ∨
      ((E (numV c)).size ≤ (E (numV d)).size ∧ (((E (numV d)).extract 0 (E (numV c)).size).toList == (E (numV c)).toList) = false ∧ (numV c == numV d) = false) ∨
      ((¬ (E (numV c)).size ≤ (E (numV d)).size) ∧ (numV c == numV d) = false) := by
    by_cases heq : numV c = numV d
    · refine Or.inl ⟨by rw [heq]; exact Nat.le_refl _, ?_, by rw [heq]; exact beq_self_eq_true _⟩
      rw [← heq, beq_iff_eq, Lib.toList_data, Lib.toList_data, extract_list]
      exact List.take_of_length_le (Nat.le_refl _)
    · have hb : (numV c == numV d) = false := by rw [beq_eq_false_iff_ne]; exact heq
      by_cases hle : (E (numV c)).size ≤ (E (numV d)).size
      · refine Or.inr (Or.inl ⟨hle, ?_, hb⟩)
        rw [beq_eq_false_iff_ne, Lib.toList_data, Lib.toList_data, extract_list]
        intro h
        rw [E_list, E_list] at h
        refine heq (enc_prefix (numV_ok c) (numV_ok d) (r := (enc (numV d)).drop (E (numV c)).size) (r' := []) ?_)
        rw [← h, List.take_append_drop, List.append_nil]
      · exact Or.inr (Or.inr ⟨hle, hb⟩)
  obtain ⟨hx1, hx2⟩ := hx
  obtain ⟨hy1, hy2⟩ := hy
  obtain ⟨hz1, hz2⟩ := hz
  have HT := Lib.hid hT; clear hT
  go_enter Tryd.func7, Tryd.ntmps7
  go_wp2_with fail
  refine (sane_any _ HT.out).mono ?_
  rintro e w1 ⟨rfl, b1⟩
  go_wp2_with fail
  refine (C1.out _).mono ?_
  rintro e w2 ⟨rfl, b2⟩
  go_wp2_with fail
  refine (C3.out _).mono ?_
  rintro e w3 ⟨rfl, b3⟩
  go_wp2_with fail
  refine (C2.out _).mono ?_
  rintro e w4 ⟨rfl, b4⟩
  go_wp2_with fail
  refine (C4.out _).mono ?_
  rintro e w5 ⟨rfl, b5⟩
  go_wp2_with fail
  refine (C5.out _).mono ?_
  rintro e w6 ⟨rfl, b6⟩
  have b := Below_step (Below_step (Below_step (Below_step (Below_step b1 b2 (Nat.le_refl _)) b3 (Nat.le_refl _)) b4 (Nat.le_refl _)) b5 (Nat.le_refl _)) b6 (Nat.le_refl _)
  clear b1 b2 b3 b4 b5 b6
  go_wp2_with fail
  refine (P1.out _).mono ?_
  rintro e w' ⟨rfl, rfl⟩
  go_wp2_with fail
  refine (P2.out _).mono ?_
  rintro e w' ⟨rfl, rfl⟩
  go_wp2_with fail
  refine (P3.out _).mono ?_
  rintro e w' ⟨rfl, rfl⟩
  go_wp2_with fail
  refine (P4.out _).mono ?_
  rintro e w7 ⟨rfl, b7⟩
  have b := Below_step b b7 (Nat.le_refl _)
  clear b7
  rcases hkey with ⟨hle, hpre, hb⟩ | ⟨hle, hpre, hb⟩ | ⟨hle, hb⟩
  all_goals
    go_wp2_with fail
    refine (C1.out _).mono ?_
    rintro e w8 ⟨rfl, b8⟩
    go_wp2_with fail
    refine (C2.out _).mono ?_
    rintro e w9 ⟨rfl, b9⟩
    have b := Below_step (Below_step b b8 (Nat.le_refl _)) b9 (Nat.le_refl _)
    clear b8 b9
    go_wp2_with fail
    go_ret
    exact ⟨rfl, b⟩
end Go.Proofs.YtolpkbjbklcdgaaDoor
