/- WireRoundTrip answers true, and changes nothing that lay in memory. Conditions: the integer is of its Go type, the strings are no longer than Go's strings can be, the table holds what its text says. -/
import Derived.Test.YtolpkbjbklcdgaaDoorLawA
namespace Go.Proofs.YtolpkbjbklcdgaaDoor
open Go.RowKit Go.Lib

theorem drop_app (p : ByteArray) (l : List UInt8) : (p.data.toList ++ l).drop p.size = l := by
  have : p.data.toList.length = p.size := rfl
  rw [← this, List.drop_left]

set_option maxRecDepth 100000 in
set_option maxHeartbeats 2000000 in
theorem law4_any (c : Int) (s x y : ByteArray) (w : World) (hc0 : -9223372036854775808 ≤ c) (hc1 : c ≤ 9223372036854775807) (hT : Tab w) :
    Calls Tryd.prog 4 #[.int .i64 c, .string s, .agg #[.string x, .string y]] w fun e w' => e = .returned (.bool true) ∧ Below w.heap.size w w' := by
  obtain ⟨T, m, hm1, hm2, hm3, -, hif, hsl⟩ := cut_at (P := Tryd.prog) 9 Tryd.underlying9 s 200 (by omega)
  obtain ⟨p, k, hk1, hk2, hk3, -, hif2, hsl2⟩ := cut_at (P := Tryd.prog) 9 Tryd.underlying9 x 200 (by omega)
  obtain ⟨q, j, hj1, hj2, hj3, -, hif3, hsl3⟩ := cut_at (P := Tryd.prog) 9 Tryd.underlying9 y 200 (by omega)
  subst hm3; subst hk3; subst hj3
  have C1 := Lib.hid fun w => numberFrom_any c w hc0 hc1
  have C2 := Lib.hid fun w => putE_any (numV c) w (numV_ok c)
  have C3 := Lib.hid fun w => putS_any T w (by omega)
  have hb := E_bounds (numV_ok c)
  have hbS : (S T).size ≤ 300 := by rw [S_size]; have := E_bounds (n := T.size) (by unfold okI; omega); omega
  obtain ⟨hb1, hb2⟩ := hb
  have hsz1 : (p ++ E (numV c) ++ q).size = p.size + (E (numV c)).size + q.size := by rw [ByteArray.size_append, ByteArray.size_append]
  have hsz2 : (p ++ S T ++ q).size = p.size + (S T).size + q.size := by rw [ByteArray.size_append, ByteArray.size_append]
  have C4 : Hid (∀ w, Calls Tryd.prog 15 #[.string (p ++ E (numV c) ++ q), .int .i64 p.size] w fun e w' => e = .returned (.tuple #[.int .i64 (numV c), .int .i64 (p.size + (E (numV c)).size), .int .i64 0]) ∧ w = w') := Lib.hid fun w => by
    have h := int_any (p ++ E (numV c) ++ q) p.size w (by rw [hsz1]; unfold maxLen; omega) (by rw [hsz1]; omega)
    rw [ByteArray.data_append, ByteArray.data_append, Array.toList_append, Array.toList_append, List.append_assoc, drop_app, E_list, dec_enc (numV_ok c)] at h
    exact h
  have C5 : Hid (∀ w, Calls Tryd.prog 17 #[.string (p ++ S T ++ q), .int .i64 p.size] w fun e w' => e = .returned (.tuple #[.string T, .int .i64 (p.size + (S T).size), .int .i64 0]) ∧ Below w.heap.size w w') := Lib.hid fun w => by
    have h := string_any (p ++ S T ++ q) p.size w (by rw [hsz2]; unfold maxLen; omega) (by rw [hsz2]; omega)
    rw [ByteArray.data_append, ByteArray.data_append, Array.toList_append, Array.toList_append, List.append_assoc, drop_app, S_list, List.append_assoc, decS_S (by omega)] at h
    dsimp only [strV] at h
    rw [show (p ++ S T ++ q).extract (p.size + (enc T.size).length) (p.size + (enc T.size).length + T.size) = T from by
      apply ByteArray.ext
      rw [ByteArray.data_extract, ByteArray.data_append, ByteArray.data_append]
      apply Array.toList_inj.1
      rw [Array.toList_extract, Array.toList_append, Array.toList_append, S_list, List.extract_eq_take_drop]
      have e1 : p.data.toList.length = p.size := rfl
      have e2 : T.data.toList.length = T.size := rfl
      rw [List.append_assoc, List.append_assoc, ← List.drop_drop, drop_app, List.drop_left, Nat.add_sub_cancel_left, ← e2, List.take_left]] at h
    rw [S_size, E_size]
    have e : ((p.size : Int) + ((enc T.size).length + T.size : Nat) : Int) = (p.size : Int) + (enc T.size).length + T.size := by omega
    rw [e]
    exact h
  have HT := Lib.hid hT; clear hT
  clear hsz1 hsz2
  obtain ⟨wA, hwA⟩ : ∃ wA, wA = w.alloc (.cells #[.string x, .string y] 36) := ⟨_, rfl⟩
  have bA : Below w.heap.size w wA := by rw [hwA]; exact (Below.refl _ w).alloc (Nat.le_refl _) _
  have sA : w.heap.size < wA.heap.size := by rw [hwA]; simp
  have hA0 : wA.cell? ⟨w.heap.size, 0, none⟩ = some (.string x) := by rw [hwA, World.cell?_alloc_mark]; rfl
  have hA1 : wA.cell? ⟨w.heap.size, 1, none⟩ = some (.string y) := by rw [hwA, World.cell?_alloc_mark]; rfl
  have hc0' := sane_any wA (HT.out.below bA (Nat.le_refl _))
  rw [hwA] at hc0'
  have C0 := Lib.hid hc0'; clear hc0'
  have HA := Lib.hid hwA; have HA0 := Lib.hid hA0; have HA1 := Lib.hid hA1; clear hwA hA0 hA1
  go_enter Tryd.func4, Tryd.ntmps4
  go_wp2_with fail
  refine C0.out.mono ?_
  rintro e w1 ⟨rfl, b1⟩
  rw [← HA.out] at b1
  go_wp2_with fail
  refine (C1.out _).mono ?_
  rintro e w2 ⟨rfl, b2⟩
  have b := Below_step b1 b2 (Nat.le_refl _)
  have h0 : w2.cell? ⟨w.heap.size, 0, none⟩ = some (.string x) := (b.cell (p := ⟨w.heap.size, 0, none⟩) sA).trans HA0.out
  have h1 : w2.cell? ⟨w.heap.size, 1, none⟩ = some (.string y) := (b.cell (p := ⟨w.heap.size, 1, none⟩) sA).trans HA1.out
  clear b1 b2
  go_wp2_with fail
  refine (C2.out _).mono ?_
  rintro e w3 ⟨rfl, b3⟩
  clear h0 h1
  go_wp2_with fail
  refine (C3.out _).mono ?_
  rintro e w4 ⟨rfl, b4⟩
  go_wp2_with fail
  refine (C4.out _).mono ?_
  rintro e w' ⟨rfl, rfl⟩
  go_wp2_with fail
  refine (C5.out _).mono ?_
  rintro e w5 ⟨rfl, b5⟩
  have b' := bA.trans ((Below_step (Below_step (Below_step b b3 (Nat.le_refl _)) b4 (Nat.le_refl _)) b5 (Nat.le_refl _)).mono (Nat.le_of_lt sA))
  clear b b3 b4 b5
  go_wp2_with fail
  go_ret
  exact ⟨rfl, b'⟩
end Go.Proofs.YtolpkbjbklcdgaaDoor
