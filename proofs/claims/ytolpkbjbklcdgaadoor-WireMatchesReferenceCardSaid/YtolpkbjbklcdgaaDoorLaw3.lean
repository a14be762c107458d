/- WireMatchesReference answers true, and changes nothing that lay in memory. Conditions: the integers are of their Go types, the table holds what its text says. -/
import Derived.Test.YtolpkbjbklcdgaaDoorRefStr
import Derived.Test.YtolpkbjbklcdgaaDoorLawA
namespace Go.Proofs.YtolpkbjbklcdgaaDoor
open Go.RowKit Go.Lib

/-- Int and the reference's Int return the same. -/
theorem int_pair (t : ByteArray) (a : Int) (hs : t.size ≤ maxLen) :
    ∃ (n nx e : Int), (∀ w, Calls Tryd.prog 15 #[.string t, .int .i64 a] w fun e' w' => e' = .returned (.tuple #[.int .i64 n, .int .i64 nx, .int .i64 e]) ∧ w = w') ∧
      (∀ w, Calls Tryd.prog 16 #[.string t, .int .i64 a] w fun e' w' => e' = .returned (.tuple #[.int .i64 n, .int .i64 nx, .int .i64 e]) ∧ Below w.heap.size w w') := by
  by_cases h : 0 ≤ a ∧ a ≤ t.size
  · obtain ⟨k, rfl⟩ := Int.eq_ofNat_of_zero_le h.1
    have h1 := fun w => int_any t k w hs (by omega)
    have h2 := fun w => refint_any t k w hs (by omega)
    rcases hd : dec (t.data.toList.drop k) with _ | ⟨n, j⟩
    · rw [hd] at h1 h2; exact ⟨_, _, _, h1, h2⟩
    · rw [hd] at h1 h2; exact ⟨_, _, _, h1, h2⟩
  · exact ⟨_, _, _, fun w => int_out t a w h, fun w => refint_out t a w h⟩
/-- String and the reference's String return the same. -/
theorem str_pair (t : ByteArray) (a : Int) (hs : t.size ≤ maxLen) :
    ∃ (v : ByteArray) (nx e : Int), (∀ w, Calls Tryd.prog 17 #[.string t, .int .i64 a] w fun e' w' => e' = .returned (.tuple #[.string v, .int .i64 nx, .int .i64 e]) ∧ Below w.heap.size w w') ∧
      (∀ w, Calls Tryd.prog 18 #[.string t, .int .i64 a] w fun e' w' => e' = .returned (.tuple #[.string v, .int .i64 nx, .int .i64 e]) ∧ Below w.heap.size w w') := by
  by_cases h : 0 ≤ a ∧ a ≤ t.size
  · obtain ⟨k, rfl⟩ := Int.eq_ofNat_of_zero_le h.1
    have h1 := fun w => string_any t k w hs (by omega)
    have h2 := fun w => refstring_any t k w hs (by omega)
    rcases hd : decS (t.data.toList.drop k) with _ | ⟨n, j⟩
    · rw [hd] at h1 h2; exact ⟨_, _, _, h1, h2⟩
    · rw [hd] at h1 h2; exact ⟨_, _, _, h1, h2⟩
  · exact ⟨_, _, _, fun w => string_out t a w h, fun w => refstring_out t a w h⟩

/-- The two cells of a new block of two integers. -/
theorem two_cells (w : World) (t : TypeId) (x y : Int) (i : Nat) (hi : i < 2) : ∃ K : Int, (K = x ∨ K = y) ∧ (w.alloc (.cells #[.int .i64 x, .int .i64 y] t)).cell? ⟨w.heap.size, i, none⟩ = some (.int .i64 K) := by
  have h := World.cell?_alloc_mark w #[.int .i64 x, .int .i64 y] t (0, 0) i
  match i, hi with
  | 0, _ => exact ⟨x, Or.inl rfl, h⟩
  | 1, _ => exact ⟨y, Or.inr rfl, h⟩

set_option maxRecDepth 100000 in
set_option maxHeartbeats 2000000 in
theorem law3_any (n : Int) (s : ByteArray) (a : Int) (w : World) (hn0 : -9223372036854775808 ≤ n) (hn1 : n ≤ 9223372036854775807) (ha0 : -9223372036854775808 ≤ a) (ha1 : a ≤ 9223372036854775807) (hT : Tab w) :
    Calls Tryd.prog 3 #[.int .i64 n, .string s, .int .i64 a] w fun e w' => e = .returned (.bool true) ∧ Below w.heap.size w w' := by
  obtain ⟨T, m, hm1, hm2, hm3, -, hif, hsl⟩ := cut_at (P := Tryd.prog) 9 Tryd.underlying9 s 300 (by omega)
  subst hm3
  have hTs : T.size ≤ maxLen := by unfold maxLen; omega
  have C1 := Lib.hid fun w => numberFrom_any n w hn0 hn1
  have P1 := Lib.hid fun w => pick_any a ((T.size : Int) + 2) w ha0 ha1 (by omega) (by omega)
  have CP := Lib.hid fun (K : Int) w => putint_any K w
  have CR := Lib.hid fun (K : Int) w => refputint_any K w
  have CS := Lib.hid fun w => putstring_any T w hTs
  have CT := Lib.hid fun w => refputstring_any T w hTs
  have SZ := Lib.hid hTs
  have HT := Lib.hid hT; clear hT hTs
  go_enter Tryd.func3, Tryd.ntmps3
  go_wp2_with fail
  refine (sane_any _ HT.out).mono ?_
  rintro e w1 ⟨rfl, b1⟩
  go_wp2_with fail
  refine (C1.out _).mono ?_
  rintro e w2 ⟨rfl, b2⟩
  have bA := Below_step b1 b2 (Nat.le_refl _)
  clear b1 b2 hsl hif
  go_wp2_with fail
  have bs := bA.size
  have bl := bA.alloc bs (.cells #[.int .i64 n, .int .i64 (numV n)] 3)
  go_loopw [44] (fun ii wr => ∃ i : Nat, ii = .int .i64 i ∧ i ≤ 2 ∧ Below (w2.heap.size + 1) (w2.alloc (.cells #[.int .i64 n, .int .i64 (numV n)] 3)) wr)
    (fun ii _ => 2 - (intOf ii).toNat)
  case atStart => exact ⟨0, rfl, by omega, Below.refl _ _⟩
  case round =>
    obtain ⟨i, rfl, hi, hbr⟩ := hrel
    by_cases hi2 : i < 2
    · obtain ⟨K, -, hK2⟩ := two_cells w2 3 n (numV n) i hi2
      have hK3 : wr.cell? ⟨w2.heap.size, i, none⟩ = some (.int .i64 K) := (hbr.cell (p := ⟨w2.heap.size, i, none⟩) (by show w2.heap.size < w2.heap.size + 1; omega)).trans hK2
      clear hK2
      go_wp2_with fail
      refine (CP.out K _).mono ?_
      rintro e w3 ⟨rfl, b3⟩
      clear hK3
      go_wp2_with fail
      refine (CR.out K _).mono ?_
      rintro e w4 ⟨rfl, b4⟩
      go_wp2_with fail
      go_roundw
      case rel => exact ⟨i + 1, by go_num, by omega, Below_step (Below_step hbr b3 (by simp)) b4 (by simp)⟩
      case measure => simp [intOf]; omega
    · obtain ⟨wo, rfl⟩ : ∃ wo : World, wo = wr := ⟨_, rfl⟩
      have bB := bl.trans (hbr.mono (by omega))
      clear hbr
      go_wp2_with fail
      refine (P1.out _).mono ?_
      rintro e w' ⟨rfl, rfl⟩
      go_wp2_with fail
      have bs2 := bB.size
      have bl2 := bB.alloc bs2 (.cells #[.int .i64 a, .int .i64 (pickV a ((T.size : Int) + 2))] 3)
      go_loopw [75] (fun ii wr => ∃ i : Nat, ii = .int .i64 i ∧ i ≤ 2 ∧ Below (wo.heap.size + 1) (wo.alloc (.cells #[.int .i64 a, .int .i64 (pickV a ((T.size : Int) + 2))] 3)) wr)
        (fun ii _ => 2 - (intOf ii).toNat)
      case atStart => exact ⟨0, rfl, by omega, Below.refl _ _⟩
      case round =>
        obtain ⟨i, rfl, hi, hbr⟩ := hrel
        by_cases hi2 : i < 2
        · obtain ⟨K, -, hK2⟩ := two_cells wo 3 a (pickV a ((T.size : Int) + 2)) i hi2
          have hK3 : wr.cell? ⟨wo.heap.size, i, none⟩ = some (.int .i64 K) := (hbr.cell (p := ⟨wo.heap.size, i, none⟩) (by show wo.heap.size < wo.heap.size + 1; omega)).trans hK2
          clear hK2
          obtain ⟨x1, x2, x3, q1, q2⟩ := int_pair T K SZ.out
          obtain ⟨y1, y2, y3, q3, q4⟩ := str_pair T K SZ.out
          have Q1 := Lib.hid q1; have Q2 := Lib.hid q2; have Q3 := Lib.hid q3; have Q4 := Lib.hid q4
          clear q1 q2 q3 q4
          go_wp2_with fail
          refine (Q1.out _).mono ?_
          rintro e w' ⟨rfl, rfl⟩
          clear hK3
          go_wp2_with fail
          refine (Q2.out _).mono ?_
          rintro e w3 ⟨rfl, b3⟩
          go_wp2_with fail
          refine (Q3.out _).mono ?_
          rintro e w4 ⟨rfl, b4⟩
          go_wp2_with fail
          refine (Q4.out _).mono ?_
          rintro e w5 ⟨rfl, b5⟩
          go_wp2_with fail
          go_roundw
          case rel => exact ⟨i + 1, by go_num, by omega, Below_step (Below_step (Below_step hbr b3 (by simp)) b4 (by simp)) b5 (by simp)⟩
          case measure => simp [intOf]; omega
        · have bC := bl2.trans (hbr.mono (by omega))
          clear hbr
          go_wp2_with fail
          refine (CS.out _).mono ?_
          rintro e w3 ⟨rfl, b3⟩
          go_wp2_with fail
          refine (CT.out _).mono ?_
          rintro e w4 ⟨rfl, b4⟩
          have bD := Below_step (Below_step bC b3 (Nat.le_refl _)) b4 (Nat.le_refl _)
          have TW := Lib.hid (HT.out.below bD (Nat.le_refl _))
          clear bC b3 b4
          go_wp2_with fail
          refine (sum_any T _ SZ.out TW.out).mono ?_
          rintro e w' ⟨rfl, rfl⟩
          go_wp2_with fail
          refine (refsum_any T _ SZ.out).mono ?_
          rintro e w' ⟨rfl, rfl⟩
          go_wp2_with fail
          go_ret
          exact ⟨rfl, bD⟩
end Go.Proofs.YtolpkbjbklcdgaaDoor
