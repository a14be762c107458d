/- The contracts of pick, NumberFrom and sane: the helpers of the statements. Condition of sane: the table holds what its text says. -/
import Derived.Test.YtolpkbjbklcdgaaDoorStr
import Derived.Test.YtolpkbjbklcdgaaDoorSum
namespace Go.Proofs.YtolpkbjbklcdgaaDoor
open Go.RowKit Go.Lib

/-- What pick returns. -/
def pickV (c n : Int) : Int := (if c < 0 then -(c + 1) else c) % n
theorem pickV_range {c n : Int} (hn : 0 < n) : 0 ≤ pickV c n ∧ pickV c n < n := ⟨Int.emod_nonneg _ (by omega), Int.emod_lt_of_pos _ hn⟩

theorem pick_any (c n : Int) (w : World) (hc0 : -9223372036854775808 ≤ c) (hc1 : c ≤ 9223372036854775807) (hn : 1 ≤ n) (hn1 : n ≤ 9223372036854775807) :
    Calls Tryd.prog 14 #[.int .i64 c, .int .i64 n] w fun e w' => e = .returned (.int .i64 (pickV c n)) ∧ w = w' := by
  by_cases h : c < 0
  · have hp : pickV c n = -((c + 1).tmod n) := by unfold pickV; rw [if_pos h, ← Int.neg_tmod, Int.tmod_eq_emod_of_nonneg (by omega)]
    have HP := Lib.hid hp; clear hp
    go_enter Tryd.func14, Tryd.ntmps14
    go_wp2
    go_ret
    exact ⟨ret_int32 HP.out.symm, rfl⟩
  · have hp : pickV c n = c % n := by unfold pickV; rw [if_neg h]
    have HP := Lib.hid hp; clear hp
    go_enter Tryd.func14, Tryd.ntmps14
    go_wp2
    go_ret
    exact ⟨ret_int32 HP.out.symm, rfl⟩

theorem sane_c1 (w : World) : Calls Tryd.prog 12 #[.int .i64 (-64)] w fun e w' => e = .returned (.tuple #[.string ⟨#[127]⟩, .int .i64 0]) ∧ Below w.heap.size w w' := by
  have h := putint_ok (-64) w (by omega) (by omega)
  rw [show enc (-64) = [127] from by unfold enc; rw [show zigzag (-64) = 127 from rfl, uvarint_small (by omega)]; rfl] at h
  exact h
theorem sane_c2 (w : World) : Calls Tryd.prog 12 #[.int .i64 64] w fun e w' => e = .returned (.tuple #[.string ⟨#[128, 1]⟩, .int .i64 0]) ∧ Below w.heap.size w w' := by
  have h := putint_ok 64 w (by omega) (by omega)
  rw [show enc 64 = [128, 1] from by unfold enc; rw [show zigzag 64 = 128 from rfl, uvarint_big (by omega), uvarint_small (by omega)]; rfl] at h
  exact h
theorem sane_c3 (w : World) : Calls Tryd.prog 15 #[.string ⟨#[97, 172, 2, 98]⟩, .int .i64 1] w fun e w' => e = .returned (.tuple #[.int .i64 150, .int .i64 3, .int .i64 0]) ∧ w = w' :=
  int_any ⟨#[97, 172, 2, 98]⟩ 1 w (by decide) (by decide)
theorem sane_c4 (w : World) : Calls Tryd.prog 15 #[.string ⟨#[128, 0]⟩, .int .i64 0] w fun e w' => e = .returned (.tuple #[.int .i64 0, .int .i64 0, .int .i64 10]) ∧ w = w' :=
  int_any ⟨#[128, 0]⟩ 0 w (by decide) (by decide)
theorem sane_c5 (w : World) : Calls Tryd.prog 19 #[.string ⟨#[97, 98]⟩] w fun e w' => e = .returned (.tuple #[.string ⟨#[4, 97, 98]⟩, .int .i64 0]) ∧ Below w.heap.size w w' := by
  have h := putstring_any ⟨#[97, 98]⟩ w (by decide)
  rw [show putSS ⟨#[97, 98]⟩ = ⟨#[4, 97, 98]⟩ from by
    unfold putSS; rw [if_pos (by decide)]; unfold enc
    rw [show zigzag ((ByteArray.mk #[97, 98]).size : Int) = 4 from rfl, uvarint_small (by omega)]; rfl, show putSE ⟨#[97, 98]⟩ = 0 from by unfold putSE; rw [if_pos (by decide)]] at h
  exact h
theorem sane_c6 (w : World) : Calls Tryd.prog 17 #[.string ⟨#[4, 97, 98, 99]⟩, .int .i64 0] w fun e w' => e = .returned (.tuple #[.string ⟨#[97, 98]⟩, .int .i64 3, .int .i64 0]) ∧ Below w.heap.size w w' :=
  string_any ⟨#[4, 97, 98, 99]⟩ 0 w (by decide) (by decide)
theorem sane_c7 (w : World) : Calls Tryd.prog 17 #[.string ⟨#[4, 97]⟩, .int .i64 0] w fun e w' => e = .returned (.tuple #[.string ⟨#[]⟩, .int .i64 0, .int .i64 10]) ∧ Below w.heap.size w w' :=
  string_any ⟨#[4, 97]⟩ 0 w (by decide) (by decide)
theorem sane_c8 (w : World) : Calls Tryd.prog 12 #[.int .i64 4611686018427387904] w fun e w' => e = .returned (.tuple #[.string ⟨#[]⟩, .int .i64 10]) ∧ Below w.heap.size w w' :=
  putint_hi 4611686018427387904 w (by omega) (by omega)
theorem sane_c9 (w : World) : Calls Tryd.prog 15 #[.string ⟨#[]⟩, .int .i64 1] w fun e w' => e = .returned (.tuple #[.int .i64 0, .int .i64 0, .int .i64 2]) ∧ w = w' :=
  int_out ⟨#[]⟩ 1 w (by decide)
theorem sane_c10 (w : World) (hT : Tab w) : Calls Tryd.prog 21 #[.string ⟨#[49, 50, 51, 52, 53, 54, 55, 56, 57]⟩] w fun e w' => e = .returned (.int .i64 3808858755) ∧ w = w' := by
  have h := sum_any ⟨#[49, 50, 51, 52, 53, 54, 55, 56, 57]⟩ w (by decide) hT
  rw [show crc (ByteArray.mk #[49, 50, 51, 52, 53, 54, 55, 56, 57]).data.toList = 3808858755 from by decide +kernel] at h
  exact h

set_option maxRecDepth 100000 in
set_option maxHeartbeats 1000000 in
theorem sane_any (w : World) (hT : Tab w) :
    Calls Tryd.prog 10 #[] w fun e w' => e = .returned (.bool true) ∧ Below w.heap.size w w' := by
  have HT := Lib.hid hT; clear hT
  go_enter Tryd.func10, Tryd.ntmps10
  go_wp2_with fail
  refine (sane_c1 _).mono ?_
  rintro e w1 ⟨rfl, b1⟩
  go_wp2_with fail
  refine (sane_c2 _).mono ?_
  rintro e w2 ⟨rfl, b2⟩
  go_wp2_with fail
  refine (sane_c3 _).mono ?_
  rintro e w' ⟨rfl, rfl⟩
  go_wp2_with fail
  refine (sane_c4 _).mono ?_
  rintro e w' ⟨rfl, rfl⟩
  go_wp2_with fail
  refine (sane_c5 _).mono ?_
  rintro e w3 ⟨rfl, b3⟩
  go_wp2_with fail
  refine (sane_c6 _).mono ?_
  rintro e w4 ⟨rfl, b4⟩
  go_wp2_with fail
  refine (sane_c7 _).mono ?_
  rintro e w5 ⟨rfl, b5⟩
  go_wp2_with fail
  refine (sane_c8 _).mono ?_
  rintro e w6 ⟨rfl, b6⟩
  go_wp2_with fail
  refine (sane_c9 _).mono ?_
  rintro e w' ⟨rfl, rfl⟩
  have B6 : Below w.heap.size w w6 := ((((b1.trans (b2.mono b1.size)).trans (b3.mono (Nat.le_trans b1.size b2.size))).trans (b4.mono (Nat.le_trans (Nat.le_trans b1.size b2.size) b3.size))).trans (b5.mono (Nat.le_trans (Nat.le_trans (Nat.le_trans b1.size b2.size) b3.size) b4.size))).trans (b6.mono (Nat.le_trans (Nat.le_trans (Nat.le_trans (Nat.le_trans b1.size b2.size) b3.size) b4.size) b5.size))
  have h10 := sane_c10 w6 (HT.out.below B6 (Nat.le_refl _))
  have H10 := Lib.hid h10; clear h10
  clear b1 b2 b3 b4 b5 b6
  go_wp2_with fail
  refine H10.out.mono ?_
  rintro e w' ⟨rfl, rfl⟩
  go_wp2_with fail
  go_ret
  exact ⟨rfl, B6⟩

/-- The bounds that NumberFrom picks from. -/
def bounds : List Int := [64, 128, 8192, 16384, 1073741824, 36028797018963968, 576460752303423488, 2]
/-- What NumberFrom returns. -/
def numA (c : Int) : Int := pickV (pickV c 4611686018427387904 / 8) (bounds.getD (pickV c 8).toNat 0)
def numV (c : Int) : Int := if 8 ≤ pickV c 16 then -(numA c) else numA c
theorem bounds_range : ∀ k : Fin 8, 1 ≤ bounds.getD k.val 0 ∧ bounds.getD k.val 0 ≤ 576460752303423488 := by decide
theorem numA_range (c : Int) : 0 ≤ numA c ∧ numA c < 576460752303423488 := by
  have h8 := pickV_range (c := c) (n := 8) (by omega)
  have hb := bounds_range ⟨(pickV c 8).toNat, by omega⟩
  simp only at hb
  have := pickV_range (c := pickV c 4611686018427387904 / 8) (n := bounds.getD (pickV c 8).toNat 0) (by omega)
  unfold numA; omega
theorem numV_ok (c : Int) : okI (numV c) := by
  have := numA_range c
  unfold okI numV; split <;> omega

set_option maxRecDepth 100000 in
set_option maxHeartbeats 1000000 in
theorem numberFrom_any (c : Int) (w : World) (hc0 : -9223372036854775808 ≤ c) (hc1 : c ≤ 9223372036854775807) :
    Calls Tryd.prog 11 #[.int .i64 c] w fun e w' => e = .returned (.int .i64 (numV c)) ∧ Below w.heap.size w w' := by
  have h8 := pickV_range (c := c) (n := 8) (by omega)
  have h16 := pickV_range (c := c) (n := 16) (by omega)
  have h62 := pickV_range (c := c) (n := 4611686018427387904) (by omega)
  have hb := bounds_range ⟨(pickV c 8).toNat, by omega⟩
  simp only at hb
  have hA := numA_range c
  have hAe : numA c = pickV (pickV c 4611686018427387904 / 8) (bounds.getD (pickV c 8).toNat 0) := rfl
  have hV : numV c = if 8 ≤ pickV c 16 then -(numA c) else numA c := rfl
  have c1 := fun w => pick_any c 4611686018427387904 w hc0 hc1 (by omega) (by omega)
  have c2 := fun w => pick_any c 8 w hc0 hc1 (by omega) (by omega)
  have c3 := fun w => pick_any c 16 w hc0 hc1 (by omega) (by omega)
  have c4 := fun w => pick_any (pickV c 4611686018427387904 / 8) (bounds.getD (pickV c 8).toNat 0) w (by omega) (by omega) hb.1 (by omega)
  rw [← hAe] at c4
  obtain ⟨p, hp⟩ : ∃ p : Nat, (p : Int) = pickV c 8 := ⟨(pickV c 8).toNat, by omega⟩
  obtain ⟨B, hB⟩ : ∃ B, B = bounds.getD (pickV c 8).toNat 0 := ⟨_, rfl⟩
  rw [← hB] at c4
  have hB' : B = bounds.getD p 0 := by rw [hB, ← hp]; rfl
  rw [← hp] at c2
  generalize pickV c 4611686018427387904 = P1 at *
  generalize pickV c 16 = P3 at *
  generalize numA c = A at *
  have hp8 : p < 8 := by omega
  have hcell : ∀ w : World, (w.alloc (.cells #[.int .i64 64, .int .i64 128, .int .i64 8192, .int .i64 16384, .int .i64 1073741824, .int .i64 36028797018963968, .int .i64 576460752303423488, .int .i64 2] 3)).cell? ⟨w.heap.size, p, none⟩ = some (.int .i64 B) := by
    intro w
    rw [World.cell?_alloc_mark, hB']
    have : ∀ p : Fin 8, (#[.int .i64 64, .int .i64 128, .int .i64 8192, .int .i64 16384, .int .i64 1073741824, .int .i64 36028797018963968, .int .i64 576460752303423488, .int .i64 2] : Array Value)[p.val]? = some (.int .i64 (bounds.getD p.val 0)) := by
      intro p
      match p with
      | 0 => rfl
      | 1 => rfl
      | 2 => rfl
      | 3 => rfl
      | 4 => rfl
      | 5 => rfl
      | 6 => rfl
      | 7 => rfl
    exact this ⟨p, hp8⟩
  have C1 := Lib.hid c1; have C2 := Lib.hid c2; have C3 := Lib.hid c3; have C4 := Lib.hid c4; have HV := Lib.hid hV
  clear c1 c2 c3 c4 hV hp hB hB' hAe hb
  go_enter Tryd.func11, Tryd.ntmps11
  go_wp2_with fail
  refine (C1.out _).mono ?_
  rintro e w' ⟨rfl, rfl⟩
  go_wp2_with fail
  refine (C2.out _).mono ?_
  rintro e w' ⟨rfl, rfl⟩
  have hcw := hcell w
  clear hcell
  go_wp2_with fail
  refine (C4.out _).mono ?_
  rintro e w' ⟨rfl, rfl⟩
  go_wp2_with fail
  refine (C3.out _).mono ?_
  rintro e w' ⟨rfl, rfl⟩
  have hbel : Below w.heap.size w (w.alloc (.cells #[.int .i64 64, .int .i64 128, .int .i64 8192, .int .i64 16384, .int .i64 1073741824, .int .i64 36028797018963968, .int .i64 576460752303423488, .int .i64 2] 3)) := (Below.refl _ w).alloc (Nat.le_refl _) _
  by_cases h3 : 8 ≤ P3
  · have hf := HV.out
    rw [if_pos h3] at hf
    have HF := Lib.hid hf; clear hf HV
    go_wp2
    go_ret
    exact ⟨ret_int32 HF.out.symm, hbel⟩
  · have hf := HV.out
    rw [if_neg h3] at hf
    have HF := Lib.hid hf; clear hf HV
    go_wp2
    go_ret
    exact ⟨ret_int32 HF.out.symm, hbel⟩
end Go.Proofs.YtolpkbjbklcdgaaDoor
