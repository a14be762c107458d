/- The contracts of FromInt, printed, combined, Add, Sub, Mul and Gcd. Condition: the strings' lengths are ints. -/
import Derived.Test.YtgpppjfgdbloiaaFint
namespace Go.Proofs.Ytgpppjfgdbloiaa
open Go.RowKit Go.Lib

/-- An integer, if it has at most 200 digits. -/
def lim (z : Int) : Option Int := if z.natAbs < 10 ^ 200 then some z else none
/-- The string of a result. -/
def okS : Option Int → ByteArray
  | some z => zS z
  | none => ⟨#[]⟩
/-- The error of a result. -/
def okE : Option Int → Int
  | some _ => 0
  | none => 30
/-- What an operation makes of two strings. -/
def opR (f : Int → Int → Int) (a b : List UInt8) : Option Int := (rd a).bind fun x => (rd b).bind fun y => lim (f x y)
theorem validB_zL (z : Int) : validB (zL z) = decide (z.natAbs < 10 ^ 200) := by
  by_cases h : z.natAbs < 10 ^ 200
  · have h1 := rd_zL h
    rw [(rd_some h1).2.2.2.2.2.2.2]; simp [h]
  · have h1 : validB (zL z) ≠ true := fun h2 => by
      have h3 : ∃ y, rd (zL z) = some y := by unfold rd; rw [if_pos h2]; exact ⟨_, rfl⟩
      obtain ⟨y, hy⟩ := h3
      obtain ⟨h4, h5, -⟩ := rd_some hy
      rw [zL_inj h4] at h
      exact h h5
    have h2 : validB (zL z) = false := by simpa using h1
    rw [h2]; simp [h]
theorem zS_size (z : Int) : (zS z).size ≤ 4 * glen z.natAbs + 2 := by
  rw [size_eq, zS_list]
  have h := dl_le.2 (glen_dl z.natAbs)
  unfold zL
  split
  · simp
  · rw [List.length_append, dec10_length]
    split <;> simp <;> omega
theorem sg_abs (s : Bool) (X : Nat) : (sg s X).natAbs = X := by cases s <;> simp [sg]
/-- A result and an error have been returned. -/
def OutO (r : Option Int) (w : World) (e : Ending) (w' : World) : Prop := e = .returned (.tuple #[.string (okS r), .int .i64 (okE r)]) ∧ Below w.heap.size w w'

theorem fromInt_any (n : Int) (w : World) (h1 : -9223372036854775808 ≤ n) (h2 : n ≤ 9223372036854775807) : Calls Try.prog 33 #[.int .i64 n] w fun e w' => e = .returned (.string (zS n)) ∧ Below w.heap.size w w' := by
  have hf := fint_any n w h1 h2
  have HF := Lib.hid hf
  clear hf
  go_enter Try.func33, Try.ntmps33
  go_wp2_with fail
  refine HF.out.mono ?_
  rintro e w1 ⟨s, X, A, c, rfl, hs, -, hA, hb⟩
  have hX : glen X ≤ 1000 := by
    have h3 : X ≤ 9223372036854775808 := by have := sg_abs s X; rw [hs] at this; omega
    exact Nat.le_trans (glen_mono h3) (Nat.le_trans (glen_le.2 (show (9223372036854775808 : Nat) < 10000 ^ 5 by omega)) (by omega))
  have ht := text_any s A c X w1 hA hX
  rw [hs] at ht
  have HT := Lib.hid ht; have HB := Lib.hid hb
  clear ht hb hA hs
  go_wp2_with fail
  refine HT.out.mono ?_
  rintro e w2 ⟨rfl, hb2⟩
  go_wp2_with fail
  go_ret
  exact ⟨rfl, HB.out.trans (hb2.mono HB.out.size)⟩

set_option maxRecDepth 100000 in
theorem printed_any (s : Bool) (A : Option Addr) (c X : Nat) (w : World) (hA : Am w A (glen X) c X) (hX : glen X ≤ 1000) :
    Calls Try.prog 49 #[.agg #[.bool s, .slice A (glen X) c]] w (OutO (lim (sg s X)) w) := by
  have hb0 : Below w.heap.size w (w.alloc (.cells #[.bool s, .slice A (glen X) c] 53)) := (Below.refl _ _).alloc (Nat.le_refl _) _
  have ht := text_any s A c X _ (hA.below hb0) hX
  have hz := zS_size (sg s X)
  rw [sg_abs] at hz
  have hv := fun w => valid_any (zS (sg s X)) w (by omega)
  rw [zS_list, validB_zL] at hv
  have HT := Lib.hid ht; have HB := Lib.hid hb0; have HV := Lib.hid hv
  obtain ⟨z, hzz⟩ : ∃ z, z = sg s X := ⟨_, rfl⟩
  rw [← hzz] at HT HV ⊢
  clear hb0 ht hz hv hA hzz
  by_cases h : z.natAbs < 10 ^ 200
  · have hl : lim z = some z := by unfold lim; rw [if_pos h]
    have hd : decide (z.natAbs < 10 ^ 200) = true := by simp [h]
    rw [hl]
    rw [hd] at HV
    clear h hl hd
    go_enter Try.func49, Try.ntmps49
    go_wp2_with fail
    refine HT.out.mono ?_
    rintro e w1 ⟨rfl, hb⟩
    go_wp2_with fail
    refine (HV.out _).mono ?_
    rintro e w1 ⟨rfl, k, rfl⟩
    go_wp2_with fail
    go_ret2
    exact ⟨rfl, below_drewN (HB.out.trans (hb.mono HB.out.size)) k⟩
  · have hl : lim z = none := by unfold lim; rw [if_neg h]
    have hd : decide (z.natAbs < 10 ^ 200) = false := by simp [h]
    rw [hl]
    rw [hd] at HV
    clear h hl hd
    go_enter Try.func49, Try.ntmps49
    go_wp2_with fail
    refine HT.out.mono ?_
    rintro e w1 ⟨rfl, hb⟩
    go_wp2_with fail
    refine (HV.out _).mono ?_
    rintro e w1 ⟨rfl, k, rfl⟩
    go_wp2_with fail
    go_ret2
    exact ⟨rfl, below_drewN (HB.out.trans (hb.mono HB.out.size)) k⟩
end Go.Proofs.Ytgpppjfgdbloiaa
