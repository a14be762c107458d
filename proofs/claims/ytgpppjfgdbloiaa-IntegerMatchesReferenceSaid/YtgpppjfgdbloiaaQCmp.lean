/- The contract of the reference's Compare. Condition: the strings' lengths are ints. -/
import Derived.Test.YtgpppjfgdbloiaaQDig
namespace Go.Proofs.Ytgpppjfgdbloiaa
open Go.RowKit Go.Lib

theorem valid_no {L : List UInt8} (h : rd L = none) : validB L = false := by
  unfold rd at h
  by_cases hv : validB L = true
  · rw [if_pos hv] at h; cases h
  · simpa using hv
theorem valid_yes {L : List UInt8} {z : Int} (h : rd L = some z) : validB L = true := (rd_some h).2.2.2.2.2.2.2
/-- The order of two numbers is that of their amounts, if they have the same sign. -/
theorem ord_same {x y : Int} (h : decide (x < 0) = decide (y < 0)) : ordI x y = if x < 0 then ordI (y.natAbs : Nat) (x.natAbs : Nat) else ordI (x.natAbs : Nat) (y.natAbs : Nat) := by
  rw [decide_eq_decide] at h
  unfold ordI
  by_cases hx : x < 0
  · rw [if_pos hx]
    have hy := h.1 hx
    split
    · rw [if_pos (by omega)]
    · split
      · rw [if_neg (by omega), if_pos (by omega)]
      · rw [if_neg (by omega), if_neg (by omega)]
  · rw [if_neg hx]
    have hy : ¬ y < 0 := fun hy => hx (h.2 hy)
    split
    · rw [if_pos (by omega)]
    · split
      · rw [if_neg (by omega), if_pos (by omega)]
      · rw [if_neg (by omega), if_neg (by omega)]

/-- A sign and digits have been returned. -/
def OutD2 (b : Bool) (X : Nat) (w : World) (e : Ending) (w' : World) : Prop := ∃ A c, e = .returned (.tuple #[.bool b, .slice A (dl X) c]) ∧ Dm w' A (dl X) c X ∧ Below w.heap.size w w'
theorem qdig2 {s : ByteArray} {z : Int} (hs : s.size ≤ 9000000000000000000) (hz : rd s.data.toList = some z) : ∃ b X, sg b X = z ∧ (b = decide (z < 0)) ∧ X = z.natAbs ∧ X < 10 ^ 200 ∧ (b = true → 0 < X) ∧ ∀ w, Calls Try.prog 40 #[.string s] w (OutD2 b X w) := by
  have h1 := (rd_some hz).2.1
  refine ⟨decide (z < 0), z.natAbs, ?_, rfl, rfl, h1, ?_, fun w => qdigits_any s z w hs hz⟩
  · unfold sg
    by_cases h : z < 0
    · simp [h]; omega
    · simp [h]; omega
  · intro h; rw [decide_eq_true_eq] at h; omega

set_option maxRecDepth 100000 in
set_option maxHeartbeats 1000000 in
theorem qcompare_any (a b : ByteArray) (w : World) (ha : a.size ≤ 9000000000000000000) (hb : b.size ≤ 9000000000000000000) :
    Calls Try.prog 32 #[.string a, .string b] w fun e w' => e = .returned (.int .i64 (cmpR a.data.toList b.data.toList)) ∧ Below w.heap.size w w' := by
  have hva := fun w => qvalid_any a w ha
  have hvb := fun w => qvalid_any b w hb
  cases hx : rd a.data.toList with
  | none =>
    rw [cmpR_no1 hx]
    rw [valid_no hx] at hva
    have HVA := Lib.hid hva
    clear hx hva hvb
    go_enter Try.func32, Try.ntmps32
    go_wp2_with fail
    refine (HVA.out _).mono ?_
    rintro e w1 ⟨rfl, k1, rfl⟩
    go_wp2_with fail
    go_ret
    exact ⟨rfl, below_drewN (Below.refl _ _) _⟩
  | some x =>
    rw [valid_yes hx] at hva
    have HVA := Lib.hid hva
    cases hy : rd b.data.toList with
    | none =>
      rw [cmpR_no2 hy]
      rw [valid_no hy] at hvb
      have HVB := Lib.hid hvb
      clear hx hy hva hvb
      go_enter Try.func32, Try.ntmps32
      go_wp2_with fail
      refine (HVA.out _).mono ?_
      rintro e w1 ⟨rfl, k1, rfl⟩
      go_wp2_with fail
      refine (HVB.out _).mono ?_
      rintro e w1 ⟨rfl, k2, rfl⟩
      go_wp2_with fail
      go_ret
      exact ⟨rfl, below_drewN (Below.refl _ _) _⟩
    | some y =>
      rw [valid_yes hy] at hvb
      rw [cmpR_yes hx hy]
      have HVB := Lib.hid hvb
      obtain ⟨sx, X, -, hsx, hX, hX2, -, hda⟩ := qdig2 ha hx
      obtain ⟨sy, Y, -, hsy, hY, hY2, -, hdb⟩ := qdig2 hb hy
      have HDA := Lib.hid hda; have HDB := Lib.hid hdb
      have hYl := dl_le.2 hY2
      have hXl := dl_le.2 hX2
      have hsame := fun h => @ord_same x y h
      rw [← hsx, ← hsy, ← hX, ← hY] at hsame
      obtain ⟨r, hr⟩ : ∃ r, r = ordI x y := ⟨_, rfl⟩
      rw [← hr] at hsame ⊢
      have hcase : (sx = true ∧ sy = true ∧ r = ordI (Y : Nat) (X : Nat)) ∨ (sx = false ∧ sy = false ∧ r = ordI (X : Nat) (Y : Nat)) ∨ (sx = true ∧ sy = false ∧ r = -1) ∨ (sx = false ∧ sy = true ∧ r = 1) := by
        cases sx <;> cases sy
        · refine .inr (.inl ⟨rfl, rfl, ?_⟩)
          rw [hsame rfl, if_neg (by simpa using hsx.symm)]
        · refine .inr (.inr (.inr ⟨rfl, rfl, ?_⟩))
          have h1 : ¬ x < 0 := by simpa using hsx.symm
          have h2 : y < 0 := by simpa using hsy.symm
          rw [hr, ordI_gt (by omega)]
        · refine .inr (.inr (.inl ⟨rfl, rfl, ?_⟩))
          have h1 : x < 0 := by simpa using hsx.symm
          have h2 : ¬ y < 0 := by simpa using hsy.symm
          rw [hr, ordI_lt (by omega)]
        · refine .inl ⟨rfl, rfl, ?_⟩
          rw [hsame rfl, if_pos (by simpa using hsx.symm)]
      clear hx hy hva hvb hda hdb hsx hsy hX hY hsame hr hX2 hY2
      rcases hcase with ⟨rfl, rfl, hr⟩ | ⟨rfl, rfl, hr⟩ | ⟨rfl, rfl, rfl⟩ | ⟨rfl, rfl, rfl⟩
      · have HR := Lib.hid hr
        clear hr
        go_enter Try.func32, Try.ntmps32
        go_wp2_with fail
        refine (HVA.out _).mono ?_
        rintro e w1 ⟨rfl, k1, rfl⟩
        go_wp2_with fail
        refine (HVB.out _).mono ?_
        rintro e w1 ⟨rfl, k2, rfl⟩
        go_wp2_with fail
        refine (HDA.out _).mono ?_
        rintro e w3 ⟨A, c, rfl, hA, hb3⟩
        have hb3 := Lib.hid ((below_drewN (Below.refl w.heap.size w) (k1 + k2)).trans hb3)
        have hA := Lib.hid hA
        go_wp2_with fail
        refine (HDB.out _).mono ?_
        rintro e w4 ⟨A', c', rfl, hB, hb4⟩
        have hA2 := Lib.hid (hA.out.below hb4)
        have hb5 := Lib.hid (hb3.out.trans (hb4.mono hb3.out.size))
        have hB := Lib.hid hB
        clear hb4
        go_wp2_with fail
        refine (qorder_any A' A c' c Y X w4 hB.out hA2.out (by omega)).mono ?_
        rintro e w5 ⟨rfl, k5, rfl⟩
        go_wp2_with fail
        go_ret
        exact ⟨by rw [HR.out]; rfl, below_drewN hb5.out _⟩
      · have HR := Lib.hid hr
        clear hr
        go_enter Try.func32, Try.ntmps32
        go_wp2_with fail
        refine (HVA.out _).mono ?_
        rintro e w1 ⟨rfl, k1, rfl⟩
        go_wp2_with fail
        refine (HVB.out _).mono ?_
        rintro e w1 ⟨rfl, k2, rfl⟩
        go_wp2_with fail
        refine (HDA.out _).mono ?_
        rintro e w3 ⟨A, c, rfl, hA, hb3⟩
        have hb3 := Lib.hid ((below_drewN (Below.refl w.heap.size w) (k1 + k2)).trans hb3)
        have hA := Lib.hid hA
        go_wp2_with fail
        refine (HDB.out _).mono ?_
        rintro e w4 ⟨A', c', rfl, hB, hb4⟩
        have hA2 := Lib.hid (hA.out.below hb4)
        have hb5 := Lib.hid (hb3.out.trans (hb4.mono hb3.out.size))
        have hB := Lib.hid hB
        clear hb4
        go_wp2_with fail
        refine (qorder_any A A' c c' X Y w4 hA2.out hB.out (by omega)).mono ?_
        rintro e w5 ⟨rfl, k5, rfl⟩
        go_wp2_with fail
        go_ret
        exact ⟨by rw [HR.out]; rfl, below_drewN hb5.out _⟩
      · go_enter Try.func32, Try.ntmps32
        go_wp2_with fail
        refine (HVA.out _).mono ?_
        rintro e w1 ⟨rfl, k1, rfl⟩
        go_wp2_with fail
        refine (HVB.out _).mono ?_
        rintro e w1 ⟨rfl, k2, rfl⟩
        go_wp2_with fail
        refine (HDA.out _).mono ?_
        rintro e w3 ⟨A, c, rfl, hA, hb3⟩
        have hb3 := Lib.hid ((below_drewN (Below.refl w.heap.size w) (k1 + k2)).trans hb3)
        have hA := Lib.hid hA
        go_wp2_with fail
        refine (HDB.out _).mono ?_
        rintro e w4 ⟨A', c', rfl, hB, hb4⟩
        have hA2 := Lib.hid (hA.out.below hb4)
        have hb5 := Lib.hid (hb3.out.trans (hb4.mono hb3.out.size))
        have hB := Lib.hid hB
        clear hb4
        go_wp2_with fail
        go_ret
        exact ⟨rfl, hb5.out⟩
      · go_enter Try.func32, Try.ntmps32
        go_wp2_with fail
        refine (HVA.out _).mono ?_
        rintro e w1 ⟨rfl, k1, rfl⟩
        go_wp2_with fail
        refine (HVB.out _).mono ?_
        rintro e w1 ⟨rfl, k2, rfl⟩
        go_wp2_with fail
        refine (HDA.out _).mono ?_
        rintro e w3 ⟨A, c, rfl, hA, hb3⟩
        have hb3 := Lib.hid ((below_drewN (Below.refl w.heap.size w) (k1 + k2)).trans hb3)
        have hA := Lib.hid hA
        go_wp2_with fail
        refine (HDB.out _).mono ?_
        rintro e w4 ⟨A', c', rfl, hB, hb4⟩
        have hA2 := Lib.hid (hA.out.below hb4)
        have hb5 := Lib.hid (hb3.out.trans (hb4.mono hb3.out.size))
        have hB := Lib.hid hB
        clear hb4
        go_wp2_with fail
        go_ret
        exact ⟨rfl, hb5.out⟩
end Go.Proofs.Ytgpppjfgdbloiaa
