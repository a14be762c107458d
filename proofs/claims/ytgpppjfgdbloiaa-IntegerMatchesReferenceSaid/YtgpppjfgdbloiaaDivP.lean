/- The contracts of Div and ToInt. Condition: the strings' lengths are ints. -/
import Derived.Test.YtgpppjfgdbloiaaRest
namespace Go.Proofs.Ytgpppjfgdbloiaa
open Go.RowKit Go.Lib

/-- What Div answers. -/
def divR (a b : List UInt8) : Option (Int × Int) := match rd a, rd b with
  | some x, some y => if y = 0 then none else some (x / y, x % y)
  | _, _ => none
theorem divR_no1 {a b : List UInt8} (h : rd a = none) : divR a b = none := by unfold divR; rw [h]
theorem divR_no2 {a b : List UInt8} (h : rd b = none) : divR a b = none := by unfold divR; rw [h]; cases rd a <;> rfl
theorem divR_zero {a b : List UInt8} (h : rd b = some 0) : divR a b = none := by unfold divR; rw [h]; cases rd a <;> rfl
theorem divR_yes {a b : List UInt8} {x y : Int} (h : rd a = some x) (h2 : rd b = some y) (h0 : y ≠ 0) : divR a b = some (x / y, x % y) := by unfold divR; rw [h, h2]; simp [h0]
/-- Quotient, remainder and an error have been returned. -/
def OutDP (r : Option (Int × Int)) (w : World) (e : Ending) (w' : World) : Prop :=
  e = .returned (match r with | some (q, r) => .tuple #[.string (zS q), .string (zS r), .int .i64 0] | none => .tuple #[.string ⟨#[]⟩, .string ⟨#[]⟩, .int .i64 30]) ∧ Below w.heap.size w w'

set_option maxRecDepth 100000 in
set_option maxHeartbeats 2000000 in
theorem div_any (a b : ByteArray) (w : World) (ha : a.size ≤ 9000000000000000000) (hb : b.size ≤ 9000000000000000000) :
    Calls Try.prog 21 #[.string a, .string b] w (OutDP (divR a.data.toList b.data.toList) w) := by
  cases hx : rd a.data.toList with
  | none =>
    rw [divR_no1 hx]
    have HC := Lib.hid (pboth_no1 a b w ha hx)
    clear hx
    go_enter Try.func21, Try.ntmps21
    go_wp2_with fail
    refine HC.out.mono ?_
    rintro e w1 ⟨rfl, hb1⟩
    go_wp2_with fail
    go_ret3
    exact ⟨rfl, (hb1.alloc hb1.size _).alloc (by have := hb1.size; simp; omega) _⟩
  | some x =>
    cases hy : rd b.data.toList with
    | none =>
      rw [divR_no2 hy]
      have HC := Lib.hid (pboth_no2 a b w x ha hb hx hy)
      clear hx hy
      go_enter Try.func21, Try.ntmps21
      go_wp2_with fail
      refine HC.out.mono ?_
      rintro e w1 ⟨rfl, hb1⟩
      go_wp2_with fail
      go_ret3
      exact ⟨rfl, (hb1.alloc hb1.size _).alloc (by have := hb1.size; simp; omega) _⟩
    | some y =>
      obtain ⟨d, hd⟩ : ∃ d, d = divR a.data.toList b.data.toList := ⟨_, rfl⟩
      rw [← hd]
      have HD := Lib.hid hd
      have HC := Lib.hid (pboth_yes a b w x y ha hb hx hy)
      have HX := Lib.hid hx; have HY := Lib.hid hy
      have HX9 := Lib.hid (rd_some hx).2.1
      clear hx hy hd
      go_enter Try.func21, Try.ntmps21
      go_wp2_with fail
      refine HC.out.mono ?_
      rintro e w1 ⟨s, X, A, c, t, Y, A', c', rfl, hs, ht, hs0, ht0, hX, hY, hA, hB, hb1⟩
      obtain ⟨hn1, hn2, hb2, hsz2⟩ := two_boxes w1 s t A A' (glen X) c (glen Y) c' _ rfl
      have x0 := hn1.cell (i := 0) rfl; have x1 := hn1.cell (i := 1) rfl
      have y0 := hn2.cell (i := 0) rfl; have y1 := hn2.cell (i := 1) rfl
      have hgX := glen_lim hX; have hgY := glen_lim hY
      have hiz := iszero_any t A' c' (glen Y) ((w1.alloc (.cells #[.bool s, .slice A (glen X) c] 53)).alloc (.cells #[.bool t, .slice A' (glen Y) c'] 53))
      have HIZ := Lib.hid hiz; have HA := Lib.hid (hA.below hb2); have HB := Lib.hid (hB.below hb2); have HN1 := Lib.hid hn1; have HN2 := Lib.hid hn2
      have HBL := Lib.hid (hb1.trans (hb2.mono hb1.size)); have HS := Lib.hid hs; have HT := Lib.hid ht; have HT0 := Lib.hid ht0; have HXL := Lib.hid hX; have HYL := Lib.hid hY
      have HSZ := Lib.hid hsz2
      clear hn1 hn2 hb2 hiz hA hB hb1 hs ht ht0 hs0 hX hY hsz2
      rcases Nat.eq_zero_or_pos Y with h0 | h0
      · have hz1 := HIZ.out true (by rw [h0, glen_zero]; rfl)
        have HZ := Lib.hid hz1
        have hyz : y = 0 := by rw [← HT.out, h0]; cases t <;> rfl
        obtain rfl : d = none := by rw [HD.out]; exact divR_zero (by rw [HY.out, hyz])
        clear hz1 hyz h0
        go_wp2_with fail
        refine HZ.out.mono ?_
        rintro e w2 ⟨rfl, hb3⟩
        go_wp2_with fail
        go_ret3
        exact ⟨rfl, HBL.out.trans (hb3.mono HBL.out.size)⟩
      · have hz1 := HIZ.out false (by symm; rw [decide_eq_false_iff_not]; have := glen_pos h0; omega)
        have HZ := Lib.hid hz1
        have hyz : y ≠ 0 := by rw [← HT.out]; unfold sg; split <;> omega
        obtain rfl : d = some (x / y, x % y) := by rw [HD.out]; exact divR_yes HX.out HY.out hyz
        have H0 := Lib.hid h0
        have HYZ := Lib.hid hyz
        clear hz1 hyz h0
        go_wp2_with fail
        refine HZ.out.mono ?_
        rintro e w2 ⟨rfl, hb3⟩
        have hA2 := HA.out.below hb3
        have hB2 := HB.out.below hb3
        have hn1 := HN1.out.below hb3 HN1.out.lt; have hn2 := HN2.out.below hb3 HN2.out.lt
        have x0' := hn1.cell (i := 0) rfl; have x1' := hn1.cell (i := 1) rfl
        have y0' := hn2.cell (i := 0) rfl; have y1' := hn2.cell (i := 1) rfl
        have hdv := ndiv_any s t A A' c c' X Y w2 hA2 hB2 (by omega) (by omega) H0.out
        rw [HS.out, HT.out] at hdv
        have HDV := Lib.hid hdv
        have HBL2 := Lib.hid (HBL.out.trans (hb3.mono HBL.out.size))
        clear hA2 hB2 hn1 hn2 hdv hb3 x0 x1 y0 y1
        go_wp2_with fail
        refine HDV.out.mono ?_
        rintro e w3 ⟨s3, Q, A3, c3, R, A4, c4, rfl, hq, hq0, hr, hA3, hA4, hb4⟩
        obtain ⟨hm1, hm2, hb5, hsz5⟩ := two_boxes w3 s3 false A3 A4 (glen Q) c3 (glen R) c4 _ rfl
        have u0 := hm1.cell (i := 0) rfl; have u1 := hm1.cell (i := 1) rfl
        have hQ9 : Q < 10 ^ 200 := by
          have h1 := congrArg Int.natAbs hq
          rw [sg_abs] at h1
          have h2 := Int.natAbs_ediv_le_natAbs x y
          have := HX9.out
          omega
        have hR9 : R < 10 ^ 200 := by
          have h1 := Int.emod_lt x HYZ.out
          have h2 : Y < 10 ^ 200 := HYL.out
          have h3 : (y.natAbs : Int) = Y := by rw [← HT.out, sg_abs]
          omega
        have hpr := printed_any s3 A3 c3 Q _ (hA3.below hb5) (Nat.le_trans (glen_lim hQ9) (by omega))
        rw [hq, show lim (x / y) = some (x / y) from by unfold lim; rw [if_pos]; rw [← hq, sg_abs]; exact hQ9] at hpr
        have HPR := Lib.hid hpr
        have HA4 := Lib.hid (hA4.below hb5); have HM2 := Lib.hid hm2
        have HBL3 := Lib.hid (HBL2.out.trans ((hb4.trans (hb5.mono hb4.size)).mono HBL2.out.size))
        have HR9 := Lib.hid (Nat.le_trans (glen_lim hR9) (show 50 ≤ 1000 by omega)); have HR := Lib.hid hr
        clear hm1 hm2 hb5 hsz5 hQ9 hR9 hpr hA3 hA4 hb4 hq hq0 hr x0' x1' y0' y1'
        go_wp2_with fail
        refine HPR.out.mono ?_
        rintro e w4 ⟨rfl, hb6⟩
        have hm3 := HM2.out.below hb6 HM2.out.lt
        have v0 := hm3.cell (i := 0) rfl; have v1 := hm3.cell (i := 1) rfl
        have htx := text_any false A4 c4 R w4 (HA4.out.below hb6) HR9.out
        rw [sg_false, HR.out] at htx
        have HTX := Lib.hid htx
        have HBL4 := Lib.hid (HBL3.out.trans (hb6.mono HBL3.out.size))
        clear hm3 htx hb6 u0 u1
        go_wp2_with fail
        refine HTX.out.mono ?_
        rintro e w5 ⟨rfl, hb7⟩
        go_wp2_with fail
        go_ret3
        exact ⟨rfl, HBL4.out.trans (hb7.mono HBL4.out.size)⟩

/-- What ToInt answers. -/
def toR (a : List UInt8) : Option Int := (rd a).bind fun z => if -9223372036854775808 ≤ z ∧ z ≤ 9223372036854775807 then some z else none
def OutTo (r : Option Int) (w : World) (e : Ending) (w' : World) : Prop := e = .returned (match r with | some z => .tuple #[.int .i64 z, .int .i64 0] | none => .tuple #[.int .i64 0, .int .i64 30]) ∧ Below w.heap.size w w'
theorem beq_list (x y : ByteArray) (b : Bool) (h : b = decide (x.data.toList = y.data.toList)) : (x.toList == y.toList) = b := by
  rw [toList_data, toList_data, h, Bool.eq_iff_iff, beq_iff_eq, decide_eq_true_eq]
theorem wrap_neg (m : Int) : wrap64 (-wrap64 m) = wrap64 (-m) := by unfold wrap64; omega
set_option maxRecDepth 100000 in
set_option maxHeartbeats 2000000 in
theorem toInt_any (a : ByteArray) (w : World) (ha : a.size ≤ 9000000000000000000) : Calls Try.prog 27 #[.string a] w (OutTo (toR a.data.toList) w) := by
  have hva := fun w => valid_any a w ha
  cases hx : rd a.data.toList with
  | none =>
    have hv : validB a.data.toList = false := by
      cases hq : validB a.data.toList with
      | false => rfl
      | true => unfold rd at hx; rw [if_pos hq] at hx; cases hx
    rw [show toR a.data.toList = none from by unfold toR; rw [hx]; rfl]
    rw [hv] at hva
    have HV := Lib.hid hva
    clear hva hv hx
    go_enter Try.func27, Try.ntmps27
    go_wp2_with fail
    refine (HV.out _).mono ?_
    rintro e w1 ⟨rfl, k, rfl⟩
    go_wp2_with fail
    go_ret2
    exact ⟨rfl, below_drewN (Below.refl _ _) k⟩
  | some z =>
    obtain ⟨hz, hz9, hcb, hD, hX, hl0, hl, hv⟩ := rd_some hx
    rw [hv] at hva
    have hcs := fun w => cutSign_any a w ha
    unfold OutCut at hcs
    obtain ⟨r, hrr⟩ : ∃ r, r = bs (cutR a.data.toList) := ⟨_, rfl⟩
    have hrd : r.data.toList = cutR a.data.toList := by rw [hrr]; rfl
    rw [← hrr] at hcs
    rw [← hrd] at hD hX hl
    have hval := fun w => valueOf_any r w hD (by rw [size_eq]; omega)
    rw [hX] at hval
    rw [hcb] at hcs
    obtain ⟨m, hm⟩ : ∃ m : Int, m = wrap64 (z.natAbs : Nat) := ⟨_, rfl⟩
    rw [← hm] at hval
    have hm9 : -9223372036854775808 ≤ m ∧ m ≤ 9223372036854775807 := by rw [hm]; unfold wrap64; omega
    obtain ⟨m1, m2⟩ := hm9
    have hmz : (if z < 0 then wrap64 (-m) else m) = wrap64 z := by
      rw [hm]
      split
      · rw [wrap_neg]; congr 1; omega
      · congr 1; omega
    obtain ⟨v, hvv⟩ : ∃ v, v = wrap64 z := ⟨_, rfl⟩
    have hv9 : -9223372036854775808 ≤ v ∧ v ≤ 9223372036854775807 := by rw [hvv]; unfold wrap64; omega
    rw [← hvv] at hmz
    have hfi := fun w => fromInt_any v w hv9.1 hv9.2
    have HV := Lib.hid hva; have HC := Lib.hid hcs; have HVA := Lib.hid hval; have HFI := Lib.hid hfi
    have hq : ∀ b, b = decide (v = z) → ((zS v).toList == a.toList) = b := fun b hb => beq_list _ _ _ (by
      rw [zS_list, hz, hb, decide_eq_decide]
      exact ⟨fun h => by rw [h], fun h => zL_inj h⟩)
    by_cases hin : -9223372036854775808 ≤ z ∧ z ≤ 9223372036854775807
    · have hvz : v = z := by rw [hvv]; unfold wrap64; omega
      have hq1 := hq true (by simp [hvz])
      have htr : toR a.data.toList = some v := by unfold toR; rw [hx, hvz]; simp [hin]
      rw [htr]
      clear hva hcs hval hfi hq htr hvz hin hvv hX hD hl hl0 hrd hrr hx hz hm hcb hv hz9 hv9
      by_cases hneg : z < 0
      · rw [if_pos hneg] at hmz
        have hdec : decide (z < 0) = true := by simp [hneg]
        rw [hdec] at HC
        clear hdec hneg
        go_enter Try.func27, Try.ntmps27
        go_wp2_with fail
        refine (HV.out _).mono ?_
        rintro e w1 ⟨rfl, k, rfl⟩
        go_wp2_with fail
        refine (HC.out _).mono ?_
        rintro e w1 ⟨rfl, k2, rfl⟩
        go_wp2_with fail
        refine (HVA.out _).mono ?_
        rintro e w1 ⟨rfl, hb1⟩
        go_wp2_with fail
        refine (HFI.out _).mono ?_
        rintro e w2 ⟨rfl, hb2⟩
        go_wp2_with fail
        go_ret2
        exact ⟨rfl, (below_drewN (Below.refl _ _) _).trans (hb1.trans (hb2.mono hb1.size))⟩
      · rw [if_neg hneg] at hmz
        have hdec : decide (z < 0) = false := by simp [hneg]
        rw [hdec] at HC
        subst hmz
        clear hdec hneg
        go_enter Try.func27, Try.ntmps27
        go_wp2_with fail
        refine (HV.out _).mono ?_
        rintro e w1 ⟨rfl, k, rfl⟩
        go_wp2_with fail
        refine (HC.out _).mono ?_
        rintro e w1 ⟨rfl, k2, rfl⟩
        go_wp2_with fail
        refine (HVA.out _).mono ?_
        rintro e w1 ⟨rfl, hb1⟩
        go_wp2_with fail
        refine (HFI.out _).mono ?_
        rintro e w2 ⟨rfl, hb2⟩
        go_wp2_with fail
        go_ret2
        exact ⟨rfl, (below_drewN (Below.refl _ _) _).trans (hb1.trans (hb2.mono hb1.size))⟩
    · have hvz : v ≠ z := by omega
      have hq1 := hq false (by simp [hvz])
      have htr : toR a.data.toList = none := by unfold toR; rw [hx]; simp [hin]
      rw [htr]
      clear hva hcs hval hfi hq htr hvz hin hvv hX hD hl hl0 hrd hrr hx hz hm hcb hv hz9 hv9
      by_cases hneg : z < 0
      · rw [if_pos hneg] at hmz
        have hdec : decide (z < 0) = true := by simp [hneg]
        rw [hdec] at HC
        clear hdec hneg
        go_enter Try.func27, Try.ntmps27
        go_wp2_with fail
        refine (HV.out _).mono ?_
        rintro e w1 ⟨rfl, k, rfl⟩
        go_wp2_with fail
        refine (HC.out _).mono ?_
        rintro e w1 ⟨rfl, k2, rfl⟩
        go_wp2_with fail
        refine (HVA.out _).mono ?_
        rintro e w1 ⟨rfl, hb1⟩
        go_wp2_with fail
        refine (HFI.out _).mono ?_
        rintro e w2 ⟨rfl, hb2⟩
        go_wp2_with fail
        go_ret2
        exact ⟨rfl, (below_drewN (Below.refl _ _) _).trans (hb1.trans (hb2.mono hb1.size))⟩
      · rw [if_neg hneg] at hmz
        have hdec : decide (z < 0) = false := by simp [hneg]
        rw [hdec] at HC
        subst hmz
        clear hdec hneg
        go_enter Try.func27, Try.ntmps27
        go_wp2_with fail
        refine (HV.out _).mono ?_
        rintro e w1 ⟨rfl, k, rfl⟩
        go_wp2_with fail
        refine (HC.out _).mono ?_
        rintro e w1 ⟨rfl, k2, rfl⟩
        go_wp2_with fail
        refine (HVA.out _).mono ?_
        rintro e w1 ⟨rfl, hb1⟩
        go_wp2_with fail
        refine (HFI.out _).mono ?_
        rintro e w2 ⟨rfl, hb2⟩
        go_wp2_with fail
        go_ret2
        exact ⟨rfl, (below_drewN (Below.refl _ _) _).trans (hb1.trans (hb2.mono hb1.size))⟩
end Go.Proofs.Ytgpppjfgdbloiaa
