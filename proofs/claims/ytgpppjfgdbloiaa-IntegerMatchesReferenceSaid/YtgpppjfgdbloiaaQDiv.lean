/- The contract of the reference's Div. Condition: the strings' lengths are ints. -/
import Derived.Test.YtgpppjfgdbloiaaQSum
import Derived.Test.YtgpppjfgdbloiaaQDivd
namespace Go.Proofs.Ytgpppjfgdbloiaa
open Go.RowKit Go.Lib

theorem is0_of {b : ByteArray} {y : Int} (hy : rd b.data.toList = some y) (v : Bool) (h : v = decide (y = 0)) : (b.toList == [48]) = v := by
  refine is48 _ _ ?_
  rw [h, (rd_some hy).1, decide_eq_decide]
  constructor
  · rintro rfl; rfl
  · intro h2; exact zL_inj (h2.trans (by rfl : [48] = zL 0))
theorem dl_one : dl 1 = 1 := dl_eq (by omega) (.inr (by decide))
/-- A new slice of one digit 1. -/
theorem Dm.one (w : World) : Dm (w.alloc (.cells #[.int .i64 1] 3)) (some ⟨w.heap.size, 0, none⟩) 1 1 1 :=
  ⟨Nat.le_refl _, fun _ => ⟨_, _, rfl, by simp, fun i hi => by
    obtain rfl : i = 0 := by omega
    rw [World.cell?_alloc_at _ _ _ _ rfl]
    rfl⟩⟩

set_option maxRecDepth 100000 in
set_option maxHeartbeats 2000000 in
theorem qdiv_any (a b : ByteArray) (w : World) (ha : a.size ≤ 9000000000000000000) (hb : b.size ≤ 9000000000000000000) :
    Calls Try.prog 22 #[.string a, .string b] w (OutDP (divR a.data.toList b.data.toList) w) := by
  have hva := fun w => qvalid_any a w ha
  have hvb := fun w => qvalid_any b w hb
  cases hx : rd a.data.toList with
  | none =>
    rw [divR_no1 hx]
    rw [valid_no hx] at hva
    have HVA := Lib.hid hva
    clear hx hva hvb
    go_enter Try.func22, Try.ntmps22
    go_wp2_with fail
    refine (HVA.out _).mono ?_
    rintro e w1 ⟨rfl, k1, rfl⟩
    go_wp2_with fail
    go_ret3
    exact ⟨rfl, below_drewN (Below.refl _ _) _⟩
  | some x =>
    rw [valid_yes hx] at hva
    have HVA := Lib.hid hva
    cases hy : rd b.data.toList with
    | none =>
      rw [divR_no2 hy]
      rw [valid_no hy] at hvb
      have HVB := Lib.hid hvb
      clear hx hy hva hvb
      go_enter Try.func22, Try.ntmps22
      go_wp2_with fail
      refine (HVA.out _).mono ?_
      rintro e w1 ⟨rfl, k1, rfl⟩
      go_wp2_with fail
      refine (HVB.out _).mono ?_
      rintro e w1 ⟨rfl, k2, rfl⟩
      go_wp2_with fail
      go_ret3
      exact ⟨rfl, below_drewN (Below.refl _ _) _⟩
    | some y =>
      rw [valid_yes hy] at hvb
      have HVB := Lib.hid hvb
      by_cases hy0 : y = 0
      · have hz := is0_of hy true (by simp [hy0])
        rw [divR_zero (by rw [hy, hy0])]
        clear hx hy hva hvb hy0
        go_enter Try.func22, Try.ntmps22
        go_wp2_with fail
        refine (HVA.out _).mono ?_
        rintro e w1 ⟨rfl, k1, rfl⟩
        go_wp2_with fail
        refine (HVB.out _).mono ?_
        rintro e w1 ⟨rfl, k2, rfl⟩
        go_wp2_with fail
        go_ret3
        exact ⟨rfl, below_drewN (Below.refl _ _) _⟩
      · have hz := is0_of hy false (by simp [hy0])
        rw [divR_yes hx hy hy0]
        have hx9 := (rd_some hx).2.1
        obtain ⟨sx, X, ex, -, -, hX2, -, hda⟩ := qdig2 ha hx
        obtain ⟨sy, Y, ey, -, hYa, hY2, -, hdb⟩ := qdig2 hb hy
        have hY0 : 0 < Y := by omega
        have HDA := Lib.hid hda; have HDB := Lib.hid hdb
        have hYl := dl_le.2 hY2
        have hXl := dl_le.2 hX2
        have hq9 := Int.natAbs_ediv_le_natAbs x y
        have hq9' : (x / y).natAbs < 10 ^ 200 := by omega
        have hlm : lim (x / y) = some (x / y) := by unfold lim; rw [if_pos hq9']
        obtain ⟨Q, hQ⟩ : ∃ Q, Q = X / Y := ⟨_, rfl⟩
        obtain ⟨R, hR⟩ : ∃ R, R = X % Y := ⟨_, rfl⟩
        have hdv := fun A A' c c' w1 h1 h2 => qdivd_any A A' c c' X Y w1 h1 h2 (by omega) (by omega) hY0
        unfold OutQD at hdv
        rw [← hQ, ← hR] at hdv
        have hQX : Q ≤ X := by rw [hQ]; exact Nat.div_le_self _ _
        have hRY : R < Y := by rw [hR]; exact Nat.mod_lt _ hY0
        have hQl := dl_mono hQX
        have hRl := dl_mono (Nat.le_of_lt hRY)
        have HDV := Lib.hid hdv
        by_cases hcase : sx = false ∨ R = 0
        · have hs0 : sx = true → X % Y = 0 := by
            intro h
            rw [← hR]
            rcases hcase with h2 | h2
            · rw [h] at h2; cases h2
            · exact h2
          have hsd := sg_div0 sx sy X Y hY0 hs0
          clear hs0
          rw [sg_sb, ex, ey, ← hQ, ← hR] at hsd
          have hck := fun A c w1 h1 => qchecked_any (!(sx == sy)) A c Q w1 h1 (by omega)
          rw [hsd.1, hlm] at hck
          have htx := fun A c w1 h1 => reftext_any false A c R w1 h1 (by omega)
          unfold OutTx at htx
          rw [sg_false, hsd.2] at htx
          have HCK := Lib.hid hck; have HTX := Lib.hid htx
          have hcase2 : sx = false ∨ (sx = true ∧ ¬ (0 : Int) < ((dl R : Nat) : Int)) := by
            cases sx
            · exact .inl rfl
            · refine .inr ⟨rfl, ?_⟩
              rcases hcase with h2 | h2
              · cases h2
              · rw [h2, dl_zero]; omega
          clear hx hy hva hvb hda hdb hX2 hY2 hcase ex ey hq9 hq9' hlm hsd hck htx hdv hQ hR hYa hQX hRY hx9
          rcases hcase2 with rfl | ⟨rfl, hlr⟩ <;> cases sy
          all_goals
            go_enter Try.func22, Try.ntmps22
            go_wp2_with fail
            refine (HVA.out _).mono ?_
            rintro e w1 ⟨rfl, k1, rfl⟩
            go_wp2_with fail
            refine (HVB.out _).mono ?_
            rintro e w1 ⟨rfl, k2, rfl⟩
            go_wp2_with fail
            refine (HDA.out _).mono ?_
            rintro e w3 ⟨A, c, rfl, hA, hb3⟩
            have hb3 := Lib.hid ((below_drewN (Below.refl w.heap.size w) (k1 + k2)).trans hb3)
            have hA := Lib.hid hA
            go_wp2_with fail
            refine (HDB.out _).mono ?_
            rintro e w4 ⟨A', c', rfl, hB, hb4⟩
            have hA2 := Lib.hid (hA.out.below hb4)
            have hb5 := Lib.hid (hb3.out.trans (hb4.mono hb3.out.size))
            have hB := Lib.hid hB
            clear hb4
            go_wp2_with fail
            refine (HDV.out _ _ _ _ _ hA2.out hB.out).mono ?_
            rintro e w5 ⟨Aq, cq, Ar, cr, rfl, hDq, hDr, hb6⟩
            have hDq := Lib.hid hDq; have hDr := Lib.hid hDr
            have hb7 := Lib.hid (hb5.out.trans (hb6.mono hb5.out.size))
            clear hb6
            go_wp2_with fail
            refine (HCK.out _ _ _ hDq.out).mono ?_
            rintro e w7 ⟨rfl, hb8⟩
            have hDr2 := Lib.hid (hDr.out.below hb8)
            have hb9 := Lib.hid (hb7.out.trans (hb8.mono hb7.out.size))
            clear hb8
            go_wp2_with fail
            refine (HTX.out _ _ _ hDr2.out).mono ?_
            rintro e w8 ⟨rfl, hb10⟩
            go_wp2_with fail
            go_ret3
            exact ⟨rfl, hb9.out.trans (hb10.mono hb9.out.size)⟩
        · obtain rfl : sx = true := by
            cases sx
            · exact absurd (.inl rfl) hcase
            · rfl
          have hR0 : 0 < R := by have : ¬ R = 0 := fun h => hcase (.inr h); omega
          have hsd := sg_div1 sy X Y hY0 (by rw [← hR]; exact hR0)
          rw [sg_sb, ex, ey, ← hQ, ← hR] at hsd
          have hQ1 : dl (Q + 1) ≤ 1001 := dl_sum (by omega) (by rw [dl_one]; omega)
          have hck := fun A c w1 h1 => qchecked_any (!(true == sy)) A c (Q + 1) w1 h1 (by omega)
          rw [hsd.1, hlm] at hck
          have hR2 := dl_mono (Nat.sub_le Y R)
          have htx := fun A c w1 h1 => reftext_any false A c (Y - R) w1 h1 (by omega)
          unfold OutTx at htx
          rw [sg_false, hsd.2] at htx
          have hpl := fun A c w1 h1 => qplus_any A (some ⟨World.heap w1 |>.size, 0, none⟩) c 1 Q 1 (w1.alloc (.cells #[.int .i64 1] 3)) h1 (by rw [dl_one]; exact Dm.one w1) (by omega)
          rw [dl_one] at hpl
          have hmn := fun A A' c c' w1 h1 h2 => qminus_any A A' c c' Y R w1 h1 h2 (by omega) (Nat.le_of_lt hRY)
          have HCK := Lib.hid hck; have HTX := Lib.hid htx; have HPL := Lib.hid hpl; have HMN := Lib.hid hmn
          have hlr : (0 : Int) < ((dl R : Nat) : Int) := by have := dl_pos hR0; omega
          clear hx hy hva hvb hda hdb hX2 hY2 hcase ex ey hq9 hq9' hlm hsd hck htx hdv hQ hR hYa hQX hRY hx9 hpl hmn hR0
          cases sy
          all_goals
            go_enter Try.func22, Try.ntmps22
            go_wp2_with fail
            refine (HVA.out _).mono ?_
            rintro e w1 ⟨rfl, k1, rfl⟩
            go_wp2_with fail
            refine (HVB.out _).mono ?_
            rintro e w1 ⟨rfl, k2, rfl⟩
            go_wp2_with fail
            refine (HDA.out _).mono ?_
            rintro e w3 ⟨A, c, rfl, hA, hb3⟩
            have hb3 := Lib.hid ((below_drewN (Below.refl w.heap.size w) (k1 + k2)).trans hb3)
            have hA := Lib.hid hA
            go_wp2_with fail
            refine (HDB.out _).mono ?_
            rintro e w4 ⟨A', c', rfl, hB, hb4⟩
            have hA2 := Lib.hid (hA.out.below hb4)
            have hb5 := Lib.hid (hb3.out.trans (hb4.mono hb3.out.size))
            have hB := Lib.hid hB
            clear hb4
            go_wp2_with fail
            refine (HDV.out _ _ _ _ _ hA2.out hB.out).mono ?_
            rintro e w5 ⟨Aq, cq, Ar, cr, rfl, hDq, hDr, hb6⟩
            have hDq := Lib.hid (hDq.below ((Below.refl _ _).alloc (Nat.le_refl _) (.cells #[.int .i64 1] 3))); have hDr := Lib.hid hDr; have hB3 := Lib.hid (hB.out.below hb6)
            have hb7 := Lib.hid (hb5.out.trans (hb6.mono hb5.out.size))
            clear hb6
            go_wp2_with fail
            refine (HPL.out _ _ _ hDq.out).mono ?_
            rintro e w6 ⟨Ap, cp, rfl, hDp, -, hb8⟩
            have hb8 := ((Below.refl w5.heap.size w5).alloc (Nat.le_refl _) (.cells #[.int .i64 1] 3)).trans (hb8.mono (by simp))
            have hDp := Lib.hid hDp; have hDr2 := Lib.hid (hDr.out.below hb8); have hB4 := Lib.hid (hB3.out.below hb8)
            have hb9 := Lib.hid (hb7.out.trans (hb8.mono hb7.out.size))
            clear hb8
            go_wp2_with fail
            refine (HMN.out _ _ _ _ _ hB4.out hDr2.out).mono ?_
            rintro e w7 ⟨Am, cm, rfl, hDm, -, hb10⟩
            have hDm := Lib.hid hDm; have hDp2 := Lib.hid (hDp.out.below hb10)
            have hb11 := Lib.hid (hb9.out.trans (hb10.mono hb9.out.size))
            clear hb10
            go_wp2_with fail
            refine (HCK.out _ _ _ hDp2.out).mono ?_
            rintro e w8 ⟨rfl, hb12⟩
            have hDm2 := Lib.hid (hDm.out.below hb12)
            have hb13 := Lib.hid (hb11.out.trans (hb12.mono hb11.out.size))
            clear hb12
            go_wp2_with fail
            refine (HTX.out _ _ _ hDm2.out).mono ?_
            rintro e w9 ⟨rfl, hb14⟩
            go_wp2_with fail
            go_ret3
            exact ⟨rfl, hb13.out.trans (hb14.mono hb13.out.size)⟩
end Go.Proofs.Ytgpppjfgdbloiaa
