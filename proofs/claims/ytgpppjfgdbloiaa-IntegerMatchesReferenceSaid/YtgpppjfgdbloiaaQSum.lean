/- The contracts of the reference's checked and sum, Add, Sub and Mul. Condition: the strings' lengths are ints. -/
import Derived.Test.YtgpppjfgdbloiaaQCmp
import Derived.Test.YtgpppjfgdbloiaaQTimes
import Derived.Test.YtgpppjfgdbloiaaQMinus
namespace Go.Proofs.Ytgpppjfgdbloiaa
open Go.RowKit Go.Lib

theorem lim_sg (s : Bool) (X : Nat) : lim (sg s X) = if dl X ≤ 200 then some (sg s X) else none := by
  unfold lim
  rw [sg_abs]
  by_cases h : dl X ≤ 200
  · rw [if_pos h, if_pos (dl_le.1 h)]
  · rw [if_neg h, if_neg (fun h2 => h (dl_le.2 h2))]
set_option maxRecDepth 100000 in
theorem qchecked_any (s : Bool) (A : Option Addr) (c X : Nat) (w : World) (hA : Dm w A (dl X) c X) (hX : dl X ≤ 10000) :
    Calls Try.prog 44 #[.bool s, .slice A (dl X) c] w (OutO (lim (sg s X)) w) := by
  have htx := reftext_any s A c X w hA hX
  unfold OutTx at htx
  rw [lim_sg]
  by_cases h : dl X ≤ 200
  · rw [if_pos h]
    have hd : decide (dl X ≤ 200) = true := by simp [h]
    rw [hd] at htx
    have HTX := Lib.hid htx
    clear htx hd h hA
    go_enter Try.func44, Try.ntmps44
    go_wp2_with fail
    refine HTX.out.mono ?_
    rintro e w1 ⟨rfl, hb⟩
    go_wp2_with fail
    go_ret2
    exact ⟨rfl, hb⟩
  · rw [if_neg h]
    have hd : decide (dl X ≤ 200) = false := by simp [h]
    rw [hd] at htx
    have HTX := Lib.hid htx
    clear htx hd h hA
    go_enter Try.func44, Try.ntmps44
    go_wp2_with fail
    refine HTX.out.mono ?_
    rintro e w1 ⟨rfl, hb⟩
    go_wp2_with fail
    go_ret2
    exact ⟨rfl, hb⟩

theorem dl_sum {X Y : Nat} (hX : dl X ≤ 1000) (hY : dl Y ≤ 1000) : dl (X + Y) ≤ 1001 := by
  obtain ⟨z, hz⟩ : ∃ z, z = 1000 := ⟨_, rfl⟩
  have h1 := dl_le.1 (show dl X ≤ z by omega)
  have h2 := dl_le.1 (show dl Y ≤ z by omega)
  have h3 : X + Y < 10 ^ (z + 1) := by rw [Nat.pow_succ]; omega
  have := dl_le.2 h3
  omega
set_option maxRecDepth 100000 in
set_option maxHeartbeats 1000000 in
theorem qsum_any (s t : Bool) (A A' : Option Addr) (c c' X Y : Nat) (w : World) (hA : Dm w A (dl X) c X) (hB : Dm w A' (dl Y) c' Y) (hX : dl X ≤ 1000) (hY : dl Y ≤ 1000) :
    Calls Try.prog 41 #[.bool s, .slice A (dl X) c, .bool t, .slice A' (dl Y) c'] w (OutO (lim (sg s X + sg t Y)) w) := by
  have hs := dl_sum hX hY
  have hpl := fun w1 h1 h2 => qplus_any A A' c c' X Y w1 h1 h2 (by omega)
  have HPL := Lib.hid hpl; have HA := Lib.hid hA; have HB := Lib.hid hB; have HS := Lib.hid hs
  by_cases hst : s = t
  · subst hst
    have he : sg s X + sg s Y = sg s (X + Y) := by cases s <;> simp [sg] <;> omega
    rw [he]
    clear he hA hB hs hpl
    cases s
    all_goals
      go_enter Try.func41, Try.ntmps41
      go_wp2_with fail
      refine (HPL.out _ HA.out HB.out).mono ?_
      rintro e w1 ⟨A1, c1, rfl, hD, -, hb⟩
      have HCK := Lib.hid (show ∀ s, Calls Try.prog 44 #[.bool s, .slice A1 (dl _) c1] w1 (OutO (lim (sg s _)) w1) from fun s => qchecked_any s A1 c1 (X + Y) w1 hD (by have := HS.out; omega))
      have HB1 := Lib.hid hb
      clear hD hb
      go_wp2_with fail
      refine (HCK.out _).mono ?_
      rintro e w2 ⟨rfl, hb2⟩
      go_wp2_with fail
      go_ret2
      exact ⟨rfl, HB1.out.trans (hb2.mono HB1.out.size)⟩
  · have hord := qorder_any A A' c c' X Y w hA hB (by omega)
    obtain ⟨v, hv⟩ : ∃ v, v = ordI (X : Nat) (Y : Nat) := ⟨_, rfl⟩
    rw [← hv] at hord
    have HORD := Lib.hid hord
    by_cases hge : Y ≤ X
    · have hv0 : 0 ≤ v := by rw [hv]; unfold ordI; split <;> (try split) <;> omega
      have he : sg s X + sg t Y = sg s (X - Y) := by
        have : t = !s := by cases s <;> cases t <;> simp_all
        subst this
        cases s <;> simp [sg] <;> omega
      rw [he]
      have hmn := fun q => qminus_any A A' c c' X Y (w.drewN q) (hA.drewN q) (hB.drewN q) (by omega) hge
      have HMN := Lib.hid hmn
      clear he hA hB hs hpl hord hv hmn
      cases s <;> cases t
      all_goals first | exact absurd rfl hst | skip
      all_goals
        clear hst
        go_enter Try.func41, Try.ntmps41
        go_wp2_with fail
        refine HORD.out.mono ?_
        rintro e w1 ⟨rfl, q, rfl⟩
        go_wp2_with fail
        refine (HMN.out q).mono ?_
        rintro e w1 ⟨A1, c1, rfl, hD, -, hb⟩
        have HCK := Lib.hid (show ∀ s, Calls Try.prog 44 #[.bool s, .slice A1 (dl _) c1] w1 (OutO (lim (sg s _)) w1) from fun s => qchecked_any s A1 c1 (X - Y) w1 hD (by have := dl_mono (Nat.sub_le X Y); omega))
        have HB1 := Lib.hid ((below_drewN (Below.refl w.heap.size w) q).trans hb)
        clear hD hb
        go_wp2_with fail
        refine (HCK.out _).mono ?_
        rintro e w2 ⟨rfl, hb2⟩
        go_wp2_with fail
        go_ret2
        exact ⟨rfl, HB1.out.trans (hb2.mono HB1.out.size)⟩
    · have hv0 : v < 0 := by rw [hv, ordI_lt (by omega)]; omega
      have he : sg s X + sg t Y = sg t (Y - X) := by
        have : t = !s := by cases s <;> cases t <;> simp_all
        subst this
        cases s <;> simp [sg] <;> omega
      rw [he]
      have hmn := fun q => qminus_any A' A c' c Y X (w.drewN q) (hB.drewN q) (hA.drewN q) (by omega) (by omega)
      have HMN := Lib.hid hmn
      clear he hA hB hs hpl hord hv hmn
      cases s <;> cases t
      all_goals first | exact absurd rfl hst | skip
      all_goals
        clear hst
        go_enter Try.func41, Try.ntmps41
        go_wp2_with fail
        refine HORD.out.mono ?_
        rintro e w1 ⟨rfl, q, rfl⟩
        go_wp2_with fail
        refine (HMN.out q).mono ?_
        rintro e w1 ⟨A1, c1, rfl, hD, -, hb⟩
        have HCK := Lib.hid (show ∀ s, Calls Try.prog 44 #[.bool s, .slice A1 (dl _) c1] w1 (OutO (lim (sg s _)) w1) from fun s => qchecked_any s A1 c1 (Y - X) w1 hD (by have := dl_mono (Nat.sub_le Y X); omega))
        have HB1 := Lib.hid ((below_drewN (Below.refl w.heap.size w) q).trans hb)
        clear hD hb
        go_wp2_with fail
        refine (HCK.out _).mono ?_
        rintro e w2 ⟨rfl, hb2⟩
        go_wp2_with fail
        go_ret2
        exact ⟨rfl, HB1.out.trans (hb2.mono HB1.out.size)⟩

set_option maxRecDepth 100000 in
set_option maxHeartbeats 1000000 in
theorem qadd_any (a b : ByteArray) (w : World) (ha : a.size ≤ 9000000000000000000) (hb : b.size ≤ 9000000000000000000) :
    Calls Try.prog 16 #[.string a, .string b] w (OutO (opR (· + ·) a.data.toList b.data.toList) w) := by
  have hva := fun w => qvalid_any a w ha
  have hvb := fun w => qvalid_any b w hb
  cases hx : rd a.data.toList with
  | none =>
    rw [opR_no1 hx]
    rw [valid_no hx] at hva
    have HVA := Lib.hid hva
    clear hx hva hvb
    go_enter Try.func16, Try.ntmps16
    go_wp2_with fail
    refine (HVA.out _).mono ?_
    rintro e w1 ⟨rfl, k1, rfl⟩
    go_wp2_with fail
    go_ret2
    exact ⟨rfl, below_drewN (Below.refl _ _) _⟩
  | some x =>
    rw [valid_yes hx] at hva
    have HVA := Lib.hid hva
    cases hy : rd b.data.toList with
    | none =>
      rw [opR_no2 hx hy]
      rw [valid_no hy] at hvb
      have HVB := Lib.hid hvb
      clear hx hy hva hvb
      go_enter Try.func16, Try.ntmps16
      go_wp2_with fail
      refine (HVA.out _).mono ?_
      rintro e w1 ⟨rfl, k1, rfl⟩
      go_wp2_with fail
      refine (HVB.out _).mono ?_
      rintro e w1 ⟨rfl, k2, rfl⟩
      go_wp2_with fail
      go_ret2
      exact ⟨rfl, below_drewN (Below.refl _ _) _⟩
    | some y =>
      rw [valid_yes hy] at hvb
      rw [opR_yes hx hy]
      have HVB := Lib.hid hvb
      obtain ⟨sx, X, ex, -, -, hX2, -, hda⟩ := qdig2 ha hx
      obtain ⟨sy, Y, ey, -, -, hY2, -, hdb⟩ := qdig2 hb hy
      have HDA := Lib.hid hda; have HDB := Lib.hid hdb
      have hYl := dl_le.2 hY2
      have hXl := dl_le.2 hX2
      subst ex
      subst ey
      clear hx hy hva hvb hda hdb hX2 hY2
      go_enter Try.func16, Try.ntmps16
      go_wp2_with fail
      refine (HVA.out _).mono ?_
      rintro e w1 ⟨rfl, k1, rfl⟩
      go_wp2_with fail
      refine (HVB.out _).mono ?_
      rintro e w1 ⟨rfl, k2, rfl⟩
      go_wp2_with fail
      refine (HDA.out _).mono ?_
      rintro e w3 ⟨A, c, rfl, hA, hb3⟩
      have hb3 := Lib.hid ((below_drewN (Below.refl w.heap.size w) (k1 + k2)).trans hb3)
      have hA := Lib.hid hA
      go_wp2_with fail
      refine (HDB.out _).mono ?_
      rintro e w4 ⟨A', c', rfl, hB, hb4⟩
      have hA2 := Lib.hid (hA.out.below hb4)
      have hb5 := Lib.hid (hb3.out.trans (hb4.mono hb3.out.size))
      have hB := Lib.hid hB
      clear hb4
      go_wp2_with fail
      refine (qsum_any sx sy A A' c c' X Y w4 hA2.out hB.out (by omega) (by omega)).mono ?_
      rintro e w5 ⟨rfl, hb6⟩
      go_wp2_with fail
      go_ret2
      exact ⟨rfl, hb5.out.trans (hb6.mono hb5.out.size)⟩

set_option maxRecDepth 100000 in
set_option maxHeartbeats 1000000 in
theorem qsub_any (a b : ByteArray) (w : World) (ha : a.size ≤ 9000000000000000000) (hb : b.size ≤ 9000000000000000000) :
    Calls Try.prog 18 #[.string a, .string b] w (OutO (opR (· - ·) a.data.toList b.data.toList) w) := by
  have hva := fun w => qvalid_any a w ha
  have hvb := fun w => qvalid_any b w hb
  cases hx : rd a.data.toList with
  | none =>
    rw [opR_no1 hx]
    rw [valid_no hx] at hva
    have HVA := Lib.hid hva
    clear hx hva hvb
    go_enter Try.func18, Try.ntmps18
    go_wp2_with fail
    refine (HVA.out _).mono ?_
    rintro e w1 ⟨rfl, k1, rfl⟩
    go_wp2_with fail
    go_ret2
    exact ⟨rfl, below_drewN (Below.refl _ _) _⟩
  | some x =>
    rw [valid_yes hx] at hva
    have HVA := Lib.hid hva
    cases hy : rd b.data.toList with
    | none =>
      rw [opR_no2 hx hy]
      rw [valid_no hy] at hvb
      have HVB := Lib.hid hvb
      clear hx hy hva hvb
      go_enter Try.func18, Try.ntmps18
      go_wp2_with fail
      refine (HVA.out _).mono ?_
      rintro e w1 ⟨rfl, k1, rfl⟩
      go_wp2_with fail
      refine (HVB.out _).mono ?_
      rintro e w1 ⟨rfl, k2, rfl⟩
      go_wp2_with fail
      go_ret2
      exact ⟨rfl, below_drewN (Below.refl _ _) _⟩
    | some y =>
      rw [valid_yes hy] at hvb
      rw [opR_yes hx hy]
      have HVB := Lib.hid hvb
      obtain ⟨sx, X, ex, -, -, hX2, -, hda⟩ := qdig2 ha hx
      obtain ⟨sy, Y, ey, -, -, hY2, -, hdb⟩ := qdig2 hb hy
      have HDA := Lib.hid hda; have HDB := Lib.hid hdb
      have hYl := dl_le.2 hY2
      have hXl := dl_le.2 hX2
      subst ex
      subst ey
      clear hx hy hva hvb hda hdb hX2 hY2
      cases sy
      all_goals
        go_enter Try.func18, Try.ntmps18
        go_wp2_with fail
        refine (HVA.out _).mono ?_
        rintro e w1 ⟨rfl, k1, rfl⟩
        go_wp2_with fail
        refine (HVB.out _).mono ?_
        rintro e w1 ⟨rfl, k2, rfl⟩
        go_wp2_with fail
        refine (HDA.out _).mono ?_
        rintro e w3 ⟨A, c, rfl, hA, hb3⟩
        have hb3 := Lib.hid ((below_drewN (Below.refl w.heap.size w) (k1 + k2)).trans hb3)
        have hA := Lib.hid hA
        go_wp2_with fail
        refine (HDB.out _).mono ?_
        rintro e w4 ⟨A', c', rfl, hB, hb4⟩
        have hA2 := Lib.hid (hA.out.below hb4)
        have hb5 := Lib.hid (hb3.out.trans (hb4.mono hb3.out.size))
        have hB := Lib.hid hB
        clear hb4
        go_wp2_with fail
        refine (qsum_any sx _ A A' c c' X Y w4 hA2.out hB.out (by omega) (by omega)).mono ?_
        rintro e w5 ⟨rfl, hb6⟩
        go_wp2_with fail
        go_ret2
        exact ⟨by simp [sg, Int.sub_eq_add_neg], hb5.out.trans (hb6.mono hb5.out.size)⟩

set_option maxRecDepth 100000 in
set_option maxHeartbeats 1000000 in
theorem qmul_any (a b : ByteArray) (w : World) (ha : a.size ≤ 9000000000000000000) (hb : b.size ≤ 9000000000000000000) :
    Calls Try.prog 20 #[.string a, .string b] w (OutO (opR (· * ·) a.data.toList b.data.toList) w) := by
  have hva := fun w => qvalid_any a w ha
  have hvb := fun w => qvalid_any b w hb
  cases hx : rd a.data.toList with
  | none =>
    rw [opR_no1 hx]
    rw [valid_no hx] at hva
    have HVA := Lib.hid hva
    clear hx hva hvb
    go_enter Try.func20, Try.ntmps20
    go_wp2_with fail
    refine (HVA.out _).mono ?_
    rintro e w1 ⟨rfl, k1, rfl⟩
    go_wp2_with fail
    go_ret2
    exact ⟨rfl, below_drewN (Below.refl _ _) _⟩
  | some x =>
    rw [valid_yes hx] at hva
    have HVA := Lib.hid hva
    cases hy : rd b.data.toList with
    | none =>
      rw [opR_no2 hx hy]
      rw [valid_no hy] at hvb
      have HVB := Lib.hid hvb
      clear hx hy hva hvb
      go_enter Try.func20, Try.ntmps20
      go_wp2_with fail
      refine (HVA.out _).mono ?_
      rintro e w1 ⟨rfl, k1, rfl⟩
      go_wp2_with fail
      refine (HVB.out _).mono ?_
      rintro e w1 ⟨rfl, k2, rfl⟩
      go_wp2_with fail
      go_ret2
      exact ⟨rfl, below_drewN (Below.refl _ _) _⟩
    | some y =>
      rw [valid_yes hy] at hvb
      rw [opR_yes hx hy]
      have HVB := Lib.hid hvb
      obtain ⟨sx, X, ex, -, -, hX2, -, hda⟩ := qdig2 ha hx
      obtain ⟨sy, Y, ey, -, -, hY2, -, hdb⟩ := qdig2 hb hy
      have HDA := Lib.hid hda; have HDB := Lib.hid hdb
      have hYl := dl_le.2 hY2
      have hXl := dl_le.2 hX2
      subst ex
      subst ey
      clear hx hy hva hvb hda hdb hX2 hY2
      have hm : dl (X * Y) ≤ 400 := by
        obtain ⟨z, hz⟩ : ∃ z, z = 200 := ⟨_, rfl⟩
        have h1 := Nat.mul_lt_mul'' (dl_le.1 (show dl X ≤ z by omega)) (dl_le.1 (show dl Y ≤ z by omega))
        rw [← Nat.pow_add] at h1
        have h2 := dl_le.2 h1
        omega
      have he : sg sx X * sg sy Y = sg (!(sx == sy)) (X * Y) := by cases sx <;> cases sy <;> simp [sg, Int.neg_mul, Int.mul_neg]
      show Calls _ _ _ w (OutO (lim (sg sx X * sg sy Y)) w)
      rw [he]
      clear he
      cases sx <;> cases sy
      all_goals
        go_enter Try.func20, Try.ntmps20
        go_wp2_with fail
        refine (HVA.out _).mono ?_
        rintro e w1 ⟨rfl, k1, rfl⟩
        go_wp2_with fail
        refine (HVB.out _).mono ?_
        rintro e w1 ⟨rfl, k2, rfl⟩
        go_wp2_with fail
        refine (HDA.out _).mono ?_
        rintro e w3 ⟨A, c, rfl, hA, hb3⟩
        have hb3 := Lib.hid ((below_drewN (Below.refl w.heap.size w) (k1 + k2)).trans hb3)
        have hA := Lib.hid hA
        go_wp2_with fail
        refine (HDB.out _).mono ?_
        rintro e w4 ⟨A', c', rfl, hB, hb4⟩
        have hA2 := Lib.hid (hA.out.below hb4)
        have hb5 := Lib.hid (hb3.out.trans (hb4.mono hb3.out.size))
        have hB := Lib.hid hB
        clear hb4
        go_wp2_with fail
        refine (qtimes_any A A' c c' X Y w4 hA2.out hB.out (by omega) (by omega)).mono ?_
        rintro e w5 ⟨A5, c5, rfl, hD5, -, hb6⟩
        have HCK := Lib.hid (show ∀ s, Calls Try.prog 44 #[.bool s, .slice A5 (dl _) c5] w5 (OutO (lim (sg s _)) w5) from fun s => qchecked_any s A5 c5 (X * Y) w5 hD5 (by omega))
        have HB6 := Lib.hid (hb5.out.trans (hb6.mono hb5.out.size))
        clear hD5 hb6
        go_wp2_with fail
        refine (HCK.out _).mono ?_
        rintro e w6 ⟨rfl, hb7⟩
        go_wp2_with fail
        go_ret2
        exact ⟨rfl, HB6.out.trans (hb7.mono HB6.out.size)⟩

end Go.Proofs.Ytgpppjfgdbloiaa
