/- The contract of the reference's ToInt. Condition: the string's length is an int. -/
import Derived.Test.YtgpppjfgdbloiaaQCmp
namespace Go.Proofs.Ytgpppjfgdbloiaa
open Go.RowKit Go.Lib

theorem rd_min : rd (⟨#[45, 57, 50, 50, 51, 51, 55, 50, 48, 51, 54, 56, 53, 52, 55, 55, 53, 56, 48, 56]⟩ : ByteArray).data.toList = some (-9223372036854775808) := by rfl
theorem rd_max : rd (⟨#[57, 50, 50, 51, 51, 55, 50, 48, 51, 54, 56, 53, 52, 55, 55, 53, 56, 48, 55]⟩ : ByteArray).data.toList = some 9223372036854775807 := by rfl
theorem ordI_neg {x y : Int} : ordI x y < 0 ↔ x < y := by unfold ordI; split <;> (try split) <;> omega
theorem ordI_pos {x y : Int} : 0 < ordI x y ↔ y < x := by unfold ordI; split <;> (try split) <;> omega
theorem dval_up {L : List UInt8} {i : Nat} (h : i < L.length) : dval (L.take (i + 1)) = 10 * dval (L.take i) + (L[i].toNat - 48) := by
  rw [List.take_succ_eq_append_getElem h, dval_snoc]
theorem dval_part {L : List UInt8} (h : ∀ c ∈ L, IsD c) (k : Nat) : dval (L.take k) ≤ dval L := by
  rw [dval_take h]; exact Nat.div_le_self _ _

set_option maxRecDepth 100000 in
set_option maxHeartbeats 1000000 in
theorem qtoint_any (a : ByteArray) (w : World) (ha : a.size ≤ 9000000000000000000) : Calls Try.prog 28 #[.string a] w (OutTo (toR a.data.toList) w) := by
  have hva := fun w => qvalid_any a w ha
  cases hx : rd a.data.toList with
  | none =>
    rw [show toR a.data.toList = none from by unfold toR; rw [hx]; rfl]
    rw [valid_no hx] at hva
    have HVA := Lib.hid hva
    clear hx hva
    go_enter Try.func28, Try.ntmps28
    go_wp2_with fail
    refine (HVA.out _).mono ?_
    rintro e w1 ⟨rfl, k1, rfl⟩
    go_wp2_with fail
    go_ret2
    exact ⟨rfl, below_drewN (Below.refl _ _) _⟩
  | some z =>
    rw [valid_yes hx] at hva
    have HVA := Lib.hid hva
    have hc1 := fun w => qcompare_any a ⟨#[45, 57, 50, 50, 51, 51, 55, 50, 48, 51, 54, 56, 53, 52, 55, 55, 53, 56, 48, 56]⟩ w ha (by show (20 : Nat) ≤ _; omega)
    have hc2 := fun w => qcompare_any a ⟨#[57, 50, 50, 51, 51, 55, 50, 48, 51, 54, 56, 53, 52, 55, 55, 53, 56, 48, 55]⟩ w ha (by show (19 : Nat) ≤ _; omega)
    rw [cmpR_yes hx rd_min] at hc1
    rw [cmpR_yes hx rd_max] at hc2
    have o1 := @ordI_neg z (-9223372036854775808)
    have o2 := @ordI_pos z 9223372036854775807
    obtain ⟨v1, hv1⟩ : ∃ v, v = ordI z (-9223372036854775808) := ⟨_, rfl⟩
    obtain ⟨v2, hv2⟩ : ∃ v, v = ordI z 9223372036854775807 := ⟨_, rfl⟩
    rw [← hv1] at hc1 o1
    rw [← hv2] at hc2 o2
    have HC1 := Lib.hid hc1; have HC2 := Lib.hid hc2
    clear hc1 hc2 hv1 hv2
    by_cases hlo : z < -9223372036854775808
    · rw [show toR a.data.toList = none from by unfold toR; rw [hx]; simp; omega]
      have p1 : v1 < 0 := o1.2 hlo
      clear hx hva o1 o2
      go_enter Try.func28, Try.ntmps28
      go_wp2_with fail
      refine (HVA.out _).mono ?_
      rintro e w1 ⟨rfl, k1, rfl⟩
      go_wp2_with fail
      refine (HC1.out _).mono ?_
      rintro e w1 ⟨rfl, hb1⟩
      go_wp2_with fail
      go_ret2
      exact ⟨rfl, (below_drewN (Below.refl _ _) k1).trans hb1⟩
    · have p1 : ¬ v1 < 0 := fun h => hlo (o1.1 h)
      by_cases hhi : 9223372036854775807 < z
      · rw [show toR a.data.toList = none from by unfold toR; rw [hx]; simp; omega]
        have p2 : 0 < v2 := o2.2 hhi
        clear hx hva o1 o2
        go_enter Try.func28, Try.ntmps28
        go_wp2_with fail
        refine (HVA.out _).mono ?_
        rintro e w1 ⟨rfl, k1, rfl⟩
        go_wp2_with fail
        refine (HC1.out _).mono ?_
        rintro e w1 ⟨rfl, hb1⟩
        have hb1 := Lib.hid ((below_drewN (Below.refl w.heap.size w) k1).trans hb1)
        go_wp2_with fail
        refine (HC2.out _).mono ?_
        rintro e w2 ⟨rfl, hb2⟩
        go_wp2_with fail
        go_ret2
        exact ⟨rfl, hb1.out.trans (hb2.mono hb1.out.size)⟩
      · have p2 : ¬ 0 < v2 := fun h => hhi (o2.1 h)
        rw [show toR a.data.toList = some z from by unfold toR; rw [hx]; simp; omega]
        obtain ⟨g1, g2, g3, g4, g5, g6, g7, -⟩ := rd_some hx
        have hp : 0 < a.size := by
          have := cutR_le a.data.toList
          rw [← size_eq] at this; omega
        have hL : a.data.toList = a[0] :: a.data.toList.tail := by
          cases hq : a.data.toList with
          | nil => have h7 := size_eq a; rw [hq, List.length_nil] at h7; omega
          | cons c R =>
            have : a[0] = c := by
              have h4 : a[0] = a.data.toList[0]'(by rw [hq]; simp) := rfl
              rw [h4]; simp [hq]
            rw [this]; rfl
        have hat : ∀ i (h : i < a.size), a[i] = a.data.toList[i]'(by rw [← size_eq]; exact h) := fun i h => rfl
        have hsz := size_eq a
        have hh1 : a.toList ≠ [] := by rw [toList_data, ne_eq, ← List.length_eq_zero_iff, ← size_eq]; omega
        have hh2 : (!a.toList.isEmpty) = true := by simp [hh1]
        by_cases hc : a[0] = 45
        · have h3 : ((a[0].toNat : Int) == 45) = true := by rw [hc]; rfl
          have hcb : cutB a.data.toList = true := by rw [hL, hc]; rfl
          have hcr : cutR a.data.toList = a.data.toList.tail := by rw [hL, hc]; rfl
          obtain ⟨R, hR⟩ : ∃ R, R = a.data.toList.tail := ⟨_, rfl⟩
          rw [hcr, ← hR] at g4 g5 g6
          rw [hcb] at g3
          have hzn : z < 0 := by simpa using g3.symm
          have hRl : R.length + 1 = a.size := by rw [hR, hsz, hL]; simp
          have hRat : ∀ j (h : j + 1 < a.size) (h2 : j < R.length), a[j + 1] = R[j] := fun j h h2 => by
            rw [hat]
            simp [hR]
          have hzd : z = -(dval R : Int) := by omega
          have HZ := Lib.hid hzd; have HR := Lib.hid g4; have HAT := Lib.hid hRat
          have hlo2 : -9223372036854775808 ≤ z := by omega
          clear hx hva o1 o2 g1 g2 g3 g4 g5 g6 g7 hL hat hcb hcr hR hzd hRat hlo hhi hzn hsz
          go_enter Try.func28, Try.ntmps28
          go_wp2_with fail
          refine (HVA.out _).mono ?_
          rintro e w1 ⟨rfl, k1, rfl⟩
          go_wp2_with fail
          refine (HC1.out _).mono ?_
          rintro e w1 ⟨rfl, hb1⟩
          have hb1 := Lib.hid ((below_drewN (Below.refl w.heap.size w) k1).trans hb1)
          go_wp2_with fail
          refine (HC2.out _).mono ?_
          rintro e w2 ⟨rfl, hb2⟩
          have hb2 := Lib.hid (hb1.out.trans (hb2.mono hb1.out.size))
          go_wp2_with fail
          clear p1 p2
          go_loopw [4, 5] (fun nn ii wr => ∃ (i : Nat) (n : Int), nn = .int .i64 n ∧ ii = .int .i64 i ∧ i ≤ a.size ∧ Hid (n = -(dval (R.take (i - 1)) : Int)) ∧ Below w.heap.size w wr) (fun _ ii _ => a.size - (intOf ii).toNat)
          case atStart => exact ⟨0, 0, rfl, rfl, Nat.zero_le _, by show _ = _; simp [dval], hb2.out⟩
          case round =>
            obtain ⟨i, n, rfl, rfl, hi, HN, hbl⟩ := hrel
            by_cases hlt : i < a.size
            · rcases i with _ | j
              · have h4 : ((a[0].toNat : Int) == 45) = true := h3
                rw [show ((0 : Nat) : Int) = 0 from rfl]
                go_wp2_with fail
                go_roundw
                case rel => exact ⟨1, n, rfl, rfl, by omega, HN, hbl⟩
                case measure => simp [intOf] <;> omega
              · have hj : j < R.length := by omega
                have hcj := HAT.out j hlt hj
                have hIs := HR.out R[j] (List.getElem_mem _)
                rw [← hcj] at hIs
                unfold IsD at hIs
                have hup := dval_up hj
                rw [← hcj] at hup
                have hpt := dval_part HR.out (j + 1)
                have hz := HZ.out
                have hn := HN.out
                rw [Nat.add_sub_cancel] at hn
                have h5 : ((a[j + 1].toNat : Int) == 45) = false := by rw [beq_eq_false_iff_ne]; omega
                obtain ⟨d, hd⟩ : ∃ d, d = a[j + 1].toNat - 48 := ⟨_, rfl⟩
                rw [← hd] at hup
                have e1 : (a[j + 1].toNat : Int) - 48 = (d : Int) := by omega
                have q3 : (48 : Int) ≤ (a[j + 1].toNat : Int) := by omega
                have q4 : (a[j + 1].toNat : Int) ≤ 57 := by omega
                have q5 : (0 : Int) ≤ (d : Int) := by omega
                have q6 : (d : Int) ≤ 9 := by omega
                have b1 : -9223372036854775808 ≤ 10 * n := by omega
                have b2 : 10 * n ≤ 0 := by omega
                have b3 : -9223372036854775808 ≤ 10 * n + -(d : Int) := by omega
                have b4 : 10 * n + -(d : Int) ≤ 0 := by omega
                have HN2 : Hid (10 * n + -(d : Int) = -(dval (R.take (j + 1)) : Int)) := by show _ = _; omega
                have q1 : (0 : Int) ≤ ((j + 1 : Nat) : Int) := by omega
                have q2 : ((j + 1 : Nat) : Int) < (a.size : Int) := by omega
                obtain ⟨i, hi'⟩ : ∃ i, i = j + 1 := ⟨_, rfl⟩
                have HBL := Lib.hid hbl
                clear hup hpt hz hn hIs hcj hd HN hj hbl
                go_wp2_with fail
                go_roundw
                case rel => exact ⟨j + 1 + 1, _, rfl, by go_num, by omega, HN2, HBL.out⟩
                case measure => simp [intOf] <;> omega
            · obtain rfl : i = a.size := by omega
              have hfin : n = z := by
                rw [HN.out, HZ.out, List.take_of_length_le (by omega)]
              subst hfin
              have HBL := Lib.hid hbl
              clear hbl HN
              go_wp2_with fail
              go_ret2
              exact ⟨rfl, HBL.out⟩
        · have h3 : ((a[0].toNat : Int) == 45) = false := by
            rw [beq_eq_false_iff_ne]; intro h; exact hc (UInt8.toNat_inj.1 (show a[0].toNat = (45 : UInt8).toNat from Int.ofNat.inj h))
          have hcb : cutB a.data.toList = false := by
            rw [hL]; unfold cutB; split
            · rename_i h; injection h with h _; exact absurd h hc
            · rfl
          have hcr : cutR a.data.toList = a.data.toList := by
            rw [hL]; unfold cutR; split
            · rename_i h; injection h with h _; exact absurd h hc
            · rfl
          obtain ⟨R, hR⟩ : ∃ R, R = a.data.toList := ⟨_, rfl⟩
          rw [hcr, ← hR] at g4 g5 g6
          rw [hcb] at g3
          have hzn : ¬ z < 0 := by simpa using g3.symm
          have hRl : R.length = a.size := by rw [hR, hsz]
          have hRat : ∀ j (h : j < a.size) (h2 : j < R.length), a[j] = R[j] := fun j h h2 => by
            rw [hat]
            simp [hR]
          have hzd : z = (dval R : Int) := by omega
          have HZ := Lib.hid hzd; have HR := Lib.hid g4; have HAT := Lib.hid hRat
          have hhi2 : z ≤ 9223372036854775807 := by omega
          clear hx hva o1 o2 g1 g2 g3 g4 g5 g6 g7 hL hat hcb hcr hR hzd hRat hlo hhi hzn hsz
          go_enter Try.func28, Try.ntmps28
          go_wp2_with fail
          refine (HVA.out _).mono ?_
          rintro e w1 ⟨rfl, k1, rfl⟩
          go_wp2_with fail
          refine (HC1.out _).mono ?_
          rintro e w1 ⟨rfl, hb1⟩
          have hb1 := Lib.hid ((below_drewN (Below.refl w.heap.size w) k1).trans hb1)
          go_wp2_with fail
          refine (HC2.out _).mono ?_
          rintro e w2 ⟨rfl, hb2⟩
          have hb2 := Lib.hid (hb1.out.trans (hb2.mono hb1.out.size))
          go_wp2_with fail
          clear p1 p2
          go_loopw [4, 5] (fun nn ii wr => ∃ (i : Nat) (n : Int), nn = .int .i64 n ∧ ii = .int .i64 i ∧ i ≤ a.size ∧ Hid (n = (dval (R.take i) : Int)) ∧ Below w.heap.size w wr) (fun _ ii _ => a.size - (intOf ii).toNat)
          case atStart => exact ⟨0, 0, rfl, rfl, Nat.zero_le _, by show _ = _; simp [dval], hb2.out⟩
          case round =>
            obtain ⟨j, n, rfl, rfl, hi, HN, hbl⟩ := hrel
            by_cases hlt : j < a.size
            · have hj : j < R.length := by omega
              have hcj := HAT.out j hlt hj
              have hIs := HR.out R[j] (List.getElem_mem _)
              rw [← hcj] at hIs
              unfold IsD at hIs
              have hup := dval_up hj
              rw [← hcj] at hup
              have hpt := dval_part HR.out (j + 1)
              have hz := HZ.out
              have hn := HN.out
              have h5 : ((a[j].toNat : Int) == 45) = false := by rw [beq_eq_false_iff_ne]; omega
              obtain ⟨d, hd⟩ : ∃ d, d = a[j].toNat - 48 := ⟨_, rfl⟩
              rw [← hd] at hup
              have e1 : (a[j].toNat : Int) - 48 = (d : Int) := by omega
              have q3 : (48 : Int) ≤ (a[j].toNat : Int) := by omega
              have q4 : (a[j].toNat : Int) ≤ 57 := by omega
              have q5 : (0 : Int) ≤ (d : Int) := by omega
              have q6 : (d : Int) ≤ 9 := by omega
              have b1 : 10 * n ≤ 9223372036854775807 := by omega
              have b2 : 0 ≤ 10 * n := by omega
              have b3 : 10 * n + (d : Int) ≤ 9223372036854775807 := by omega
              have b4 : 0 ≤ 10 * n + (d : Int) := by omega
              have HN2 : Hid (10 * n + (d : Int) = (dval (R.take (j + 1)) : Int)) := by show _ = _; omega
              have q1 : (0 : Int) ≤ (j : Int) := by omega
              have q2 : (j : Int) < (a.size : Int) := by omega
              have HBL := Lib.hid hbl
              clear hup hpt hz hn hIs hcj hd HN hj hbl
              go_wp2_with fail
              go_roundw
              case rel => exact ⟨j + 1, _, rfl, by go_num, by omega, HN2, HBL.out⟩
              case measure => simp [intOf] <;> omega
            · obtain rfl : j = a.size := by omega
              have hfin : n = z := by
                rw [HN.out, HZ.out, List.take_of_length_le (by omega)]
              subst hfin
              have HBL := Lib.hid hbl
              clear hbl HN
              go_wp2_with fail
              go_ret2
              exact ⟨rfl, HBL.out⟩
end Go.Proofs.Ytgpppjfgdbloiaa
