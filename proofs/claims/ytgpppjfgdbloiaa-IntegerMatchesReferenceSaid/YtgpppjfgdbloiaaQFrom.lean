/- The contract of the reference's FromInt. No conditions. -/
import Derived.Test.YtgpppjfgdbloiaaQSum
namespace Go.Proofs.Ytgpppjfgdbloiaa
open Go.RowKit Go.Lib

set_option maxRecDepth 100000 in
set_option maxHeartbeats 1000000 in
theorem qfrom_any (n : Int) (w : World) (h1 : -9223372036854775808 ≤ n) (h2 : n ≤ 9223372036854775807) : Calls Try.prog 14 #[.int .i64 n] w fun e w' => e = .returned (.string (zS n)) ∧ Below w.heap.size w w' := by
  obtain ⟨i0, hi0, hz0, hz1, hz2⟩ := info_of info_i64
  obtain ⟨N, hN⟩ : ∃ N, N = n.natAbs := ⟨_, rfl⟩
  have hN20 : dl N ≤ 20 := dl_le.2 (by omega)
  by_cases hneg : n < 0
  · have hsg : sg true N = n := by rw [sg_true]; omega
    have HSG := Lib.hid hsg; have HNN := Lib.hid hN
    clear hsg hN
    go_enter Try.func14, Try.ntmps14
    go_wp2_with fail
    go_loopw [3, 4] (fun vv mm wr => ∃ (i : Nat) (z : Int), mm = .int .i64 z ∧ Hid (z = -((N / 10 ^ i : Nat) : Int)) ∧ i ≤ 20 ∧ Hid (i ≤ dl N) ∧ z ≤ 0 ∧ -9223372036854775808 ≤ z ∧ wr.ownsRow w.heap.size 3 1 vv i ((digs N i).map iv) ∧ Below w.heap.size w wr)
      (fun _ mm _ => (intOf mm).natAbs)
    case atStart => exact ⟨0, n, rfl, by show _ = _; have := HNN.out; simp; omega, by omega, Nat.zero_le _, by omega, h1, World.ownsRow_nil _ _ _ _, Below.refl _ _⟩
    case round =>
      obtain ⟨i, z, rfl, HZ, hi, HI, hz3, hz4, hown, hbl⟩ := hrel
      have hbs := hbl.size
      by_cases hz : z = 0
      · subst hz
        have hlt : N < 10 ^ i := by
          have h3 := HZ.out
          rcases Nat.lt_or_ge N (10 ^ i) with h | h
          · exact h
          · have := Nat.div_le_div_right (c := 10 ^ i) h
            rw [Nat.div_self (pow10_pos i)] at this; omega
        have hil : i = dl N := by have := dl_le.2 hlt; have := HI.out; omega
        subst hil
        obtain ⟨A, c, rfl, hD⟩ := Dm.own hown
        have htx := reftext_any true A c N wr hD (by omega)
        unfold OutTx at htx
        rw [HSG.out] at htx
        have HTX := Lib.hid htx; have HBL := Lib.hid hbl
        clear htx hD hown hbl
        go_wp2_with fail
        refine HTX.out.mono ?_
        rintro e w2 ⟨rfl, hb2⟩
        go_wp2_with fail
        go_ret
        exact ⟨rfl, HBL.out.trans (hb2.mono HBL.out.size)⟩
      · have e0 : (z == 0) = false := by rw [beq_eq_false_iff_ne]; exact hz
        have e0' : (z != 0) = true := by rw [bne, e0]; rfl
        have hpos : 0 < N / 10 ^ i := by have := HZ.out; omega
        have hil : i < dl N := lt_dl_of (by
          rcases Nat.lt_or_ge N (10 ^ i) with h | h
          · rw [Nat.div_eq_of_lt h] at hpos; omega
          · exact h)
        have hdd : d10 N i = N / 10 ^ i % 10 := rfl
        have hnx : N / 10 ^ (i + 1) = N / 10 ^ i / 10 := by rw [Nat.pow_succ, Nat.div_div_eq_div_mul]
        have HDG := Lib.hid (digs_succ N i)
        obtain ⟨d, hd⟩ : ∃ d, d = d10 N i := ⟨_, rfl⟩
        rw [← hd] at hdd HDG
        obtain ⟨t, ht⟩ : ∃ t, t = z.tmod 10 := ⟨_, rfl⟩
        obtain ⟨y, hy⟩ : ∃ y, y = z.tdiv 10 := ⟨_, rfl⟩
        have hzq := HZ.out
        have ht2 : t = -(d : Int) := by
          rw [ht, hzq, Int.neg_tmod, Int.tmod_eq_emod_of_nonneg (by omega)]; omega
        have hy2 : y = -((N / 10 ^ (i + 1) : Nat) : Int) := by
          rw [hy, hzq, Int.neg_tdiv, Int.tdiv_eq_ediv_of_nonneg (by omega), hnx]; omega
        have hy3 : y ≤ 0 := by omega
        have hy4 : z < y := by rw [hy2, hzq, hnx]; omega
        have HY := Lib.hid hy2; have HIL := Lib.hid hil; have HOWN := Lib.hid hown; have HBL := Lib.hid hbl
        have e1 : z.tmod 10 = t := ht.symm
        have e2 : z.tdiv 10 = y := hy.symm
        have hd9 : d < 10 := by omega
        have hi2 : i < 20 := by omega
        clear hown hbl hdd hnx ht hy hzq hy2 hd hil hpos
        rcases Nat.eq_zero_or_pos d with d0 | d0
        · obtain rfl : t = 0 := by omega
          subst d0
          clear ht2
          go_wp2_with (at_builtin; refine wpList_append_own _ rfl _ _ 44 rfl w.heap.size 3 i0 (.int .i64 0) 1 8 Try.underlying44 hi0 hz0 hz1 hz2 rfl (by decide) _ _ _ rfl (HOWN.out.alloc _) ⟨wr.heap.size, 0, none⟩ 1 1 [.int .i64 0] rfl rfl (cell_one_new _ _ _) (by simp [Value.oneCell']) (by unfold maxLen; omega) (by omega) (by simp; omega) ?_; intro v1 w1 hown1 hgrow1 _; have hB1 := ((HBL.out.alloc hbs _).grown hgrow1 (by simp; omega) (own_base HOWN.out)); have hown2 : w1.ownsRow w.heap.size 3 1 v1 (i + 1) ((digs N (i + 1)).map iv) := (by rw [HDG.out, List.map_append]; exact hown1); have HOWN2 := Lib.hid hown2; have HB1 := Lib.hid hB1; clear hown1 hgrow1 hown2 hB1)
          go_roundw
          case rel => exact ⟨i + 1, y, rfl, HY.out, by omega, HIL.out, hy3, by omega, HOWN2.out, HB1.out⟩
          case measure => simp [intOf] <;> omega
        · have t0 : t < 0 := by omega
          have t1 : -t = (d : Int) := by omega
          have t2 : -9 ≤ t := by omega
          clear ht2
          go_wp2_with (at_builtin; refine wpList_append_own _ rfl _ _ 44 rfl w.heap.size 3 i0 (.int .i64 0) 1 8 Try.underlying44 hi0 hz0 hz1 hz2 rfl (by decide) _ _ _ rfl (HOWN.out.alloc _) ⟨wr.heap.size, 0, none⟩ 1 1 [.int .i64 (d : Int)] rfl rfl (cell_one_new _ _ _) (by simp [Value.oneCell']) (by unfold maxLen; omega) (by omega) (by simp; omega) ?_; intro v1 w1 hown1 hgrow1 _; have hB1 := ((HBL.out.alloc hbs _).grown hgrow1 (by simp; omega) (own_base HOWN.out)); have hown2 : w1.ownsRow w.heap.size 3 1 v1 (i + 1) ((digs N (i + 1)).map iv) := (by rw [HDG.out, List.map_append]; exact hown1); have HOWN2 := Lib.hid hown2; have HB1 := Lib.hid hB1; clear hown1 hgrow1 hown2 hB1)
          go_roundw
          case rel => exact ⟨i + 1, y, rfl, HY.out, by omega, HIL.out, hy3, by omega, HOWN2.out, HB1.out⟩
          case measure => simp [intOf] <;> omega
  · have hsg : sg false N = n := by rw [sg_false]; omega
    have hdn : decide (n < 0) = false := decide_eq_false hneg
    have HSG := Lib.hid hsg; have HNN := Lib.hid hN
    clear hsg hN
    go_enter Try.func14, Try.ntmps14
    go_wp2_with fail
    go_loopw [3, 4] (fun vv mm wr => ∃ (i : Nat) (q : Int), mm = .int .i64 q ∧ Hid (q = ((N / 10 ^ i : Nat) : Int)) ∧ i ≤ 20 ∧ Hid (i ≤ dl N) ∧ 0 ≤ q ∧ q ≤ 9223372036854775807 ∧ wr.ownsRow w.heap.size 3 1 vv i ((digs N i).map iv) ∧ Below w.heap.size w wr)
      (fun _ mm _ => (intOf mm).natAbs)
    case atStart => exact ⟨0, n, rfl, by show _ = _; have := HNN.out; simp; omega, by omega, Nat.zero_le _, by omega, h2, World.ownsRow_nil _ _ _ _, Below.refl _ _⟩
    case round =>
      obtain ⟨i, q, rfl, HQ, hi, HI, hq0, hq9, hown, hbl⟩ := hrel
      have hbs := hbl.size
      by_cases h0 : q = 0
      · subst h0
        have hlt : N < 10 ^ i := by
          have h3 := HQ.out
          rcases Nat.lt_or_ge N (10 ^ i) with h | h
          · exact h
          · have := Nat.div_le_div_right (c := 10 ^ i) h
            rw [Nat.div_self (pow10_pos i)] at this; omega
        have hil : i = dl N := by have := dl_le.2 hlt; have := HI.out; omega
        subst hil
        obtain ⟨A, c, rfl, hD⟩ := Dm.own hown
        have htx := reftext_any false A c N wr hD (by omega)
        unfold OutTx at htx
        rw [HSG.out] at htx
        have HTX := Lib.hid htx; have HBL := Lib.hid hbl
        clear htx hD hown hbl
        go_wp2_with fail
        refine HTX.out.mono ?_
        rintro e w2 ⟨rfl, hb2⟩
        go_wp2_with fail
        go_ret
        exact ⟨rfl, HBL.out.trans (hb2.mono HBL.out.size)⟩
      · have e0 : (q == 0) = false := by rw [beq_eq_false_iff_ne]; exact h0
        have e0' : (q != 0) = true := by rw [bne, e0]; rfl
        obtain ⟨u, hu⟩ : ∃ u, u = N / 10 ^ i := ⟨_, rfl⟩
        have hqu := HQ.out
        rw [← hu] at hqu
        have hil : i < dl N := lt_dl_of (by
          rcases Nat.lt_or_ge N (10 ^ i) with h | h
          · rw [Nat.div_eq_of_lt h] at hu; omega
          · exact h)
        have hdd : d10 N i = u % 10 := by unfold d10; rw [← hu]
        have hnx : ((N / 10 ^ (i + 1) : Nat) : Int) = q / 10 := by rw [Nat.pow_succ, ← Nat.div_div_eq_div_mul, ← hu]; omega
        have HDG := Lib.hid (digs_succ N i)
        obtain ⟨d, hd⟩ : ∃ d, d = d10 N i := ⟨_, rfl⟩
        rw [← hd] at hdd HDG
        obtain ⟨y, hy⟩ : ∃ y, y = q / 10 := ⟨_, rfl⟩
        rw [← hy] at hnx
        have hy3 : 0 ≤ y := by omega
        have hy4 : y < q := by omega
        have e1 : q % 10 = (d : Int) := by omega
        have e2 : q / 10 = y := hy.symm
        have d0 : ¬ (d : Int) < 0 := by omega
        have HY := Lib.hid hnx.symm; have HIL := Lib.hid hil; have HOWN := Lib.hid hown; have HBL := Lib.hid hbl
        have hi2 : i < 20 := by omega
        have hd9 : d < 10 := by omega
        clear hown hbl hdd hnx hy hd hil hu hqu h0
        go_wp2_with (at_builtin; refine wpList_append_own _ rfl _ _ 44 rfl w.heap.size 3 i0 (.int .i64 0) 1 8 Try.underlying44 hi0 hz0 hz1 hz2 rfl (by decide) _ _ _ rfl (HOWN.out.alloc _) ⟨wr.heap.size, 0, none⟩ 1 1 [.int .i64 (d : Int)] rfl rfl (cell_one_new _ _ _) (by simp [Value.oneCell']) (by unfold maxLen; omega) (by omega) (by simp; omega) ?_; intro v1 w1 hown1 hgrow1 _; have hB1 := ((HBL.out.alloc hbs _).grown hgrow1 (by simp; omega) (own_base HOWN.out)); have hown2 : w1.ownsRow w.heap.size 3 1 v1 (i + 1) ((digs N (i + 1)).map iv) := (by rw [HDG.out, List.map_append]; exact hown1); have HOWN2 := Lib.hid hown2; have HB1 := Lib.hid hB1; clear hown1 hgrow1 hown2 hB1)
        go_roundw
        case rel => exact ⟨i + 1, y, by rw [e2], HY.out, by omega, HIL.out, hy3, by omega, HOWN2.out, HB1.out⟩
        case measure => simp [intOf] <;> omega
end Go.Proofs.Ytgpppjfgdbloiaa
