/- The contracts of fromInt and FromInt. Condition: the argument is an int. -/
import Derived.Test.YtgpppjfgdbloiaaText
import Derived.RangeFuncBox
import Derived.Maps.AppendAt
namespace Go.Proofs.Ytgpppjfgdbloiaa
open Go.RowKit Go.Lib

theorem own_base {w : World} {base e size n : Nat} {v : Value} {xs : List Value} (h : w.ownsRow base e size v n xs) (k : Nat) (hk : v.ownBlock = some k) : base ≤ k := (h.lt k hk).1
/-- A slice that a call has appended to reads as the groups. -/
theorem Am.own {w : World} {B n V : Nat} {v : Value} (h : w.ownsRow B 3 1 v n ((grps V n).map iv)) : ∃ A c, v = .slice A n c ∧ Am w A n c V := by
  rcases h.2 with ⟨rfl, rfl⟩ | ⟨g, cap, cur, rfl, -, hg, hc, -, hs, ht⟩
  · exact ⟨none, 0, rfl, Am.zero⟩
  · refine ⟨_, cap, rfl, hc, fun _ => ⟨g, 0, rfl, (Array.getElem?_eq_some_iff.1 hg).1, fun i hi => ?_⟩⟩
    have h1 : cur[i]? = some (iv (dg4 V i : Nat)) := by
      have h2 : (cur.toList.take (n * 1))[i]? = some (iv (dg4 V i : Nat)) := by
        rw [ht, List.getElem?_map, List.getElem?_eq_getElem (by rw [grps_length]; exact hi), grps_at]; rfl
      rw [List.getElem?_take, if_pos (by omega), Array.getElem?_toList] at h2
      exact h2
    rw [Nat.zero_add]
    simp [World.cell?, hg, h1, iv]
theorem u64_neg {n : Int} (h1 : -9223372036854775808 ≤ n) (h2 : n < 0) : IntKind.u64.wrap (-IntKind.u64.wrap n) = (n.natAbs : Int) := by
  unfold IntKind.wrap
  simp [IntKind.bits, IntKind.signed]
  omega
theorem own_snoc {w : World} {base e : Nat} {v : Value} {N i : Nat} {d : Int} (hd : d = (dg4 N i : Nat)) (h : w.ownsRow base e 1 v (i + 1) ((grps N i).map iv ++ [.int .i64 d])) : w.ownsRow base e 1 v (i + 1) ((grps N (i + 1)).map iv) := by
  rw [grps_succ, List.map_append, ← hd]; exact h

set_option maxRecDepth 100000 in
set_option maxHeartbeats 1000000 in
theorem fint_any (n : Int) (w : World) (h1 : -9223372036854775808 ≤ n) (h2 : n ≤ 9223372036854775807) : Calls Try.prog 63 #[.int .i64 n] w (OutZ n w) := by
  obtain ⟨i0, hi, hz0, hz1, hz2⟩ := info_of info_i64
  obtain ⟨N, hN⟩ : ∃ N, N = n.natAbs := ⟨_, rfl⟩
  have hN9 : N ≤ 9223372036854775808 := by omega
  have hcase : (0 ≤ n ∧ n = (N : Int)) ∨ (n < 0 ∧ IntKind.u64.wrap (-IntKind.u64.wrap n) = (N : Int)) := by
    rcases Int.lt_or_le n 0 with h | h
    · exact .inr ⟨h, by rw [hN]; exact u64_neg h1 h⟩
    · exact .inl ⟨h, by omega⟩
  have hB0 : Blk (w.alloc (.cells #[.bool false, .slice none 0 0] 53)) w.heap.size 53 #[.bool false, .slice none 0 0] := Blk.new w _ _
  have hb0 : Below w.heap.size w (w.alloc (.cells #[.bool false, .slice none 0 0] 53)) := (Below.refl _ _).alloc (Nat.le_refl _) _
  have HB0 := Lib.hid hB0; have HBL0 := Lib.hid hb0
  have HNN := Lib.hid hN
  clear hB0 hb0 hN
  rcases hcase with ⟨hs, hn⟩ | ⟨hs, hn⟩
  · have HS := Lib.hid hs
    have hdec : decide (n < 0) = false := by rw [decide_eq_false_iff_not]; omega
    go_enter Try.func63, Try.ntmps63
    go_wp2_with fail
    have HNI := Lib.hid hn
    clear hn
    go_loopw [3, 4] (fun zz vv wr => ∃ (r i : Nat), zz = .int .u64 r ∧ Hid (r = N / 10000 ^ i) ∧ r ≤ 9223372036854775808 ∧ i ≤ 5 ∧ Hid (i = 0 ∨ 0 < N / 10000 ^ (i - 1)) ∧ Blk wr w.heap.size 53 #[.bool false, .slice none 0 0] ∧ wr.ownsRow (w.heap.size + 1) 3 1 vv i ((grps N i).map iv) ∧ Below w.heap.size w wr ∧ w.heap.size + 1 ≤ wr.heap.size)
      (fun zz _ _ => (intOf zz).toNat)
    case atStart => exact ⟨N, 0, (by first | rfl | rw [HNI.out]), (by show N = N / 10000 ^ 0; simp), hN9, by omega, .inl rfl, HB0.out, World.ownsRow_nil _ _ _ _, HBL0.out, by simp⟩
    case round =>
      obtain ⟨r, i, rfl, HR, hr, hi5, HP, hB, hown, hbl, hsz⟩ := hrel
      by_cases hr0 : 0 < r
      · have hi4 : i < 5 := by
          rcases Nat.lt_or_ge i 5 with h | h
          · exact h
          · obtain rfl : i = 5 := by omega
            have := HR.out
            have h5 : N / 10000 ^ 5 = 0 := Nat.div_eq_of_lt (by omega)
            omega
        obtain ⟨d, hd⟩ : ∃ d, d = dg4 N i := ⟨_, rfl⟩
        have hd9 : d < 10000 := by rw [hd]; exact dg4_lt _ _
        have e3 : (r : Int) % 10000 = (d : Int) := by
          have : r % 10000 = d := by rw [hd, HR.out]; rfl
          omega
        have HD := Lib.hid (show (d : Int) = (dg4 N i : Nat) from by rw [hd])
        have HR2 : Hid (r / 10000 = N / 10000 ^ (i + 1)) := by show _ = _; rw [HR.out, Nat.pow_succ, Nat.div_div_eq_div_mul]
        have HP2 : Hid (i + 1 = 0 ∨ 0 < N / 10000 ^ (i + 1 - 1)) := .inr (by rw [Nat.add_sub_cancel, ← HR.out]; exact hr0)
        have HB := Lib.hid hB; have HBL := Lib.hid hbl
        have HOWN := Lib.hid hown
        clear hd hB hbl HP HR hown
        go_wp2_with (at_builtin; refine wpList_append_own _ rfl _ _ 51 rfl (w.heap.size + 1) 3 i0 (.int .i64 0) 1 8 Try.underlying51 hi hz0 hz1 hz2 rfl (by decide) _ _ _ rfl (HOWN.out.alloc _) ⟨wr.heap.size, 0, none⟩ 1 1 [.int .i64 (d : Nat)] rfl rfl (cell_one_new _ _ _) (by simp [Value.oneCell']) (by unfold maxLen; omega) (by omega) (by simp; omega) ?_; intro v1 w1 hown1 hgrow1 _; have hB1 := ((HBL.out.alloc HBL.out.size _).grown hgrow1 (by simp; omega) (fun k hk => Nat.le_of_succ_le (own_base HOWN.out k hk))); have hBK := ((HB.out.alloc (.cells #[.int .i64 (d : Nat)] 3)).only hgrow1 (fun e => by have := own_base HOWN.out _ e.symm; omega)); have hsz1 : w.heap.size + 1 ≤ w1.heap.size := (by have := hgrow1.size; simp at this; omega); have hown2 := own_snoc HD.out hown1; have HOWN2 := Lib.hid hown2; have HBK := Lib.hid hBK; have HB1 := Lib.hid hB1; clear hown1 hgrow1 hown2 hBK hB1)
        go_roundw
        case rel => exact ⟨r / 10000, i + 1, by go_num, HR2, by omega, by omega, HP2, HBK.out, HOWN2.out, HB1.out, hsz1⟩
        case measure => simp [intOf]; omega
      · obtain rfl : r = 0 := by omega
        have hlt : N < 10000 ^ i := by
          have := HR.out
          rcases Nat.lt_or_ge N (10000 ^ i) with h | h
          · exact h
          · have := Nat.div_pos h (Nat.pow_pos (show 0 < 10000 by omega)); omega
        have hgl : glen N = i := glen_eq hlt (by
          rcases HP.out with h | h
          · exact .inl h
          · refine .inr ?_
            unfold dg4
            rw [Nat.mod_eq_of_lt]
            · omega
            · rcases i with _ | i
              · simp at hlt; subst hlt; simp
              · rw [Nat.add_sub_cancel, Nat.div_lt_iff_lt_mul (Nat.pow_pos (by omega)), Nat.mul_comm, ← Nat.pow_succ]; exact hlt)
        obtain ⟨A, c, rfl, hA⟩ := Am.own hown
        rw [← hgl] at hA
        have hsg := fun s => signed_any s A c N wr hA
        rw [hgl] at hsg hA
        have HSG := Lib.hid hsg; have HA := Lib.hid hA; have HB := Lib.hid hB; have HBL := Lib.hid hbl; have HGL := Lib.hid hgl
        have hs2 := HS.out
        clear hlt hgl hA hsg hB hbl HR HP hown
        go_wp2_with fail
        refine (HSG.out false).mono ?_
        rintro e w2 ⟨rfl, hb2⟩
        have kb := HB.out.below hb2 HB.out.lt
        have k0 := kb.cell (i := 0) rfl; have k1 := kb.cell (i := 1) rfl; have k2 := kb.frozen 0; have k3 := kb.frozen 1
        have HA4 := Lib.hid ((HA.out.below hb2).store (u := sb false N) (A' := A) (n' := i) (c' := c) kb)
        have hb9 := Lib.hid (((HBL.out.trans (hb2.mono HBL.out.size)).setCell (p := ⟨w.heap.size, 0, none⟩) (Nat.le_refl _) (.bool (sb false N))).setCell (p := ⟨w.heap.size, 1, none⟩) (Nat.le_refl _) (.slice A i c))
        obtain ⟨r0, r1⟩ := kb.two (u := .bool (sb false N)) (v := .slice A i c)
        clear kb hb2
        go_wp2_with fail
        have hsn : sg false N = n := by have h5 := HNN.out; have h6 := HS.out; unfold sg; simp; omega
        exact bodyPost_ret (v := .agg #[.bool (sb false N), .slice A i c]) (by simp [results, Try.results63, go_sem, r0, r1]) rfl ⟨sb false N, N, A, c, by rw [HGL.out], by rw [sg_sb]; exact hsn, sb_pos, by rw [HGL.out]; exact HA4.out, hb9.out⟩
  · have HS := Lib.hid hs
    have hdec : decide (n < 0) = true := by rw [decide_eq_true_eq]; exact hs
    go_enter Try.func63, Try.ntmps63
    go_wp2_with fail
    have HNI := Lib.hid hn
    clear hn
    go_loopw [3, 4] (fun zz vv wr => ∃ (r i : Nat), zz = .int .u64 r ∧ Hid (r = N / 10000 ^ i) ∧ r ≤ 9223372036854775808 ∧ i ≤ 5 ∧ Hid (i = 0 ∨ 0 < N / 10000 ^ (i - 1)) ∧ Blk wr w.heap.size 53 #[.bool false, .slice none 0 0] ∧ wr.ownsRow (w.heap.size + 1) 3 1 vv i ((grps N i).map iv) ∧ Below w.heap.size w wr ∧ w.heap.size + 1 ≤ wr.heap.size)
      (fun zz _ _ => (intOf zz).toNat)
    case atStart => exact ⟨N, 0, (by first | rfl | rw [HNI.out]), (by show N = N / 10000 ^ 0; simp), hN9, by omega, .inl rfl, HB0.out, World.ownsRow_nil _ _ _ _, HBL0.out, by simp⟩
    case round =>
      obtain ⟨r, i, rfl, HR, hr, hi5, HP, hB, hown, hbl, hsz⟩ := hrel
      by_cases hr0 : 0 < r
      · have hi4 : i < 5 := by
          rcases Nat.lt_or_ge i 5 with h | h
          · exact h
          · obtain rfl : i = 5 := by omega
            have := HR.out
            have h5 : N / 10000 ^ 5 = 0 := Nat.div_eq_of_lt (by omega)
            omega
        obtain ⟨d, hd⟩ : ∃ d, d = dg4 N i := ⟨_, rfl⟩
        have hd9 : d < 10000 := by rw [hd]; exact dg4_lt _ _
        have e3 : (r : Int) % 10000 = (d : Int) := by
          have : r % 10000 = d := by rw [hd, HR.out]; rfl
          omega
        have HD := Lib.hid (show (d : Int) = (dg4 N i : Nat) from by rw [hd])
        have HR2 : Hid (r / 10000 = N / 10000 ^ (i + 1)) := by show _ = _; rw [HR.out, Nat.pow_succ, Nat.div_div_eq_div_mul]
        have HP2 : Hid (i + 1 = 0 ∨ 0 < N / 10000 ^ (i + 1 - 1)) := .inr (by rw [Nat.add_sub_cancel, ← HR.out]; exact hr0)
        have HB := Lib.hid hB; have HBL := Lib.hid hbl
        have HOWN := Lib.hid hown
        clear hd hB hbl HP HR hown
        go_wp2_with (at_builtin; refine wpList_append_own _ rfl _ _ 51 rfl (w.heap.size + 1) 3 i0 (.int .i64 0) 1 8 Try.underlying51 hi hz0 hz1 hz2 rfl (by decide) _ _ _ rfl (HOWN.out.alloc _) ⟨wr.heap.size, 0, none⟩ 1 1 [.int .i64 (d : Nat)] rfl rfl (cell_one_new _ _ _) (by simp [Value.oneCell']) (by unfold maxLen; omega) (by omega) (by simp; omega) ?_; intro v1 w1 hown1 hgrow1 _; have hB1 := ((HBL.out.alloc HBL.out.size _).grown hgrow1 (by simp; omega) (fun k hk => Nat.le_of_succ_le (own_base HOWN.out k hk))); have hBK := ((HB.out.alloc (.cells #[.int .i64 (d : Nat)] 3)).only hgrow1 (fun e => by have := own_base HOWN.out _ e.symm; omega)); have hsz1 : w.heap.size + 1 ≤ w1.heap.size := (by have := hgrow1.size; simp at this; omega); have hown2 := own_snoc HD.out hown1; have HOWN2 := Lib.hid hown2; have HBK := Lib.hid hBK; have HB1 := Lib.hid hB1; clear hown1 hgrow1 hown2 hBK hB1)
        go_roundw
        case rel => exact ⟨r / 10000, i + 1, by go_num, HR2, by omega, by omega, HP2, HBK.out, HOWN2.out, HB1.out, hsz1⟩
        case measure => simp [intOf]; omega
      · obtain rfl : r = 0 := by omega
        have hlt : N < 10000 ^ i := by
          have := HR.out
          rcases Nat.lt_or_ge N (10000 ^ i) with h | h
          · exact h
          · have := Nat.div_pos h (Nat.pow_pos (show 0 < 10000 by omega)); omega
        have hgl : glen N = i := glen_eq hlt (by
          rcases HP.out with h | h
          · exact .inl h
          · refine .inr ?_
            unfold dg4
            rw [Nat.mod_eq_of_lt]
            · omega
            · rcases i with _ | i
              · simp at hlt; subst hlt; simp
              · rw [Nat.add_sub_cancel, Nat.div_lt_iff_lt_mul (Nat.pow_pos (by omega)), Nat.mul_comm, ← Nat.pow_succ]; exact hlt)
        obtain ⟨A, c, rfl, hA⟩ := Am.own hown
        rw [← hgl] at hA
        have hsg := fun s => signed_any s A c N wr hA
        rw [hgl] at hsg hA
        have HSG := Lib.hid hsg; have HA := Lib.hid hA; have HB := Lib.hid hB; have HBL := Lib.hid hbl; have HGL := Lib.hid hgl
        have hs2 := HS.out
        clear hlt hgl hA hsg hB hbl HR HP hown
        go_wp2_with fail
        refine (HSG.out true).mono ?_
        rintro e w2 ⟨rfl, hb2⟩
        have kb := HB.out.below hb2 HB.out.lt
        have k0 := kb.cell (i := 0) rfl; have k1 := kb.cell (i := 1) rfl; have k2 := kb.frozen 0; have k3 := kb.frozen 1
        have HA4 := Lib.hid ((HA.out.below hb2).store (u := sb true N) (A' := A) (n' := i) (c' := c) kb)
        have hb9 := Lib.hid (((HBL.out.trans (hb2.mono HBL.out.size)).setCell (p := ⟨w.heap.size, 0, none⟩) (Nat.le_refl _) (.bool (sb true N))).setCell (p := ⟨w.heap.size, 1, none⟩) (Nat.le_refl _) (.slice A i c))
        obtain ⟨r0, r1⟩ := kb.two (u := .bool (sb true N)) (v := .slice A i c)
        clear kb hb2
        go_wp2_with fail
        have hsn : sg true N = n := by have h5 := HNN.out; have h6 := HS.out; unfold sg; simp; omega
        exact bodyPost_ret (v := .agg #[.bool (sb true N), .slice A i c]) (by simp [results, Try.results63, go_sem, r0, r1]) rfl ⟨sb true N, N, A, c, by rw [HGL.out], by rw [sg_sb]; exact hsn, sb_pos, by rw [HGL.out]; exact HA4.out, hb9.out⟩
end Go.Proofs.Ytgpppjfgdbloiaa
