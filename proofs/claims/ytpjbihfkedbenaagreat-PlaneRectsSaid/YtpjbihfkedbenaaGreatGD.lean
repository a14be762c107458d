/- The contracts of fromInt and FromInt. Condition: the argument is an int. | The contracts of FromInt, printed, combined, Add, Sub, Mul and Gcd. Condition: the strings' lengths are ints. | The contracts of combined, Add, Sub, Mul and Gcd. Condition: the strings' lengths are ints. | The contracts of Compare, Div, Root and ToInt. Condition: the strings' lengths are ints. | The contracts of Div and ToInt. Condition: the strings' lengths are ints. -/
import Derived.RangeFuncBox
import Derived.Maps.AppendAt
import Derived.Test.YtpjbihfkedbenaaGreatGC
namespace Go.Proofs.YtpjbihfkedbenaaGreat
open Go.RowKit Go.Lib
theorem own_base {w : World} {base e size n : Nat} {v : Value} {xs : List Value} (h : w.ownsRow base e size v n xs) (k : Nat) (hk : v.ownBlock = some k) : base <= k := (h.lt k hk).1
theorem Am.own {w : World} {B n V : Nat} {v : Value} (h : w.ownsRow B 3 1 v n ((grps V n).map iv)) : ∃ A c, v = .slice A n c /\ Am w A n c V := by
 rcases h.2 with ⟨rfl, rfl⟩ | ⟨g, cap, cur, rfl, -, hg, hc, -, hs, ht⟩
 · exact ⟨none, 0, rfl, Am.zero⟩
 · refine ⟨_, cap, rfl, hc, fun _ => ⟨g, 0, rfl, (Array.getElem?_eq_some_iff.1 hg).1, fun i hi => ?_⟩⟩
   have h1 : cur[i]? = some (iv (dg4 V i : Nat)) := by
     have h2 : (cur.toList.take (n * 1))[i]? = some (iv (dg4 V i : Nat)) := by
       rw [ht, List.getElem?_map, List.getElem?_eq_getElem (by rw [grps_length]; exact hi), grps_at]; rfl
     rw [List.getElem?_take, if_pos (by omega), Array.getElem?_toList] at h2
     exact h2
   rw [Nat.zero_add]
   simp [World.cell?, hg, h1, iv]
theorem u64_neg {n : Int} (h1 : -9223372036854775808 <= n) (h2 : n < 0) : IntKind.u64.wrap (-IntKind.u64.wrap n) = (n.natAbs : Int) := by
 unfold IntKind.wrap
 simp [IntKind.bits, IntKind.signed]
 omega
theorem own_snoc {w : World} {base e : Nat} {v : Value} {N i : Nat} {d : Int} (hd : d = (dg4 N i : Nat)) (h : w.ownsRow base e 1 v (i + 1) ((grps N i).map iv ++ [.int .i64 d])) : w.ownsRow base e 1 v (i + 1) ((grps N (i + 1)).map iv) := by
 rw [grps_succ, List.map_append, <- hd]; exact h
set_option maxRecDepth 100000 in
set_option maxHeartbeats 1000000 in
theorem fint_any (n : Int) (w : World) (h1 : -9223372036854775808 <= n) (h2 : n <= 9223372036854775807) : Calls Tryz.prog 61 #[.int .i64 n] w (OutZ n w) := by
 obtain ⟨i0, hi, hz0, hz1, hz2⟩ := info_of info_i64
 obtain ⟨N, hN⟩ : ∃ N, N = n.natAbs := ⟨_, rfl⟩
 have hN9 : N <= 9223372036854775808 := by omega
 have hcase : (0 <= n /\ n = (N : Int)) ∨ (n < 0 /\ IntKind.u64.wrap (-IntKind.u64.wrap n) = (N : Int)) := by
   rcases Int.lt_or_le n 0 with h | h
   · exact .inr ⟨h, by rw [hN]; exact u64_neg h1 h⟩
   · exact .inl ⟨h, by omega⟩
 have hB0 : Blk (w.alloc (.cells #[.bool false, .slice none 0 0] 89)) w.heap.size 89 #[.bool false, .slice none 0 0] := Blk.new w _ _
 have hb0 : Below w.heap.size w (w.alloc (.cells #[.bool false, .slice none 0 0] 89)) := (Below.refl _ _).alloc (Nat.le_refl _) _
 have HB0 := Lib.hid hB0; have HBL0 := Lib.hid hb0
 have HNN := Lib.hid hN
 clear hB0 hb0 hN
 rcases hcase with ⟨hs, hn⟩ | ⟨hs, hn⟩
 · have HS := Lib.hid hs
   have hdec : decide (n < 0) = false := by rw [decide_eq_false_iff_not]; omega
   go_enter Tryz.func61, Tryz.ntmps61
   go_wp2_with fail
   have HNI := Lib.hid hn
   clear hn
   go_loopw [3, 4] (fun zz vv wr => ∃ (r i : Nat), zz = .int .u64 r /\ Hid (r = N / 10000 ^ i) /\ r <= 9223372036854775808 /\ i <= 5 /\ Hid (i = 0 ∨ 0 < N / 10000 ^ (i - 1)) /\ Blk wr w.heap.size 89 #[.bool false, .slice none 0 0] /\ wr.ownsRow (w.heap.size + 1) 3 1 vv i ((grps N i).map iv) /\ Below w.heap.size w wr /\ w.heap.size + 1 <= wr.heap.size)
     (fun zz _ _ => (intOf zz).toNat)
   case atStart => exact ⟨N, 0, (by first | rfl | rw [HNI.out]), (by show N = N / 10000 ^ 0; simp), hN9, by omega, .inl rfl, HB0.out, World.ownsRow_nil _ _ _ _, HBL0.out, by simp⟩
   case round =>
     obtain ⟨r, i, rfl, HR, hr, hi5, HP, hB, hown, hbl, hsz⟩ := hrel
     by_cases hr0 : 0 < r
     · have hi4 : i < 5 := by
         rcases Nat.lt_or_ge i 5 with h | h
         · exact h
         · obtain rfl : i = 5 := by omega
           have := HR.out
           have h5 : N / 10000 ^ 5 = 0 := Nat.div_eq_of_lt (by omega)
           omega
       obtain ⟨d, hd⟩ : ∃ d, d = dg4 N i := ⟨_, rfl⟩
       have hd9 : d < 10000 := by rw [hd]; exact dg4_lt _ _
       have e3 : (r : Int) % 10000 = (d : Int) := by
         have : r % 10000 = d := by rw [hd, HR.out]; rfl
         omega
       have HD := Lib.hid (show (d : Int) = (dg4 N i : Nat) from by rw [hd])
       have HR2 : Hid (r / 10000 = N / 10000 ^ (i + 1)) := by show _ = _; rw [HR.out, Nat.pow_succ, Nat.div_div_eq_div_mul]
       have HP2 : Hid (i + 1 = 0 ∨ 0 < N / 10000 ^ (i + 1 - 1)) := .inr (by rw [Nat.add_sub_cancel, <- HR.out]; exact hr0)
       have HB := Lib.hid hB; have HBL := Lib.hid hbl
       have HOWN := Lib.hid hown
       clear hd hB hbl HP HR hown
       go_wp2_with (at_builtin; refine wpList_append_own _ rfl _ _ 87 rfl (w.heap.size + 1) 3 i0 (.int .i64 0) 1 8 Tryz.underlying87 hi hz0 hz1 hz2 rfl (by decide) _ _ _ rfl (HOWN.out.alloc _) ⟨wr.heap.size, 0, none⟩ 1 1 [.int .i64 (d : Nat)] rfl rfl (cell_one_new _ _ _) (by simp [Value.oneCell']) (by unfold maxLen; omega) (by omega) (by simp; omega) ?_; intro v1 w1 hown1 hgrow1 _; have hB1 := ((HBL.out.alloc HBL.out.size _).grown hgrow1 (by simp; omega) (fun k hk => Nat.le_of_succ_le (own_base HOWN.out k hk))); have hBK := ((HB.out.alloc (.cells #[.int .i64 (d : Nat)] 3)).only hgrow1 (fun e => by have := own_base HOWN.out _ e.symm; omega)); have hsz1 : w.heap.size + 1 <= w1.heap.size := (by have := hgrow1.size; simp at this; omega); have hown2 := own_snoc HD.out hown1; have HOWN2 := Lib.hid hown2; have HBK := Lib.hid hBK; have HB1 := Lib.hid hB1; clear hown1 hgrow1 hown2 hBK hB1)
       go_roundw
       case rel => exact ⟨r / 10000, i + 1, by go_num, HR2, by omega, by omega, HP2, HBK.out, HOWN2.out, HB1.out, hsz1⟩
       case measure => simp [intOf]; omega
     · obtain rfl : r = 0 := by omega
       have hlt : N < 10000 ^ i := by
         have := HR.out
         rcases Nat.lt_or_ge N (10000 ^ i) with h | h
         · exact h
         · have := Nat.div_pos h (Nat.pow_pos (show 0 < 10000 by omega)); omega
       have hgl : glen N = i := glen_eq hlt (by
         rcases HP.out with h | h
         · exact .inl h
         · refine .inr ?_
           unfold dg4
           rw [Nat.mod_eq_of_lt]
           · omega
           · rcases i with _ | i
             · simp at hlt; subst hlt; simp
             · rw [Nat.add_sub_cancel, Nat.div_lt_iff_lt_mul (Nat.pow_pos (by omega)), Nat.mul_comm, <- Nat.pow_succ]; exact hlt)
       obtain ⟨A, c, rfl, hA⟩ := Am.own hown
       rw [<- hgl] at hA
       have hsg := fun s => signed_any s A c N wr hA
       rw [hgl] at hsg hA
       have HSG := Lib.hid hsg; have HA := Lib.hid hA; have HB := Lib.hid hB; have HBL := Lib.hid hbl; have HGL := Lib.hid hgl
       have hs2 := HS.out
       clear hlt hgl hA hsg hB hbl HR HP hown
       go_wp2_with fail
       refine (HSG.out false).mono ?_
       rintro e w2 ⟨rfl, hb2⟩
       have kb := HB.out.below hb2 HB.out.lt
       have k0 := kb.cell (i := 0) rfl; have k1 := kb.cell (i := 1) rfl; have k2 := kb.frozen 0; have k3 := kb.frozen 1
       have HA4 := Lib.hid ((HA.out.below hb2).store (u := sb false N) (A' := A) (n' := i) (c' := c) kb)
       have hb9 := Lib.hid (((HBL.out.trans (hb2.mono HBL.out.size)).setCell (p := ⟨w.heap.size, 0, none⟩) (Nat.le_refl _) (.bool (sb false N))).setCell (p := ⟨w.heap.size, 1, none⟩) (Nat.le_refl _) (.slice A i c))
       obtain ⟨r0, r1⟩ := kb.two (u := .bool (sb false N)) (v := .slice A i c)
       clear kb hb2
       go_wp2_with fail
       have hsn : sg false N = n := by have h5 := HNN.out; have h6 := HS.out; unfold sg; simp; omega
       exact bodyPost_ret (v := .agg #[.bool (sb false N), .slice A i c]) (by simp [results, Tryz.results61, go_sem, r0, r1]) rfl ⟨sb false N, N, A, c, by rw [HGL.out], by rw [sg_sb]; exact hsn, sb_pos, by rw [HGL.out]; exact HA4.out, hb9.out⟩
 · have HS := Lib.hid hs
   have hdec : decide (n < 0) = true := by rw [decide_eq_true_eq]; exact hs
   go_enter Tryz.func61, Tryz.ntmps61
   go_wp2_with fail
   have HNI := Lib.hid hn
   clear hn
   go_loopw [3, 4] (fun zz vv wr => ∃ (r i : Nat), zz = .int .u64 r /\ Hid (r = N / 10000 ^ i) /\ r <= 9223372036854775808 /\ i <= 5 /\ Hid (i = 0 ∨ 0 < N / 10000 ^ (i - 1)) /\ Blk wr w.heap.size 89 #[.bool false, .slice none 0 0] /\ wr.ownsRow (w.heap.size + 1) 3 1 vv i ((grps N i).map iv) /\ Below w.heap.size w wr /\ w.heap.size + 1 <= wr.heap.size)
     (fun zz _ _ => (intOf zz).toNat)
   case atStart => exact ⟨N, 0, (by first | rfl | rw [HNI.out]), (by show N = N / 10000 ^ 0; simp), hN9, by omega, .inl rfl, HB0.out, World.ownsRow_nil _ _ _ _, HBL0.out, by simp⟩
   case round =>
     obtain ⟨r, i, rfl, HR, hr, hi5, HP, hB, hown, hbl, hsz⟩ := hrel
     by_cases hr0 : 0 < r
     · have hi4 : i < 5 := by
         rcases Nat.lt_or_ge i 5 with h | h
         · exact h
         · obtain rfl : i = 5 := by omega
           have := HR.out
           have h5 : N / 10000 ^ 5 = 0 := Nat.div_eq_of_lt (by omega)
           omega
       obtain ⟨d, hd⟩ : ∃ d, d = dg4 N i := ⟨_, rfl⟩
       have hd9 : d < 10000 := by rw [hd]; exact dg4_lt _ _
       have e3 : (r : Int) % 10000 = (d : Int) := by
         have : r % 10000 = d := by rw [hd, HR.out]; rfl
         omega
       have HD := Lib.hid (show (d : Int) = (dg4 N i : Nat) from by rw [hd])
       have HR2 : Hid (r / 10000 = N / 10000 ^ (i + 1)) := by show _ = _; rw [HR.out, Nat.pow_succ, Nat.div_div_eq_div_mul]
       have HP2 : Hid (i + 1 = 0 ∨ 0 < N / 10000 ^ (i + 1 - 1)) := .inr (by rw [Nat.add_sub_cancel, <- HR.out]; exact hr0)
       have HB := Lib.hid hB; have HBL := Lib.hid hbl
       have HOWN := Lib.hid hown
       clear hd hB hbl HP HR hown
       go_wp2_with (at_builtin; refine wpList_append_own _ rfl _ _ 87 rfl (w.heap.size + 1) 3 i0 (.int .i64 0) 1 8 Tryz.underlying87 hi hz0 hz1 hz2 rfl (by decide) _ _ _ rfl (HOWN.out.alloc _) ⟨wr.heap.size, 0, none⟩ 1 1 [.int .i64 (d : Nat)] rfl rfl (cell_one_new _ _ _) (by simp [Value.oneCell']) (by unfold maxLen; omega) (by omega) (by simp; omega) ?_; intro v1 w1 hown1 hgrow1 _; have hB1 := ((HBL.out.alloc HBL.out.size _).grown hgrow1 (by simp; omega) (fun k hk => Nat.le_of_succ_le (own_base HOWN.out k hk))); have hBK := ((HB.out.alloc (.cells #[.int .i64 (d : Nat)] 3)).only hgrow1 (fun e => by have := own_base HOWN.out _ e.symm; omega)); have hsz1 : w.heap.size + 1 <= w1.heap.size := (by have := hgrow1.size; simp at this; omega); have hown2 := own_snoc HD.out hown1; have HOWN2 := Lib.hid hown2; have HBK := Lib.hid hBK; have HB1 := Lib.hid hB1; clear hown1 hgrow1 hown2 hBK hB1)
       go_roundw
       case rel => exact ⟨r / 10000, i + 1, by go_num, HR2, by omega, by omega, HP2, HBK.out, HOWN2.out, HB1.out, hsz1⟩
       case measure => simp [intOf]; omega
     · obtain rfl : r = 0 := by omega
       have hlt : N < 10000 ^ i := by
         have := HR.out
         rcases Nat.lt_or_ge N (10000 ^ i) with h | h
         · exact h
         · have := Nat.div_pos h (Nat.pow_pos (show 0 < 10000 by omega)); omega
       have hgl : glen N = i := glen_eq hlt (by
         rcases HP.out with h | h
         · exact .inl h
         · refine .inr ?_
           unfold dg4
           rw [Nat.mod_eq_of_lt]
           · omega
           · rcases i with _ | i
             · simp at hlt; subst hlt; simp
             · rw [Nat.add_sub_cancel, Nat.div_lt_iff_lt_mul (Nat.pow_pos (by omega)), Nat.mul_comm, <- Nat.pow_succ]; exact hlt)
       obtain ⟨A, c, rfl, hA⟩ := Am.own hown
       rw [<- hgl] at hA
       have hsg := fun s => signed_any s A c N wr hA
       rw [hgl] at hsg hA
       have HSG := Lib.hid hsg; have HA := Lib.hid hA; have HB := Lib.hid hB; have HBL := Lib.hid hbl; have HGL := Lib.hid hgl
       have hs2 := HS.out
       clear hlt hgl hA hsg hB hbl HR HP hown
       go_wp2_with fail
       refine (HSG.out true).mono ?_
       rintro e w2 ⟨rfl, hb2⟩
       have kb := HB.out.below hb2 HB.out.lt
       have k0 := kb.cell (i := 0) rfl; have k1 := kb.cell (i := 1) rfl; have k2 := kb.frozen 0; have k3 := kb.frozen 1
       have HA4 := Lib.hid ((HA.out.below hb2).store (u := sb true N) (A' := A) (n' := i) (c' := c) kb)
       have hb9 := Lib.hid (((HBL.out.trans (hb2.mono HBL.out.size)).setCell (p := ⟨w.heap.size, 0, none⟩) (Nat.le_refl _) (.bool (sb true N))).setCell (p := ⟨w.heap.size, 1, none⟩) (Nat.le_refl _) (.slice A i c))
       obtain ⟨r0, r1⟩ := kb.two (u := .bool (sb true N)) (v := .slice A i c)
       clear kb hb2
       go_wp2_with fail
       have hsn : sg true N = n := by have h5 := HNN.out; have h6 := HS.out; unfold sg; simp; omega
       exact bodyPost_ret (v := .agg #[.bool (sb true N), .slice A i c]) (by simp [results, Tryz.results61, go_sem, r0, r1]) rfl ⟨sb true N, N, A, c, by rw [HGL.out], by rw [sg_sb]; exact hsn, sb_pos, by rw [HGL.out]; exact HA4.out, hb9.out⟩
def lim (z : Int) : Option Int := if z.natAbs < 10 ^ 200 then some z else none
def okS : Option Int -> ByteArray
 | some z => zS z
 | none => ⟨#[]⟩
def okE : Option Int -> Int
 | some _ => 0
 | none => 30
def opR (f : Int -> Int -> Int) (a b : List UInt8) : Option Int := (rd a).bind fun x => (rd b).bind fun y => lim (f x y)
theorem validB_zL (z : Int) : validB (zL z) = decide (z.natAbs < 10 ^ 200) := by
 by_cases h : z.natAbs < 10 ^ 200
 · have h1 := rd_zL h
   rw [(rd_some h1).2.2.2.2.2.2.2]; simp [h]
 · have h1 : validB (zL z) ≠ true := fun h2 => by
     have h3 : ∃ y, rd (zL z) = some y := by unfold rd; rw [if_pos h2]; exact ⟨_, rfl⟩
     obtain ⟨y, hy⟩ := h3
     obtain ⟨h4, h5, -⟩ := rd_some hy
     rw [zL_inj h4] at h
     exact h h5
   have h2 : validB (zL z) = false := by simpa using h1
   rw [h2]; simp [h]
theorem zS_size (z : Int) : (zS z).size <= 4 * glen z.natAbs + 2 := by
 rw [size_eq, zS_list]
 have h := dl_le.2 (glen_dl z.natAbs)
 unfold zL
 split
 · simp
 · rw [List.length_append, dec10_length]
   split <;> simp <;> omega
theorem sg_abs (s : Bool) (X : Nat) : (sg s X).natAbs = X := by cases s <;> simp [sg]
def OutO (r : Option Int) (w : World) (e : Ending) (w' : World) : Prop := e = .returned (.tuple #[.string (okS r), .int .i64 (okE r)]) /\ Below w.heap.size w w'
theorem fromInt_any (n : Int) (w : World) (h1 : -9223372036854775808 <= n) (h2 : n <= 9223372036854775807) : Calls Tryz.prog 52 #[.int .i64 n] w fun e w' => e = .returned (.string (zS n)) /\ Below w.heap.size w w' := by
 have hf := fint_any n w h1 h2
 have HF := Lib.hid hf
 clear hf
 go_enter Tryz.func52, Tryz.ntmps52
 go_wp2_with fail
 refine HF.out.mono ?_
 rintro e w1 ⟨s, X, A, c, rfl, hs, -, hA, hb⟩
 have hX : glen X <= 1000 := by
   have h3 : X <= 9223372036854775808 := by have := sg_abs s X; rw [hs] at this; omega
   exact Nat.le_trans (glen_mono h3) (Nat.le_trans (glen_le.2 (show (9223372036854775808 : Nat) < 10000 ^ 5 by omega)) (by omega))
 have ht := text_any s A c X w1 hA hX
 rw [hs] at ht
 have HT := Lib.hid ht; have HB := Lib.hid hb
 clear ht hb hA hs
 go_wp2_with fail
 refine HT.out.mono ?_
 rintro e w2 ⟨rfl, hb2⟩
 go_wp2_with fail
 go_ret
 exact ⟨rfl, HB.out.trans (hb2.mono HB.out.size)⟩
set_option maxRecDepth 100000 in
theorem printed_any (s : Bool) (A : Option Addr) (c X : Nat) (w : World) (hA : Am w A (glen X) c X) (hX : glen X <= 1000) :
   Calls Tryz.prog 96 #[.agg #[.bool s, .slice A (glen X) c]] w (OutO (lim (sg s X)) w) := by
 have hb0 : Below w.heap.size w (w.alloc (.cells #[.bool s, .slice A (glen X) c] 89)) := (Below.refl _ _).alloc (Nat.le_refl _) _
 have ht := text_any s A c X _ (hA.below hb0) hX
 have hz := zS_size (sg s X)
 rw [sg_abs] at hz
 have hv := fun w => valid_any (zS (sg s X)) w (by omega)
 rw [zS_list, validB_zL] at hv
 have HT := Lib.hid ht; have HB := Lib.hid hb0; have HV := Lib.hid hv
 obtain ⟨z, hzz⟩ : ∃ z, z = sg s X := ⟨_, rfl⟩
 rw [<- hzz] at HT HV ⊢
 clear hb0 ht hz hv hA hzz
 by_cases h : z.natAbs < 10 ^ 200
 · have hl : lim z = some z := by unfold lim; rw [if_pos h]
   have hd : decide (z.natAbs < 10 ^ 200) = true := by simp [h]
   rw [hl]
   rw [hd] at HV
   clear h hl hd
   go_enter Tryz.func96, Tryz.ntmps96
   go_wp2_with fail
   refine HT.out.mono ?_
   rintro e w1 ⟨rfl, hb⟩
   go_wp2_with fail
   refine (HV.out _).mono ?_
   rintro e w1 ⟨rfl, k, rfl⟩
   go_wp2_with fail
   go_ret2
   exact ⟨rfl, below_drewN (HB.out.trans (hb.mono HB.out.size)) k⟩
 · have hl : lim z = none := by unfold lim; rw [if_neg h]
   have hd : decide (z.natAbs < 10 ^ 200) = false := by simp [h]
   rw [hl]
   rw [hd] at HV
   clear h hl hd
   go_enter Tryz.func96, Tryz.ntmps96
   go_wp2_with fail
   refine HT.out.mono ?_
   rintro e w1 ⟨rfl, hb⟩
   go_wp2_with fail
   refine (HV.out _).mono ?_
   rintro e w1 ⟨rfl, k, rfl⟩
   go_wp2_with fail
   go_ret2
   exact ⟨rfl, below_drewN (HB.out.trans (hb.mono HB.out.size)) k⟩
def DoesOp (F : FuncId) (f : Int -> Int -> Int) : Prop :=
 ∀ (s t : Bool) (A A' : Option Addr) (c c' X Y : Nat) (w : World), Am w A (glen X) c X -> Am w A' (glen Y) c' Y -> X < 10 ^ 200 -> Y < 10 ^ 200 -> Calls Tryz.prog F #[.agg #[.bool s, .slice A (glen X) c], .agg #[.bool t, .slice A' (glen Y) c']] w (OutZ (f (sg s X) (sg t Y)) w)
theorem glen_lim {X : Nat} (h : X < 10 ^ 200) : glen X <= 50 := glen_le.2 (by rw [show (10000 : Nat) = 10 ^ 4 from rfl, <- Nat.pow_mul]; exact h)
theorem glen_big {X : Nat} (h : X < 10 ^ 200 * 10 ^ 200) : glen X <= 100 := glen_le.2 (by
 rw [show (100 : Nat) = 50 + 50 from rfl, Nat.pow_add, show (10000 : Nat) = 10 ^ 4 from rfl, <- Nat.pow_mul]; exact h)
theorem opR_no1 {f : Int -> Int -> Int} {a b : List UInt8} (h : rd a = none) : opR f a b = none := by unfold opR; rw [h]; rfl
theorem opR_no2 {f : Int -> Int -> Int} {a b : List UInt8} {x : Int} (h : rd a = some x) (h2 : rd b = none) : opR f a b = none := by unfold opR; rw [h, h2]; rfl
theorem opR_yes {f : Int -> Int -> Int} {a b : List UInt8} {x y : Int} (h : rd a = some x) (h2 : rd b = some y) : opR f a b = lim (f x y) := by unfold opR; rw [h, h2]; rfl
theorem does_add : DoesOp 79 (· + ·) := fun s t A A' c c' X Y w hA hB hX hY => nplus_any s t A A' c c' X Y w hA hB (Nat.le_trans (glen_lim hX) (by omega)) (Nat.le_trans (glen_lim hY) (by omega))
theorem big_add (x y : Int) (hx : x.natAbs < 10 ^ 200) (hy : y.natAbs < 10 ^ 200) : ((· + ·) x y : Int).natAbs < 10 ^ 200 * 10 ^ 200 := by
 show (x + y).natAbs < _
 have h1 : (x + y).natAbs <= x.natAbs + y.natAbs := Int.natAbs_add_le x y
 have h2 : (2 : Nat) <= 10 ^ 200 := by omega
 have h3 := Nat.mul_le_mul_right (10 ^ 200) h2
 omega
set_option maxRecDepth 100000 in
set_option maxHeartbeats 1000000 in
theorem combined_add
   (a b : ByteArray) (w : World) (ha : a.size <= 9000000000000000000) (hb : b.size <= 9000000000000000000) :
   Calls Tryz.prog 78 #[.string a, .string b, .func (.func 79) #[] #[]] w (OutO (opR (· + ·) a.data.toList b.data.toList) w) := by
 cases hx : rd a.data.toList with
 | none =>
   rw [opR_no1 hx]
   have HC := Lib.hid (pboth_no1 a b w ha hx)
   clear hx
   go_enter Tryz.func78, Tryz.ntmps78
   go_wp2_with fail
   refine HC.out.mono ?_
   rintro e w1 ⟨rfl, hb1⟩
   go_wp2_with fail
   go_ret2
   exact ⟨rfl, (hb1.alloc hb1.size _).alloc (by have := hb1.size; simp; omega) _⟩
 | some x =>
   cases hy : rd b.data.toList with
   | none =>
     rw [opR_no2 hx hy]
     have HC := Lib.hid (pboth_no2 a b w x ha hb hx hy)
     clear hx hy
     go_enter Tryz.func78, Tryz.ntmps78
     go_wp2_with fail
     refine HC.out.mono ?_
     rintro e w1 ⟨rfl, hb1⟩
     go_wp2_with fail
     go_ret2
     exact ⟨rfl, (hb1.alloc hb1.size _).alloc (by have := hb1.size; simp; omega) _⟩
   | some y =>
     rw [opR_yes hx hy]
     have HC := Lib.hid (pboth_yes a b w x y ha hb hx hy)
     have hx9 := (rd_some hx).2.1
     have hy9 := (rd_some hy).2.1
     have HF := Lib.hid does_add
     have HFF := Lib.hid (big_add x y hx9 hy9)
     clear hx hy hx9 hy9
     go_enter Tryz.func78, Tryz.ntmps78
     go_wp2_with fail
     refine HC.out.mono ?_
     rintro e w1 ⟨s, X, A, c, t, Y, A', c', rfl, hs, ht, -, -, hX, hY, hA, hB, hb1⟩
     have hn1 := (Blk.new w1 89 #[.bool s, .slice A (glen X) c]).alloc (.cells #[.bool t, .slice A' (glen Y) c'] 89)
     have hn2 := Blk.new (w1.alloc (.cells #[.bool s, .slice A (glen X) c] 89)) 89 #[.bool t, .slice A' (glen Y) c']
     rw [show (w1.alloc (.cells #[.bool s, .slice A (glen X) c] 89)).heap.size = w1.heap.size + 1 from by simp] at hn2
     have x0 := hn1.cell (i := 0) rfl; have x1 := hn1.cell (i := 1) rfl
     have y0 := hn2.cell (i := 0) rfl; have y1 := hn2.cell (i := 1) rfl
     have hb2 : Below w1.heap.size w1 ((w1.alloc (.cells #[.bool s, .slice A (glen X) c] 89)).alloc (.cells #[.bool t, .slice A' (glen Y) c'] 89)) := ((Below.refl _ _).alloc (Nat.le_refl _) _).alloc (by simp) _
     have hop := HF.out s t A A' c c' X Y _ (hA.below hb2) (hB.below hb2) hX hY
     rw [hs, ht] at hop
     have HOP := Lib.hid hop
     have HB2 := Lib.hid (hb1.trans (hb2.mono hb1.size))
     clear hn1 hn2 hb2 hop hb1 hA hB hX hY hs ht
     go_wp2_with fail
     refine HOP.out.mono ?_
     rintro e w3 ⟨s3, V, A3, c3, rfl, hz3, -, hA3, hb3⟩
     have hV : glen V <= 1000 := by
       have h1 := HFF.out
       rw [<- hz3, sg_abs] at h1
       exact Nat.le_trans (glen_big h1) (by omega)
     have hpr := printed_any s3 A3 c3 V w3 hA3 hV
     rw [hz3] at hpr
     have HPR := Lib.hid hpr
     have HB3 := Lib.hid (HB2.out.trans (hb3.mono HB2.out.size))
     clear hpr hz3 hA3 hb3
     go_wp2_with fail
     refine HPR.out.mono ?_
     rintro e w4 ⟨rfl, hb4⟩
     go_wp2_with fail
     go_ret2
     exact ⟨rfl, HB3.out.trans (hb4.mono HB3.out.size)⟩
set_option maxRecDepth 100000 in
theorem add_any (a b : ByteArray) (w : World) (ha : a.size <= 9000000000000000000) (hb : b.size <= 9000000000000000000) :
   Calls Tryz.prog 64 #[.string a, .string b] w (OutO (opR (· + ·) a.data.toList b.data.toList) w) := by
 have HC := Lib.hid (combined_add a b w ha hb)
 obtain ⟨r, hr⟩ : ∃ r, r = opR (· + ·) a.data.toList b.data.toList := ⟨_, rfl⟩
 rw [<- hr] at HC ⊢
 have hmf : ∀ (fn : Fn) (first cap : Array Value) (w : World), (Instr.makeFunc fn first cap).run Tryz.prog w = .ok (.func fn first cap) w := fun _ _ _ _ => rfl
 clear hr
 go_enter Tryz.func64, Tryz.ntmps64
 go_wp2_with fail
 refine HC.out.mono ?_
 rintro e w1 ⟨rfl, hb1⟩
 go_wp2_with fail
 go_ret2
 exact ⟨rfl, hb1⟩
theorem does_sub : DoesOp 112 (· - ·) := fun s t A A' c c' X Y w hA hB hX hY => nminus_any s t A A' c c' X Y w hA hB (Nat.le_trans (glen_lim hX) (by omega)) (Nat.le_trans (glen_lim hY) (by omega))
theorem big_sub (x y : Int) (hx : x.natAbs < 10 ^ 200) (hy : y.natAbs < 10 ^ 200) : ((· - ·) x y : Int).natAbs < 10 ^ 200 * 10 ^ 200 := by
 show (x - y).natAbs < _
 have h1 : (x - y).natAbs <= x.natAbs + y.natAbs := by omega
 have h2 : (2 : Nat) <= 10 ^ 200 := by omega
 have h3 := Nat.mul_le_mul_right (10 ^ 200) h2
 omega
set_option maxRecDepth 100000 in
set_option maxHeartbeats 1000000 in
theorem combined_sub
   (a b : ByteArray) (w : World) (ha : a.size <= 9000000000000000000) (hb : b.size <= 9000000000000000000) :
   Calls Tryz.prog 78 #[.string a, .string b, .func (.func 112) #[] #[]] w (OutO (opR (· - ·) a.data.toList b.data.toList) w) := by
 cases hx : rd a.data.toList with
 | none =>
   rw [opR_no1 hx]
   have HC := Lib.hid (pboth_no1 a b w ha hx)
   clear hx
   go_enter Tryz.func78, Tryz.ntmps78
   go_wp2_with fail
   refine HC.out.mono ?_
   rintro e w1 ⟨rfl, hb1⟩
   go_wp2_with fail
   go_ret2
   exact ⟨rfl, (hb1.alloc hb1.size _).alloc (by have := hb1.size; simp; omega) _⟩
 | some x =>
   cases hy : rd b.data.toList with
   | none =>
     rw [opR_no2 hx hy]
     have HC := Lib.hid (pboth_no2 a b w x ha hb hx hy)
     clear hx hy
     go_enter Tryz.func78, Tryz.ntmps78
     go_wp2_with fail
     refine HC.out.mono ?_
     rintro e w1 ⟨rfl, hb1⟩
     go_wp2_with fail
     go_ret2
     exact ⟨rfl, (hb1.alloc hb1.size _).alloc (by have := hb1.size; simp; omega) _⟩
   | some y =>
     rw [opR_yes hx hy]
     have HC := Lib.hid (pboth_yes a b w x y ha hb hx hy)
     have hx9 := (rd_some hx).2.1
     have hy9 := (rd_some hy).2.1
     have HF := Lib.hid does_sub
     have HFF := Lib.hid (big_sub x y hx9 hy9)
     clear hx hy hx9 hy9
     go_enter Tryz.func78, Tryz.ntmps78
     go_wp2_with fail
     refine HC.out.mono ?_
     rintro e w1 ⟨s, X, A, c, t, Y, A', c', rfl, hs, ht, -, -, hX, hY, hA, hB, hb1⟩
     have hn1 := (Blk.new w1 89 #[.bool s, .slice A (glen X) c]).alloc (.cells #[.bool t, .slice A' (glen Y) c'] 89)
     have hn2 := Blk.new (w1.alloc (.cells #[.bool s, .slice A (glen X) c] 89)) 89 #[.bool t, .slice A' (glen Y) c']
     rw [show (w1.alloc (.cells #[.bool s, .slice A (glen X) c] 89)).heap.size = w1.heap.size + 1 from by simp] at hn2
     have x0 := hn1.cell (i := 0) rfl; have x1 := hn1.cell (i := 1) rfl
     have y0 := hn2.cell (i := 0) rfl; have y1 := hn2.cell (i := 1) rfl
     have hb2 : Below w1.heap.size w1 ((w1.alloc (.cells #[.bool s, .slice A (glen X) c] 89)).alloc (.cells #[.bool t, .slice A' (glen Y) c'] 89)) := ((Below.refl _ _).alloc (Nat.le_refl _) _).alloc (by simp) _
     have hop := HF.out s t A A' c c' X Y _ (hA.below hb2) (hB.below hb2) hX hY
     rw [hs, ht] at hop
     have HOP := Lib.hid hop
     have HB2 := Lib.hid (hb1.trans (hb2.mono hb1.size))
     clear hn1 hn2 hb2 hop hb1 hA hB hX hY hs ht
     go_wp2_with fail
     refine HOP.out.mono ?_
     rintro e w3 ⟨s3, V, A3, c3, rfl, hz3, -, hA3, hb3⟩
     have hV : glen V <= 1000 := by
       have h1 := HFF.out
       rw [<- hz3, sg_abs] at h1
       exact Nat.le_trans (glen_big h1) (by omega)
     have hpr := printed_any s3 A3 c3 V w3 hA3 hV
     rw [hz3] at hpr
     have HPR := Lib.hid hpr
     have HB3 := Lib.hid (HB2.out.trans (hb3.mono HB2.out.size))
     clear hpr hz3 hA3 hb3
     go_wp2_with fail
     refine HPR.out.mono ?_
     rintro e w4 ⟨rfl, hb4⟩
     go_wp2_with fail
     go_ret2
     exact ⟨rfl, HB3.out.trans (hb4.mono HB3.out.size)⟩
set_option maxRecDepth 100000 in
theorem sub_any (a b : ByteArray) (w : World) (ha : a.size <= 9000000000000000000) (hb : b.size <= 9000000000000000000) :
   Calls Tryz.prog 103 #[.string a, .string b] w (OutO (opR (· - ·) a.data.toList b.data.toList) w) := by
 have HC := Lib.hid (combined_sub a b w ha hb)
 obtain ⟨r, hr⟩ : ∃ r, r = opR (· - ·) a.data.toList b.data.toList := ⟨_, rfl⟩
 rw [<- hr] at HC ⊢
 have hmf : ∀ (fn : Fn) (first cap : Array Value) (w : World), (Instr.makeFunc fn first cap).run Tryz.prog w = .ok (.func fn first cap) w := fun _ _ _ _ => rfl
 clear hr
 go_enter Tryz.func103, Tryz.ntmps103
 go_wp2_with fail
 refine HC.out.mono ?_
 rintro e w1 ⟨rfl, hb1⟩
 go_wp2_with fail
 go_ret2
 exact ⟨rfl, hb1⟩
theorem does_mul : DoesOp 94 (· * ·) := fun s t A A' c c' X Y w hA hB hX hY => ntimes_z s t A A' c c' X Y w hA hB (Nat.le_trans (glen_lim hX) (by omega)) (Nat.le_trans (glen_lim hY) (by omega))
theorem big_mul (x y : Int) (hx : x.natAbs < 10 ^ 200) (hy : y.natAbs < 10 ^ 200) : ((· * ·) x y : Int).natAbs < 10 ^ 200 * 10 ^ 200 := by
 show (x * y).natAbs < _
 rw [Int.natAbs_mul]
 exact Nat.mul_lt_mul'' hx hy
set_option maxRecDepth 100000 in
set_option maxHeartbeats 1000000 in
theorem combined_mul
   (a b : ByteArray) (w : World) (ha : a.size <= 9000000000000000000) (hb : b.size <= 9000000000000000000) :
   Calls Tryz.prog 78 #[.string a, .string b, .func (.func 94) #[] #[]] w (OutO (opR (· * ·) a.data.toList b.data.toList) w) := by
 cases hx : rd a.data.toList with
 | none =>
   rw [opR_no1 hx]
   have HC := Lib.hid (pboth_no1 a b w ha hx)
   clear hx
   go_enter Tryz.func78, Tryz.ntmps78
   go_wp2_with fail
   refine HC.out.mono ?_
   rintro e w1 ⟨rfl, hb1⟩
   go_wp2_with fail
   go_ret2
   exact ⟨rfl, (hb1.alloc hb1.size _).alloc (by have := hb1.size; simp; omega) _⟩
 | some x =>
   cases hy : rd b.data.toList with
   | none =>
     rw [opR_no2 hx hy]
     have HC := Lib.hid (pboth_no2 a b w x ha hb hx hy)
     clear hx hy
     go_enter Tryz.func78, Tryz.ntmps78
     go_wp2_with fail
     refine HC.out.mono ?_
     rintro e w1 ⟨rfl, hb1⟩
     go_wp2_with fail
     go_ret2
     exact ⟨rfl, (hb1.alloc hb1.size _).alloc (by have := hb1.size; simp; omega) _⟩
   | some y =>
     rw [opR_yes hx hy]
     have HC := Lib.hid (pboth_yes a b w x y ha hb hx hy)
     have hx9 := (rd_some hx).2.1
     have hy9 := (rd_some hy).2.1
     have HF := Lib.hid does_mul
     have HFF := Lib.hid (big_mul x y hx9 hy9)
     clear hx hy hx9 hy9
     go_enter Tryz.func78, Tryz.ntmps78
     go_wp2_with fail
     refine HC.out.mono ?_
     rintro e w1 ⟨s, X, A, c, t, Y, A', c', rfl, hs, ht, -, -, hX, hY, hA, hB, hb1⟩
     have hn1 := (Blk.new w1 89 #[.bool s, .slice A (glen X) c]).alloc (.cells #[.bool t, .slice A' (glen Y) c'] 89)
     have hn2 := Blk.new (w1.alloc (.cells #[.bool s, .slice A (glen X) c] 89)) 89 #[.bool t, .slice A' (glen Y) c']
     rw [show (w1.alloc (.cells #[.bool s, .slice A (glen X) c] 89)).heap.size = w1.heap.size + 1 from by simp] at hn2
     have x0 := hn1.cell (i := 0) rfl; have x1 := hn1.cell (i := 1) rfl
     have y0 := hn2.cell (i := 0) rfl; have y1 := hn2.cell (i := 1) rfl
     have hb2 : Below w1.heap.size w1 ((w1.alloc (.cells #[.bool s, .slice A (glen X) c] 89)).alloc (.cells #[.bool t, .slice A' (glen Y) c'] 89)) := ((Below.refl _ _).alloc (Nat.le_refl _) _).alloc (by simp) _
     have hop := HF.out s t A A' c c' X Y _ (hA.below hb2) (hB.below hb2) hX hY
     rw [hs, ht] at hop
     have HOP := Lib.hid hop
     have HB2 := Lib.hid (hb1.trans (hb2.mono hb1.size))
     clear hn1 hn2 hb2 hop hb1 hA hB hX hY hs ht
     go_wp2_with fail
     refine HOP.out.mono ?_
     rintro e w3 ⟨s3, V, A3, c3, rfl, hz3, -, hA3, hb3⟩
     have hV : glen V <= 1000 := by
       have h1 := HFF.out
       rw [<- hz3, sg_abs] at h1
       exact Nat.le_trans (glen_big h1) (by omega)
     have hpr := printed_any s3 A3 c3 V w3 hA3 hV
     rw [hz3] at hpr
     have HPR := Lib.hid hpr
     have HB3 := Lib.hid (HB2.out.trans (hb3.mono HB2.out.size))
     clear hpr hz3 hA3 hb3
     go_wp2_with fail
     refine HPR.out.mono ?_
     rintro e w4 ⟨rfl, hb4⟩
     go_wp2_with fail
     go_ret2
     exact ⟨rfl, HB3.out.trans (hb4.mono HB3.out.size)⟩
set_option maxRecDepth 100000 in
theorem mul_any (a b : ByteArray) (w : World) (ha : a.size <= 9000000000000000000) (hb : b.size <= 9000000000000000000) :
   Calls Tryz.prog 77 #[.string a, .string b] w (OutO (opR (· * ·) a.data.toList b.data.toList) w) := by
 have HC := Lib.hid (combined_mul a b w ha hb)
 obtain ⟨r, hr⟩ : ∃ r, r = opR (· * ·) a.data.toList b.data.toList := ⟨_, rfl⟩
 rw [<- hr] at HC ⊢
 have hmf : ∀ (fn : Fn) (first cap : Array Value) (w : World), (Instr.makeFunc fn first cap).run Tryz.prog w = .ok (.func fn first cap) w := fun _ _ _ _ => rfl
 clear hr
 go_enter Tryz.func77, Tryz.ntmps77
 go_wp2_with fail
 refine HC.out.mono ?_
 rintro e w1 ⟨rfl, hb1⟩
 go_wp2_with fail
 go_ret2
 exact ⟨rfl, hb1⟩
theorem does_gcd : DoesOp 104 (fun x y => ((Nat.gcd x.natAbs y.natAbs : Nat) : Int)) := fun s t A A' c c' X Y w hA hB hX hY => (ngcd_any s t A A' c c' X Y w hA hB (Nat.le_trans (glen_lim hX) (by omega)) (Nat.le_trans (glen_lim hY) (by omega))).mono fun e w' h => by show OutZ ((Nat.gcd (sg s X).natAbs (sg t Y).natAbs : Nat) : Int) w e w'; rw [sg_abs, sg_abs]; exact h
theorem big_gcd (x y : Int) (hx : x.natAbs < 10 ^ 200) (hy : y.natAbs < 10 ^ 200) : ((fun x y => ((Nat.gcd x.natAbs y.natAbs : Nat) : Int)) x y : Int).natAbs < 10 ^ 200 * 10 ^ 200 := by
 show (((Nat.gcd x.natAbs y.natAbs : Nat) : Int)).natAbs < _
 rw [Int.natAbs_natCast]
 have h2 : (10 : Nat) ^ 200 <= 10 ^ 200 * 10 ^ 200 := Nat.le_mul_of_pos_left _ (Nat.pow_pos (by omega))
 rcases Nat.eq_zero_or_pos x.natAbs with h | h
 · rw [h, Nat.gcd_zero_left]; omega
 · have := Nat.gcd_le_left y.natAbs h; omega
set_option maxRecDepth 100000 in
set_option maxHeartbeats 1000000 in
theorem combined_gcd
   (a b : ByteArray) (w : World) (ha : a.size <= 9000000000000000000) (hb : b.size <= 9000000000000000000) :
   Calls Tryz.prog 78 #[.string a, .string b, .func (.func 104) #[] #[]] w (OutO (opR (fun x y => ((Nat.gcd x.natAbs y.natAbs : Nat) : Int)) a.data.toList b.data.toList) w) := by
 cases hx : rd a.data.toList with
 | none =>
   rw [opR_no1 hx]
   have HC := Lib.hid (pboth_no1 a b w ha hx)
   clear hx
   go_enter Tryz.func78, Tryz.ntmps78
   go_wp2_with fail
   refine HC.out.mono ?_
   rintro e w1 ⟨rfl, hb1⟩
   go_wp2_with fail
   go_ret2
   exact ⟨rfl, (hb1.alloc hb1.size _).alloc (by have := hb1.size; simp; omega) _⟩
 | some x =>
   cases hy : rd b.data.toList with
   | none =>
     rw [opR_no2 hx hy]
     have HC := Lib.hid (pboth_no2 a b w x ha hb hx hy)
     clear hx hy
     go_enter Tryz.func78, Tryz.ntmps78
     go_wp2_with fail
     refine HC.out.mono ?_
     rintro e w1 ⟨rfl, hb1⟩
     go_wp2_with fail
     go_ret2
     exact ⟨rfl, (hb1.alloc hb1.size _).alloc (by have := hb1.size; simp; omega) _⟩
   | some y =>
     rw [opR_yes hx hy]
     have HC := Lib.hid (pboth_yes a b w x y ha hb hx hy)
     have hx9 := (rd_some hx).2.1
     have hy9 := (rd_some hy).2.1
     have HF := Lib.hid does_gcd
     have HFF := Lib.hid (big_gcd x y hx9 hy9)
     clear hx hy hx9 hy9
     go_enter Tryz.func78, Tryz.ntmps78
     go_wp2_with fail
     refine HC.out.mono ?_
     rintro e w1 ⟨s, X, A, c, t, Y, A', c', rfl, hs, ht, -, -, hX, hY, hA, hB, hb1⟩
     have hn1 := (Blk.new w1 89 #[.bool s, .slice A (glen X) c]).alloc (.cells #[.bool t, .slice A' (glen Y) c'] 89)
     have hn2 := Blk.new (w1.alloc (.cells #[.bool s, .slice A (glen X) c] 89)) 89 #[.bool t, .slice A' (glen Y) c']
     rw [show (w1.alloc (.cells #[.bool s, .slice A (glen X) c] 89)).heap.size = w1.heap.size + 1 from by simp] at hn2
     have x0 := hn1.cell (i := 0) rfl; have x1 := hn1.cell (i := 1) rfl
     have y0 := hn2.cell (i := 0) rfl; have y1 := hn2.cell (i := 1) rfl
     have hb2 : Below w1.heap.size w1 ((w1.alloc (.cells #[.bool s, .slice A (glen X) c] 89)).alloc (.cells #[.bool t, .slice A' (glen Y) c'] 89)) := ((Below.refl _ _).alloc (Nat.le_refl _) _).alloc (by simp) _
     have hop := HF.out s t A A' c c' X Y _ (hA.below hb2) (hB.below hb2) hX hY
     rw [hs, ht] at hop
     have HOP := Lib.hid hop
     have HB2 := Lib.hid (hb1.trans (hb2.mono hb1.size))
     clear hn1 hn2 hb2 hop hb1 hA hB hX hY hs ht
     go_wp2_with fail
     refine HOP.out.mono ?_
     rintro e w3 ⟨s3, V, A3, c3, rfl, hz3, -, hA3, hb3⟩
     have hV : glen V <= 1000 := by
       have h1 := HFF.out
       rw [<- hz3, sg_abs] at h1
       exact Nat.le_trans (glen_big h1) (by omega)
     have hpr := printed_any s3 A3 c3 V w3 hA3 hV
     rw [hz3] at hpr
     have HPR := Lib.hid hpr
     have HB3 := Lib.hid (HB2.out.trans (hb3.mono HB2.out.size))
     clear hpr hz3 hA3 hb3
     go_wp2_with fail
     refine HPR.out.mono ?_
     rintro e w4 ⟨rfl, hb4⟩
     go_wp2_with fail
     go_ret2
     exact ⟨rfl, HB3.out.trans (hb4.mono HB3.out.size)⟩
set_option maxRecDepth 100000 in
theorem gcd_any (a b : ByteArray) (w : World) (ha : a.size <= 9000000000000000000) (hb : b.size <= 9000000000000000000) :
   Calls Tryz.prog 89 #[.string a, .string b] w (OutO (opR (fun x y => ((Nat.gcd x.natAbs y.natAbs : Nat) : Int)) a.data.toList b.data.toList) w) := by
 have HC := Lib.hid (combined_gcd a b w ha hb)
 obtain ⟨r, hr⟩ : ∃ r, r = opR (fun x y => ((Nat.gcd x.natAbs y.natAbs : Nat) : Int)) a.data.toList b.data.toList := ⟨_, rfl⟩
 rw [<- hr] at HC ⊢
 have hmf : ∀ (fn : Fn) (first cap : Array Value) (w : World), (Instr.makeFunc fn first cap).run Tryz.prog w = .ok (.func fn first cap) w := fun _ _ _ _ => rfl
 clear hr
 go_enter Tryz.func89, Tryz.ntmps89
 go_wp2_with fail
 refine HC.out.mono ?_
 rintro e w1 ⟨rfl, hb1⟩
 go_wp2_with fail
 go_ret2
 exact ⟨rfl, hb1⟩
def cmpR (a b : List UInt8) : Int := match rd a, rd b with
 | some x, some y => ordI x y
 | _, _ => 0
theorem cmpR_no1 {a b : List UInt8} (h : rd a = none) : cmpR a b = 0 := by unfold cmpR; rw [h]
theorem cmpR_no2 {a b : List UInt8} (h : rd b = none) : cmpR a b = 0 := by unfold cmpR; rw [h]; cases rd a <;> rfl
theorem cmpR_yes {a b : List UInt8} {x y : Int} (h : rd a = some x) (h2 : rd b = some y) : cmpR a b = ordI x y := by unfold cmpR; rw [h, h2]
theorem two_boxes (w1 : World) (s t : Bool) (A A' : Option Addr) (n c n' c' : Nat) (W : World) (hW : W = ((w1.alloc (.cells #[.bool s, .slice A n c] 89)).alloc (.cells #[.bool t, .slice A' n' c'] 89))) :
   Blk W w1.heap.size 89 #[.bool s, .slice A n c] /\ Blk W (w1.heap.size + 1) 89 #[.bool t, .slice A' n' c'] /\ Below w1.heap.size w1 W /\ W.heap.size = w1.heap.size + 2 := by
 subst hW
 have hn2 := Blk.new (w1.alloc (.cells #[.bool s, .slice A n c] 89)) 89 #[.bool t, .slice A' n' c']
 rw [show (w1.alloc (.cells #[.bool s, .slice A n c] 89)).heap.size = w1.heap.size + 1 from by simp] at hn2
 exact ⟨(Blk.new w1 _ _).alloc _, hn2, ((Below.refl _ _).alloc (Nat.le_refl _) _).alloc (by simp) _, by simp⟩
set_option maxRecDepth 100000 in
set_option maxHeartbeats 1000000 in
theorem compare_any (a b : ByteArray) (w : World) (ha : a.size <= 9000000000000000000) (hb : b.size <= 9000000000000000000) :
   Calls Tryz.prog 102 #[.string a, .string b] w fun e w' => e = .returned (.int .i64 (cmpR a.data.toList b.data.toList)) /\ Below w.heap.size w w' := by
 cases hx : rd a.data.toList with
 | none =>
   rw [cmpR_no1 hx]
   have HC := Lib.hid (pboth_no1 a b w ha hx)
   clear hx
   go_enter Tryz.func102, Tryz.ntmps102
   go_wp2_with fail
   refine HC.out.mono ?_
   rintro e w1 ⟨rfl, hb1⟩
   go_wp2_with fail
   go_ret
   exact ⟨rfl, (hb1.alloc hb1.size _).alloc (by have := hb1.size; simp; omega) _⟩
 | some x =>
   cases hy : rd b.data.toList with
   | none =>
     rw [cmpR_no2 hy]
     have HC := Lib.hid (pboth_no2 a b w x ha hb hx hy)
     clear hx hy
     go_enter Tryz.func102, Tryz.ntmps102
     go_wp2_with fail
     refine HC.out.mono ?_
     rintro e w1 ⟨rfl, hb1⟩
     go_wp2_with fail
     go_ret
     exact ⟨rfl, (hb1.alloc hb1.size _).alloc (by have := hb1.size; simp; omega) _⟩
   | some y =>
     rw [cmpR_yes hx hy]
     have HC := Lib.hid (pboth_yes a b w x y ha hb hx hy)
     clear hx hy
     go_enter Tryz.func102, Tryz.ntmps102
     go_wp2_with fail
     refine HC.out.mono ?_
     rintro e w1 ⟨s, X, A, c, t, Y, A', c', rfl, hs, ht, hs0, ht0, hX, hY, hA, hB, hb1⟩
     obtain ⟨hn1, hn2, hb2, -⟩ := two_boxes w1 s t A A' (glen X) c (glen Y) c' _ rfl
     have x0 := hn1.cell (i := 0) rfl; have x1 := hn1.cell (i := 1) rfl
     have y0 := hn2.cell (i := 0) rfl; have y1 := hn2.cell (i := 1) rfl
     have hop := ncomp_any s t A A' c c' X Y _ (hA.below hb2) (hB.below hb2) (Nat.le_trans (glen_lim hX) (by omega)) (Nat.le_trans (glen_lim hY) (by omega)) hs0 ht0
     rw [hs, ht] at hop
     have HOP := Lib.hid hop
     have HB2 := Lib.hid (hb1.trans (hb2.mono hb1.size))
     clear hn1 hn2 hb2 hop hb1 hA hB hX hY hs ht hs0 ht0
     go_wp2_with fail
     refine HOP.out.mono ?_
     rintro e w3 ⟨rfl, hb3⟩
     go_wp2_with fail
     go_ret
     exact ⟨rfl, HB2.out.trans (hb3.mono HB2.out.size)⟩
def divR (a b : List UInt8) : Option (Int × Int) := match rd a, rd b with
 | some x, some y => if y = 0 then none else some (x / y, x % y)
 | _, _ => none
theorem divR_no1 {a b : List UInt8} (h : rd a = none) : divR a b = none := by unfold divR; rw [h]
theorem divR_no2 {a b : List UInt8} (h : rd b = none) : divR a b = none := by unfold divR; rw [h]; cases rd a <;> rfl
theorem divR_zero {a b : List UInt8} (h : rd b = some 0) : divR a b = none := by unfold divR; rw [h]; cases rd a <;> rfl
theorem divR_yes {a b : List UInt8} {x y : Int} (h : rd a = some x) (h2 : rd b = some y) (h0 : y ≠ 0) : divR a b = some (x / y, x % y) := by unfold divR; rw [h, h2]; simp [h0]
def OutDP (r : Option (Int × Int)) (w : World) (e : Ending) (w' : World) : Prop :=
 e = .returned (match r with | some (q, r) => .tuple #[.string (zS q), .string (zS r), .int .i64 0] | none => .tuple #[.string ⟨#[]⟩, .string ⟨#[]⟩, .int .i64 30]) /\ Below w.heap.size w w'
set_option maxRecDepth 100000 in
set_option maxHeartbeats 2000000 in
theorem div_any (a b : ByteArray) (w : World) (ha : a.size <= 9000000000000000000) (hb : b.size <= 9000000000000000000) :
   Calls Tryz.prog 105 #[.string a, .string b] w (OutDP (divR a.data.toList b.data.toList) w) := by
 cases hx : rd a.data.toList with
 | none =>
   rw [divR_no1 hx]
   have HC := Lib.hid (pboth_no1 a b w ha hx)
   clear hx
   go_enter Tryz.func105, Tryz.ntmps105
   go_wp2_with fail
   refine HC.out.mono ?_
   rintro e w1 ⟨rfl, hb1⟩
   go_wp2_with fail
   go_ret3
   exact ⟨rfl, (hb1.alloc hb1.size _).alloc (by have := hb1.size; simp; omega) _⟩
 | some x =>
   cases hy : rd b.data.toList with
   | none =>
     rw [divR_no2 hy]
     have HC := Lib.hid (pboth_no2 a b w x ha hb hx hy)
     clear hx hy
     go_enter Tryz.func105, Tryz.ntmps105
     go_wp2_with fail
     refine HC.out.mono ?_
     rintro e w1 ⟨rfl, hb1⟩
     go_wp2_with fail
     go_ret3
     exact ⟨rfl, (hb1.alloc hb1.size _).alloc (by have := hb1.size; simp; omega) _⟩
   | some y =>
     obtain ⟨d, hd⟩ : ∃ d, d = divR a.data.toList b.data.toList := ⟨_, rfl⟩
     rw [<- hd]
     have HD := Lib.hid hd
     have HC := Lib.hid (pboth_yes a b w x y ha hb hx hy)
     have HX := Lib.hid hx; have HY := Lib.hid hy
     have HX9 := Lib.hid (rd_some hx).2.1
     clear hx hy hd
     go_enter Tryz.func105, Tryz.ntmps105
     go_wp2_with fail
     refine HC.out.mono ?_
     rintro e w1 ⟨s, X, A, c, t, Y, A', c', rfl, hs, ht, hs0, ht0, hX, hY, hA, hB, hb1⟩
     obtain ⟨hn1, hn2, hb2, hsz2⟩ := two_boxes w1 s t A A' (glen X) c (glen Y) c' _ rfl
     have x0 := hn1.cell (i := 0) rfl; have x1 := hn1.cell (i := 1) rfl
     have y0 := hn2.cell (i := 0) rfl; have y1 := hn2.cell (i := 1) rfl
     have hgX := glen_lim hX; have hgY := glen_lim hY
     have hiz := iszero_any t A' c' (glen Y) ((w1.alloc (.cells #[.bool s, .slice A (glen X) c] 89)).alloc (.cells #[.bool t, .slice A' (glen Y) c'] 89))
     have HIZ := Lib.hid hiz; have HA := Lib.hid (hA.below hb2); have HB := Lib.hid (hB.below hb2); have HN1 := Lib.hid hn1; have HN2 := Lib.hid hn2
     have HBL := Lib.hid (hb1.trans (hb2.mono hb1.size)); have HS := Lib.hid hs; have HT := Lib.hid ht; have HT0 := Lib.hid ht0; have HXL := Lib.hid hX; have HYL := Lib.hid hY
     have HSZ := Lib.hid hsz2
     clear hn1 hn2 hb2 hiz hA hB hb1 hs ht ht0 hs0 hX hY hsz2
     rcases Nat.eq_zero_or_pos Y with h0 | h0
     · have hz1 := HIZ.out true (by rw [h0, glen_zero]; rfl)
       have HZ := Lib.hid hz1
       have hyz : y = 0 := by rw [<- HT.out, h0]; cases t <;> rfl
       obtain rfl : d = none := by rw [HD.out]; exact divR_zero (by rw [HY.out, hyz])
       clear hz1 hyz h0
       go_wp2_with fail
       refine HZ.out.mono ?_
       rintro e w2 ⟨rfl, hb3⟩
       go_wp2_with fail
       go_ret3
       exact ⟨rfl, HBL.out.trans (hb3.mono HBL.out.size)⟩
     · have hz1 := HIZ.out false (by symm; rw [decide_eq_false_iff_not]; have := glen_pos h0; omega)
       have HZ := Lib.hid hz1
       have hyz : y ≠ 0 := by rw [<- HT.out]; unfold sg; split <;> omega
       obtain rfl : d = some (x / y, x % y) := by rw [HD.out]; exact divR_yes HX.out HY.out hyz
       have H0 := Lib.hid h0
       have HYZ := Lib.hid hyz
       clear hz1 hyz h0
       go_wp2_with fail
       refine HZ.out.mono ?_
       rintro e w2 ⟨rfl, hb3⟩
       have hA2 := HA.out.below hb3
       have hB2 := HB.out.below hb3
       have hn1 := HN1.out.below hb3 HN1.out.lt; have hn2 := HN2.out.below hb3 HN2.out.lt
       have x0' := hn1.cell (i := 0) rfl; have x1' := hn1.cell (i := 1) rfl
       have y0' := hn2.cell (i := 0) rfl; have y1' := hn2.cell (i := 1) rfl
       have hdv := ndiv_any s t A A' c c' X Y w2 hA2 hB2 (by omega) (by omega) H0.out
       rw [HS.out, HT.out] at hdv
       have HDV := Lib.hid hdv
       have HBL2 := Lib.hid (HBL.out.trans (hb3.mono HBL.out.size))
       clear hA2 hB2 hn1 hn2 hdv hb3 x0 x1 y0 y1
       go_wp2_with fail
       refine HDV.out.mono ?_
       rintro e w3 ⟨s3, Q, A3, c3, R, A4, c4, rfl, hq, hq0, hr, hA3, hA4, hb4⟩
       obtain ⟨hm1, hm2, hb5, hsz5⟩ := two_boxes w3 s3 false A3 A4 (glen Q) c3 (glen R) c4 _ rfl
       have u0 := hm1.cell (i := 0) rfl; have u1 := hm1.cell (i := 1) rfl
       have hQ9 : Q < 10 ^ 200 := by
         have h1 := congrArg Int.natAbs hq
         rw [sg_abs] at h1
         have h2 := Int.natAbs_ediv_le_natAbs x y
         have := HX9.out
         omega
       have hR9 : R < 10 ^ 200 := by
         have h1 := Int.emod_lt x HYZ.out
         have h2 : Y < 10 ^ 200 := HYL.out
         have h3 : (y.natAbs : Int) = Y := by rw [<- HT.out, sg_abs]
         omega
       have hpr := printed_any s3 A3 c3 Q _ (hA3.below hb5) (Nat.le_trans (glen_lim hQ9) (by omega))
       rw [hq, show lim (x / y) = some (x / y) from by unfold lim; rw [if_pos]; rw [<- hq, sg_abs]; exact hQ9] at hpr
       have HPR := Lib.hid hpr
       have HA4 := Lib.hid (hA4.below hb5); have HM2 := Lib.hid hm2
       have HBL3 := Lib.hid (HBL2.out.trans ((hb4.trans (hb5.mono hb4.size)).mono HBL2.out.size))
       have HR9 := Lib.hid (Nat.le_trans (glen_lim hR9) (show 50 <= 1000 by omega)); have HR := Lib.hid hr
       clear hm1 hm2 hb5 hsz5 hQ9 hR9 hpr hA3 hA4 hb4 hq hq0 hr x0' x1' y0' y1'
       go_wp2_with fail
       refine HPR.out.mono ?_
       rintro e w4 ⟨rfl, hb6⟩
       have hm3 := HM2.out.below hb6 HM2.out.lt
       have v0 := hm3.cell (i := 0) rfl; have v1 := hm3.cell (i := 1) rfl
       have htx := text_any false A4 c4 R w4 (HA4.out.below hb6) HR9.out
       rw [sg_false, HR.out] at htx
       have HTX := Lib.hid htx
       have HBL4 := Lib.hid (HBL3.out.trans (hb6.mono HBL3.out.size))
       clear hm3 htx hb6 u0 u1
       go_wp2_with fail
       refine HTX.out.mono ?_
       rintro e w5 ⟨rfl, hb7⟩
       go_wp2_with fail
       go_ret3
       exact ⟨rfl, HBL4.out.trans (hb7.mono HBL4.out.size)⟩
theorem beq_list (x y : ByteArray) (b : Bool) (h : b = decide (x.data.toList = y.data.toList)) : (x.toList == y.toList) = b := by
 rw [toList_data, toList_data, h, Bool.eq_iff_iff, beq_iff_eq, decide_eq_true_eq]
end Go.Proofs.YtpjbihfkedbenaaGreat
