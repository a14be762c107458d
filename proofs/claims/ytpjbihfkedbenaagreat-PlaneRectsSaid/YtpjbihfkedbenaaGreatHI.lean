/- The contracts of the reference's Make and Of. Conditions: the strings' lengths are ints. | The statements' helpers at, ratio, pick, moved; the reference's pick, Place and SamePlaces. Conditions: ints, small places, equal lists. -/
import Derived.Test.YtpjbihfkedbenaaGreatGF
import Derived.Test.YtpjbihfkedbenaaGreatGH
import Derived.Test.YtpjbihfkedbenaaGreatHF
import Derived.Test.YtpjbihfkedbenaaGreatHE
namespace Go.Proofs.YtpjbihfkedbenaaGreat
open Go.RowKit Go.Lib
theorem bs_of_rd7 {a : ByteArray} {z : Int} (h : rd a.data.toList = some z) : a = zS z := by
 rw [<- bs_self a, (rd_some h).1]; rfl
set_option maxRecDepth 100000 in
set_option maxHeartbeats 4000000 in
theorem rmake_any (a b : ByteArray) (w : World) (ha : a.size <= 9000000000000000000) (hb : b.size <= 9000000000000000000) :
   Calls Tryz.prog 57 #[.string a, .string b] w (OutFr (mkR a.data.toList b.data.toList) w) := by
 have hR := Blk.new w 48 #[.string ⟨#[]⟩, .string ⟨#[]⟩]
 have hb0 : Below w.heap.size w (w.alloc (.cells #[.string ⟨#[]⟩, .string ⟨#[]⟩] 48)) := (Below.refl _ _).alloc (Nat.le_refl _) _
 have hva := fun W => qvalid_any a W ha
 have hvb := fun W => qvalid_any b W hb
 have HR := Lib.hid hR; have HB := Lib.hid hb0
 clear hR hb0
 cases hx : rd a.data.toList with
 | none =>
   rw [mkR_no1 hx]
   rw [valid_no hx] at hva
   obtain ⟨vb, hvb2⟩ : ∃ v, v = validB b.data.toList := ⟨_, rfl⟩
   rw [<- hvb2] at hvb
   have HVA := Lib.hid hva; have HVB := Lib.hid hvb
   clear hva hvb hx ha hb hvb2
   go_enter Tryz.func57, Tryz.ntmps57
   go_wp2_with fail
   refine (HVA.out _).mono ?_
   rintro e w1 ⟨rfl, k, rfl⟩
   go_wp2_with fail
   refine (HVB.out _).mono ?_
   rintro e w1 ⟨rfl, k2, rfl⟩
   have HRK := Lib.hid (HR.out.drewN (k + k2)); have HBK := Lib.hid (below_drewN HB.out (k + k2))
   have x0 := HRK.out.cell (i := 0) (v := .string ⟨#[]⟩) rfl; have x1 := HRK.out.cell (i := 1) (v := .string ⟨#[]⟩) rfl
   have f0 := HRK.out.frozen 0; have f1 := HRK.out.frozen 1
   go_wp2_with fail
   obtain ⟨r0, r1⟩ := HRK.out.two (u := .string ⟨#[]⟩) (v := .string ⟨#[]⟩)
   exact bodyPost_ret (v := .tuple #[.agg #[.string ⟨#[]⟩, .string ⟨#[]⟩], .int .i64 40]) (by simp [results, Tryz.results57, go_sem, r0, r1]) rfl ⟨rfl, (HBK.out.setCell (p := ⟨w.heap.size, 0, none⟩) (Nat.le_refl _) _).setCell (p := ⟨w.heap.size, 1, none⟩) (Nat.le_refl _) _⟩
 | some n =>
   rw [valid_yes hx] at hva
   cases hy : rd b.data.toList with
   | none =>
     rw [mkR_no2 hy]
     rw [valid_no hy] at hvb
     have HVA := Lib.hid hva; have HVB := Lib.hid hvb
     clear hva hvb hx hy ha hb
     go_enter Tryz.func57, Tryz.ntmps57
     go_wp2_with fail
     refine (HVA.out _).mono ?_
     rintro e w1 ⟨rfl, k, rfl⟩
     go_wp2_with fail
     refine (HVB.out _).mono ?_
     rintro e w1 ⟨rfl, k2, rfl⟩
     have HRK := Lib.hid (HR.out.drewN (k + k2)); have HBK := Lib.hid (below_drewN HB.out (k + k2))
     have x0 := HRK.out.cell (i := 0) (v := .string ⟨#[]⟩) rfl; have x1 := HRK.out.cell (i := 1) (v := .string ⟨#[]⟩) rfl
     have f0 := HRK.out.frozen 0; have f1 := HRK.out.frozen 1
     go_wp2_with fail
     obtain ⟨r0, r1⟩ := HRK.out.two (u := .string ⟨#[]⟩) (v := .string ⟨#[]⟩)
     exact bodyPost_ret (v := .tuple #[.agg #[.string ⟨#[]⟩, .string ⟨#[]⟩], .int .i64 40]) (by simp [results, Tryz.results57, go_sem, r0, r1]) rfl ⟨rfl, (HBK.out.setCell (p := ⟨w.heap.size, 0, none⟩) (Nat.le_refl _) _).setCell (p := ⟨w.heap.size, 1, none⟩) (Nat.le_refl _) _⟩
   | some d =>
     rw [valid_yes hy] at hvb
     have e1 := bs_of_rd7 hx; have e2 := bs_of_rd7 hy
     have hn9 := (rd_some hx).2.1; have hd9 := (rd_some hy).2.1
     subst e1 e2
     have HVA := Lib.hid hva; have HVB := Lib.hid hvb
     by_cases h0 : d = 0
     · have k0 := is0_z d true (by simp [h0])
       rw [mkR_zero (by rw [hy, h0])]
       clear hva hvb hx hy ha hb hn9 hd9 h0
       go_enter Tryz.func57, Tryz.ntmps57
       go_wp2_with fail
       refine (HVA.out _).mono ?_
       rintro e w1 ⟨rfl, k, rfl⟩
       go_wp2_with fail
       refine (HVB.out _).mono ?_
       rintro e w1 ⟨rfl, k2, rfl⟩
       have HRK := Lib.hid (HR.out.drewN (k + k2)); have HBK := Lib.hid (below_drewN HB.out (k + k2))
       have x0 := HRK.out.cell (i := 0) (v := .string ⟨#[]⟩) rfl; have x1 := HRK.out.cell (i := 1) (v := .string ⟨#[]⟩) rfl
       have f0 := HRK.out.frozen 0; have f1 := HRK.out.frozen 1
       go_wp2_with fail
       obtain ⟨r0, r1⟩ := HRK.out.two (u := .string ⟨#[]⟩) (v := .string ⟨#[]⟩)
       exact bodyPost_ret (v := .tuple #[.agg #[.string ⟨#[]⟩, .string ⟨#[]⟩], .int .i64 40]) (by simp [results, Tryz.results57, go_sem, r0, r1]) rfl ⟨rfl, (HBK.out.setCell (p := ⟨w.heap.size, 0, none⟩) (Nat.le_refl _) _).setCell (p := ⟨w.heap.size, 1, none⟩) (Nat.le_refl _) _⟩
     · have k0 := is0_z d false (by simp [h0])
       rw [mkR_yes hx hy h0]
       have hcm := fun w => qcompare_any (zS d) ⟨#[48]⟩ w hb (by decide)
       rw [show cmpR (zS d).data.toList (⟨#[48]⟩ : ByteArray).data.toList = ordI d 0 from cmpR_yes hy rd_48] at hcm
       obtain ⟨g, hg⟩ : ∃ g, g = ((Nat.gcd n.natAbs d.natAbs : Nat) : Int) := ⟨_, rfl⟩
       have hgp := @gpos n d h0
       have hg9 : g.natAbs < 10 ^ 200 := by rw [hg]; exact gcd_lim h0 hd9
       obtain ⟨zn, hzn⟩ : ∃ z, z = (red n d).1 := ⟨_, rfl⟩
       obtain ⟨zd, hzd⟩ : ∃ z, z = (red n d).2 := ⟨_, rfl⟩
       have HZN := Lib.hid hzn; have HZD := Lib.hid hzd
       have hrr : red n d = (zn, zd) := Prod.ext hzn.symm hzd.symm
       have HRR := Lib.hid hrr
       rcases Int.lt_or_gt_of_ne h0 with hd | hd
       · rw [ordI_lt hd] at hcm
         have hsN := fun W => qsub_any ⟨#[48]⟩ (zS n) W (by decide) ha
         have hsD := fun W => qsub_any ⟨#[48]⟩ (zS d) W (by decide) hb
         rw [opR_yes rd_48 hx, lim_some (by omega)] at hsN
         rw [opR_yes rd_48 hy, lim_some (by omega)] at hsD
         simp only [Int.zero_sub] at hsN hsD
         have hN : rd (zS (-n)).data.toList = some (-n) := zS_rd (by omega)
         have hD : rd (zS (-d)).data.toList = some (-d) := zS_rd (by omega)
         have hG := fun W => qgcd_any (zS (-n)) (zS (-d)) W (zs (-n) (-d) (by omega) (by omega)).1 (zs (-n) (-d) (by omega) (by omega)).2
         rw [opR_yes hN hD, Int.natAbs_neg, Int.natAbs_neg, <- hg, lim_some hg9] at hG
         have hQ1 := fun W => qdiv_any (zS (-n)) (zS g) W (zs (-n) g (by omega) hg9).1 (zs (-n) g (by omega) hg9).2
         have hQ2 := fun W => qdiv_any (zS (-d)) (zS g) W (zs (-d) g (by omega) hg9).1 (zs (-d) g (by omega) hg9).2
         rw [divR_yes hN (zS_rd hg9) (by omega)] at hQ1
         rw [divR_yes hD (zS_rd hg9) (by omega)] at hQ2
         have hs : sgcd n d = -g := by unfold sgcd; rw [if_pos hd, hg]
         have hdv := @sgcd_dvd n d
         rw [hs] at hdv
         have q1 : -n / g = zn := by rw [Int.neg_ediv_of_dvd ((Int.neg_dvd).1 hdv.1), <- Int.ediv_neg, <- hs, hzn]; rfl
         have q2 : -d / g = zd := by rw [Int.neg_ediv_of_dvd ((Int.neg_dvd).1 hdv.2), <- Int.ediv_neg, <- hs, hzd]; rfl
         rw [q1] at hQ1
         rw [q2] at hQ2
         obtain ⟨m1, hm1⟩ : ∃ m, m = -n % g := ⟨_, rfl⟩
         obtain ⟨m2, hm2⟩ : ∃ m, m = -d % g := ⟨_, rfl⟩
         rw [<- hm1] at hQ1
         rw [<- hm2] at hQ2
         unfold OutO okS okE at hsN hsD hG
         unfold OutDP at hQ1 hQ2
         have HC := Lib.hid hcm; have HSN := Lib.hid hsN; have HSD := Lib.hid hsD; have HG := Lib.hid hG; have HQ1 := Lib.hid hQ1; have HQ2 := Lib.hid hQ2
         rw [hrr]
         clear hva hvb hcm hsN hsD hG hQ1 hQ2 hN hD q1 q2 hm1 hm2 hs hdv hd hzn hzd hrr hg hgp hg9 hx hy ha hb hn9 hd9 h0
         go_enter Tryz.func57, Tryz.ntmps57
         go_wp2_with fail
         refine (HVA.out _).mono ?_
         rintro e w1 ⟨rfl, k, rfl⟩
         go_wp2_with fail
         refine (HVB.out _).mono ?_
         rintro e w1 ⟨rfl, k2, rfl⟩
         have HRK := Lib.hid (HR.out.drewN (k + k2)); have HBK := Lib.hid (below_drewN HB.out (k + k2))
         go_wp2_with fail
         refine (HC.out _).mono ?_
         rintro e w3 ⟨rfl, hb3⟩
         have hr3 := HRK.out.below hb3 HRK.out.lt
         have hbk3 := HBK.out.trans (hb3.mono HBK.out.size)
         clear HRK HBK
         have HRK := Lib.hid hr3; have HBK := Lib.hid hbk3
         clear hr3 hbk3 hb3
         go_wp2_with fail
         refine (HSN.out _).mono ?_
         rintro e w4 ⟨rfl, hb4⟩
         have hr4 := HRK.out.below hb4 HRK.out.lt
         have hbk4 := HBK.out.trans (hb4.mono HBK.out.size)
         clear HRK HBK
         have HRK := Lib.hid hr4; have HBK := Lib.hid hbk4
         clear hr4 hbk4 hb4
         go_wp2_with fail
         refine (HSD.out _).mono ?_
         rintro e w5 ⟨rfl, hb5⟩
         have hr5 := HRK.out.below hb5 HRK.out.lt
         have hbk5 := HBK.out.trans (hb5.mono HBK.out.size)
         clear HRK HBK
         have HRK := Lib.hid hr5; have HBK := Lib.hid hbk5
         clear hr5 hbk5 hb5
         go_wp2_with fail
         refine (HG.out _).mono ?_
         rintro e w6 ⟨rfl, hb6⟩
         have hr6 := HRK.out.below hb6 HRK.out.lt
         have hbk6 := HBK.out.trans (hb6.mono HBK.out.size)
         clear HRK HBK
         have HRK := Lib.hid hr6; have HBK := Lib.hid hbk6
         clear hr6 hbk6 hb6
         go_wp2_with fail
         refine (HQ1.out _).mono ?_
         rintro e w7 ⟨rfl, hb7⟩
         have hr7 := HRK.out.below hb7 HRK.out.lt
         have hbk7 := HBK.out.trans (hb7.mono HBK.out.size)
         clear HRK HBK
         have HRK := Lib.hid hr7; have HBK := Lib.hid hbk7
         clear hr7 hbk7 hb7
         go_wp2_with fail
         refine (HQ2.out _).mono ?_
         rintro e w8 ⟨rfl, hb8⟩
         have hr8 := HRK.out.below hb8 HRK.out.lt
         have hbk8 := HBK.out.trans (hb8.mono HBK.out.size)
         clear HRK HBK
         have HRK := Lib.hid hr8; have HBK := Lib.hid hbk8
         clear hr8 hbk8 hb8
         have x0 := HRK.out.cell (i := 0) (v := .string ⟨#[]⟩) rfl; have x1 := HRK.out.cell (i := 1) (v := .string ⟨#[]⟩) rfl
         have f0 := HRK.out.frozen 0; have f1 := HRK.out.frozen 1
         go_wp2_with fail
         obtain ⟨r0, r1⟩ := HRK.out.two (u := .string (zS zn)) (v := .string (zS zd))
         exact bodyPost_ret (v := .tuple #[.agg #[.string (zS zn), .string (zS zd)], .int .i64 0]) (by simp [results, Tryz.results57, go_sem, r0, r1]) rfl ⟨by rw [HZN.out, HZD.out]; rfl, (HBK.out.setCell (p := ⟨w.heap.size, 0, none⟩) (Nat.le_refl _) _).setCell (p := ⟨w.heap.size, 1, none⟩) (Nat.le_refl _) _⟩
       · rw [ordI_gt hd] at hcm
         have hG := fun W => qgcd_any (zS n) (zS d) W ha hb
         rw [opR_yes hx hy, <- hg, lim_some hg9] at hG
         have hQ1 := fun W => qdiv_any (zS n) (zS g) W ha (zs n g hn9 hg9).2
         have hQ2 := fun W => qdiv_any (zS d) (zS g) W hb (zs d g hd9 hg9).2
         rw [divR_yes hx (zS_rd hg9) (by omega)] at hQ1
         rw [divR_yes hy (zS_rd hg9) (by omega)] at hQ2
         have hs : sgcd n d = g := by rw [sgcd_pos hd, hg]
         have q1 : n / g = zn := by rw [<- hs, hzn]; rfl
         have q2 : d / g = zd := by rw [<- hs, hzd]; rfl
         rw [q1] at hQ1
         rw [q2] at hQ2
         obtain ⟨m1, hm1⟩ : ∃ m, m = n % g := ⟨_, rfl⟩
         obtain ⟨m2, hm2⟩ : ∃ m, m = d % g := ⟨_, rfl⟩
         rw [<- hm1] at hQ1
         rw [<- hm2] at hQ2
         unfold OutO okS okE at hG
         unfold OutDP at hQ1 hQ2
         have HC := Lib.hid hcm; have HG := Lib.hid hG; have HQ1 := Lib.hid hQ1; have HQ2 := Lib.hid hQ2
         rw [hrr]
         clear hva hvb hcm hG hQ1 hQ2 q1 q2 hm1 hm2 hs hd hzn hzd hrr hg hgp hg9 hx hy ha hb hn9 hd9 h0
         go_enter Tryz.func57, Tryz.ntmps57
         go_wp2_with fail
         refine (HVA.out _).mono ?_
         rintro e w1 ⟨rfl, k, rfl⟩
         go_wp2_with fail
         refine (HVB.out _).mono ?_
         rintro e w1 ⟨rfl, k2, rfl⟩
         have HRK := Lib.hid (HR.out.drewN (k + k2)); have HBK := Lib.hid (below_drewN HB.out (k + k2))
         go_wp2_with fail
         refine (HC.out _).mono ?_
         rintro e w3 ⟨rfl, hb3⟩
         have hr3 := HRK.out.below hb3 HRK.out.lt
         have hbk3 := HBK.out.trans (hb3.mono HBK.out.size)
         clear HRK HBK
         have HRK := Lib.hid hr3; have HBK := Lib.hid hbk3
         clear hr3 hbk3 hb3
         go_wp2_with fail
         refine (HG.out _).mono ?_
         rintro e w6 ⟨rfl, hb6⟩
         have hr6 := HRK.out.below hb6 HRK.out.lt
         have hbk6 := HBK.out.trans (hb6.mono HBK.out.size)
         clear HRK HBK
         have HRK := Lib.hid hr6; have HBK := Lib.hid hbk6
         clear hr6 hbk6 hb6
         go_wp2_with fail
         refine (HQ1.out _).mono ?_
         rintro e w7 ⟨rfl, hb7⟩
         have hr7 := HRK.out.below hb7 HRK.out.lt
         have hbk7 := HBK.out.trans (hb7.mono HBK.out.size)
         clear HRK HBK
         have HRK := Lib.hid hr7; have HBK := Lib.hid hbk7
         clear hr7 hbk7 hb7
         go_wp2_with fail
         refine (HQ2.out _).mono ?_
         rintro e w8 ⟨rfl, hb8⟩
         have hr8 := HRK.out.below hb8 HRK.out.lt
         have hbk8 := HBK.out.trans (hb8.mono HBK.out.size)
         clear HRK HBK
         have HRK := Lib.hid hr8; have HBK := Lib.hid hbk8
         clear hr8 hbk8 hb8
         have x0 := HRK.out.cell (i := 0) (v := .string ⟨#[]⟩) rfl; have x1 := HRK.out.cell (i := 1) (v := .string ⟨#[]⟩) rfl
         have f0 := HRK.out.frozen 0; have f1 := HRK.out.frozen 1
         go_wp2_with fail
         obtain ⟨r0, r1⟩ := HRK.out.two (u := .string (zS zn)) (v := .string (zS zd))
         exact bodyPost_ret (v := .tuple #[.agg #[.string (zS zn), .string (zS zd)], .int .i64 0]) (by simp [results, Tryz.results57, go_sem, r0, r1]) rfl ⟨by rw [HZN.out, HZD.out]; rfl, (HBK.out.setCell (p := ⟨w.heap.size, 0, none⟩) (Nat.le_refl _) _).setCell (p := ⟨w.heap.size, 1, none⟩) (Nat.le_refl _) _⟩
set_option maxRecDepth 100000 in
theorem rof_any (n d : Int) (w : World) (h1 : -9223372036854775808 <= n /\ n <= 9223372036854775807) (h2 : -9223372036854775808 <= d /\ d <= 9223372036854775807) :
   Calls Tryz.prog 45 #[.int .i64 n, .int .i64 d] w (OutFr (ofR n d) w) := by
 have b1 : n.natAbs < 10 ^ 200 := Nat.lt_of_lt_of_le (show n.natAbs < 10 ^ 20 by omega) (Nat.pow_le_pow_right (by omega) (by omega))
 have b2 : d.natAbs < 10 ^ 200 := Nat.lt_of_lt_of_le (show d.natAbs < 10 ^ 20 by omega) (Nat.pow_le_pow_right (by omega) (by omega))
 have hm := fun W => rmake_any (zS n) (zS d) W (zs n d b1 b2).1 (zs n d b1 b2).2
 rw [mkR_of b1 b2] at hm
 have hbw : Below w.heap.size w (w.alloc (.cells #[.string ⟨#[]⟩, .string ⟨#[]⟩] 48)) := (Below.refl _ _).alloc (Nat.le_refl _) _
 have hR := Blk.new w 48 #[.string ⟨#[]⟩, .string ⟨#[]⟩]
 obtain ⟨r, hr⟩ : ∃ r, r = ofR n d := ⟨_, rfl⟩
 rw [<- hr] at hm ⊢
 have hf := fun (n : Int) h1 h2 W => qfrom_any n W h1 h2
 have HF1 := Lib.hid (hf n h1.1 h1.2); have HF2 := Lib.hid (hf d h2.1 h2.2)
 unfold OutFr fV at hm
 have HM := Lib.hid hm; have HR := Lib.hid hR; have HB := Lib.hid hbw
 clear hm hR hbw hr hf b1 b2
 go_enter Tryz.func45, Tryz.ntmps45
 go_wp2_with fail
 refine (HF1.out _).mono ?_
 rintro e w1 ⟨rfl, hb1⟩
 have HB1 := Lib.hid hb1
 clear hb1
 go_wp2_with fail
 refine (HF2.out _).mono ?_
 rintro e w2 ⟨rfl, hb2⟩
 have HB2 := Lib.hid (HB1.out.trans (hb2.mono HB1.out.size))
 clear hb2
 go_wp2_with fail
 refine (HM.out _).mono ?_
 rintro e w3 ⟨rfl, hb3⟩
 have hb := HB2.out.trans (hb3.mono HB2.out.size)
 have hR1 := HR.out.below hb HR.out.lt
 have x0 := hR1.cell (i := 0) rfl; have x1 := hR1.cell (i := 1) rfl
 have f0 := hR1.frozen 0; have f1 := hR1.frozen 1
 obtain ⟨r0, r1⟩ := hR1.two (u := .string (qN r)) (v := .string (qD r))
 have HO := Lib.hid (HB.out.trans (hb.mono HB.out.size))
 clear hb3 hb hR1
 go_wp2_with fail
 exact bodyPost_ret (v := .tuple #[.agg #[.string (qN r), .string (qD r)], .int .i64 (qE r)]) (by simp [results, Tryz.results45, go_sem, r0, r1]) rfl ⟨rfl, (HO.out.setCell (Nat.le_refl _) _).setCell (Nat.le_refl _) _⟩
def pk7 (c n : Int) : Int := (if c < 0 then -(c + 1) else c).tmod n
theorem pk7_in (c : Int) {n : Int} (hn : 0 < n) : 0 <= pk7 c n /\ pk7 c n < n := by
 unfold pk7
 split
 · exact ⟨Int.tmod_nonneg _ (by omega), Int.tmod_lt_of_pos _ hn⟩
 · exact ⟨Int.tmod_nonneg _ (by omega), Int.tmod_lt_of_pos _ hn⟩
abbrev I64 (c : Int) : Prop := -9223372036854775808 <= c /\ c <= 9223372036854775807
set_option maxRecDepth 100000 in
set_option maxHeartbeats 8000000 in
theorem rpick7_any (c n : Int) (w : World) (hc : I64 c) (hn : 0 < n /\ n <= 1000000) : Yl 30 #[.int .i64 c, .int .i64 n] w (.int .i64 (pk7 c n)) := by
 have hb := pk7_in c hn.1
 have hn0 : (n == 0) = false := by rw [beq_eq_false_iff_ne]; omega
 have hn1 : ¬ n = 0 := by omega
 by_cases h0 : c < 0
 case pos =>
   have hp : pk7 c n = (-(c + 1)).tmod n := by unfold pk7; rw [if_pos h0]
   obtain ⟨k, hk⟩ : ∃ k, k = pk7 c n := ⟨_, rfl⟩
   rw [<- hk] at hp hb ⊢
   have e1 : IntKind.i64.wrap (c + 1) = c + 1 := IntWalk.i64_in _ (by omega)
   obtain ⟨m, hm⟩ : ∃ m, m = -(c + 1) := ⟨_, rfl⟩
   have e2 : IntKind.i64.wrap (-(c + 1)) = m := by rw [hm]; exact IntWalk.i64_in _ (by omega)
   rw [<- hm] at hp
   have e3 : m.tmod n = k := hp.symm
   have e4 : IntKind.i64.wrap k = k := IntWalk.i64_in _ (by omega)
   clear hp hm hk hb hc hn
   go_enter Tryz.func30, Tryz.ntmps30
   go_wp2_with fail
   go_ret
   exact ⟨rfl, Below.refl _ _⟩
 case neg =>
   have hp : pk7 c n = c.tmod n := by unfold pk7; rw [if_neg h0]
   obtain ⟨k, hk⟩ : ∃ k, k = pk7 c n := ⟨_, rfl⟩
   rw [<- hk] at hp hb ⊢
   have e3 : c.tmod n = k := hp.symm
   have e4 : IntKind.i64.wrap k = k := IntWalk.i64_in _ (by omega)
   clear hp hk hb hc hn
   go_enter Tryz.func30, Tryz.ntmps30
   go_wp2_with fail
   go_ret
   exact ⟨rfl, Below.refl _ _⟩
set_option maxRecDepth 100000 in
set_option maxHeartbeats 8000000 in
theorem at_any (x y : Int) (w : World) : Yl 16 #[.int .i64 x, .int .i64 y] w (.agg #[.int .i64 x, .int .i64 y]) := by
 have Z_0 : Hid (Blk (w.alloc (.cells #[.int .i64 0, .int .i64 0] 31)) w.heap.size 31 #[.int .i64 0, .int .i64 0]) := allocs_blk [(#[.int .i64 0, .int .i64 0], 31)] w 0 _ rfl
 have HB_0 : Hid (Below w.heap.size w (w.alloc (.cells #[.int .i64 0, .int .i64 0] 31))) := allocs_below [(#[.int .i64 0, .int .i64 0], 31)] w (Below.refl w.heap.size w) (Nat.le_refl _)
 go_enter Tryz.func16, Tryz.ntmps16
 have z0 := Z_0.out.cell (i := 0) (v := .int .i64 0) rfl; have z1 := Z_0.out.cell (i := 1) (v := .int .i64 0) rfl; have f0 := Z_0.out.frozen 0; have f1 := Z_0.out.frozen 1
 go_wp2_with fail
 exact bodyPost_ret (v := .agg #[.int .i64 x, .int .i64 y]) (by simp [results, Tryz.results16, go_sem]) rfl ⟨rfl, allocs_below [(#[.int .i64 x, .int .i64 y], 31)] w (Below.refl w.heap.size w) (Nat.le_refl _)⟩
theorem rof_yes (n d : Int) (w : World) (h1 : I64 n) (h2 : I64 d) (h3 : d ≠ 0) : Yl 45 #[.int .i64 n, .int .i64 d] w (.tuple #[.agg #[.string (fn7 n d), .string (fd7 n d)], .int .i64 0]) := by
 have h := rof_any n d w h1 h2
 rw [show ofR n d = some (red n d) from if_neg h3] at h
 exact h
set_option maxRecDepth 100000 in
set_option maxHeartbeats 8000000 in
theorem ratio_yes (n d : Int) (w : World) (h1 : I64 n) (h2 : I64 d) (h3 : d ≠ 0) : Yl 22 #[.int .i64 n, .int .i64 d] w (.agg #[.string (fn7 n d), .string (fd7 n d)]) := by
 have HC := Lib.hid (fun W => rof_yes n d W h1 h2 h3)
 generalize fn7 n d = a at *
 generalize fd7 n d = b at *
 clear h1 h2 h3
 have Z_0 : Hid (Blk (w.alloc (.cells #[.string ⟨#[]⟩, .string ⟨#[]⟩] 48)) w.heap.size 48 #[.string ⟨#[]⟩, .string ⟨#[]⟩]) := allocs_blk [(#[.string ⟨#[]⟩, .string ⟨#[]⟩], 48)] w 0 _ rfl
 have HB_0 : Hid (Below w.heap.size w (w.alloc (.cells #[.string ⟨#[]⟩, .string ⟨#[]⟩] 48))) := allocs_below [(#[.string ⟨#[]⟩, .string ⟨#[]⟩], 48)] w (Below.refl w.heap.size w) (Nat.le_refl _)
 go_enter Tryz.func22, Tryz.ntmps22
 go_wp2_with fail
 refine (HC.out _).mono ?_
 rintro e v0 ⟨rfl, hb⟩
 have Z_1 : Hid (Blk (v0.alloc (.cells #[.string a, .string b] 48)) w.heap.size 48 #[.string ⟨#[]⟩, .string ⟨#[]⟩]) := Lib.hid (allocs_keep [(#[.string a, .string b], 48)] _ (Z_0.out.below hb Z_0.out.lt))
 have HB_1 : Hid (Below w.heap.size w (v0.alloc (.cells #[.string a, .string b] 48))) := Lib.hid (allocs_below [(#[.string a, .string b], 48)] _ (HB_0.out.trans (hb.mono HB_0.out.size)) (HB_0.out.trans (hb.mono HB_0.out.size)).size)
 have N_1 : Hid (Blk (v0.alloc (.cells #[.string a, .string b] 48)) v0.heap.size 48 #[.string a, .string b]) := Lib.hid (allocs_blk [(#[.string a, .string b], 48)] v0 0 _ rfl)
 clear hb Z_0 HB_0
 have yy0 := N_1.out.cell (i := 0) (v := .string a) rfl; have yy1 := N_1.out.cell (i := 1) (v := .string b) rfl
 have r0 := Z_1.out.cell (i := 0) (v := .string ⟨#[]⟩) rfl; have f0 := Z_1.out.frozen 0
 have r1 := Z_1.out.cell (i := 1) (v := .string ⟨#[]⟩) rfl; have f1 := Z_1.out.frozen 1
 go_wp2_with fail
 clear r0 f0 r1 f1
 have HFZ := Lib.hid ((Z_1.out.set 0 (.string a)).set 1 (.string b))
 have rZ0 := HFZ.out.cell (i := 0) (v := .string a) rfl
 have rZ1 := HFZ.out.cell (i := 1) (v := .string b) rfl
 exact bodyPost_ret (v := .agg #[.string a, .string b]) (by simp [results, Tryz.results22, go_sem, rZ0, rZ1]) rfl ⟨rfl, ((HB_1.out.setCell (p := ⟨w.heap.size, 0, none⟩) (by show w.heap.size <= w.heap.size; omega) (.string a)).setCell (p := ⟨w.heap.size, 1, none⟩) (by show w.heap.size <= w.heap.size; omega) (.string b))⟩
def plc7 (x y : Int) : P7 := ⟨pk7 x 40, pk7 y 40⟩
theorem plc7_in (x y : Int) : (0 <= (plc7 x y).x /\ (plc7 x y).x <= 39) /\ (0 <= (plc7 x y).y /\ (plc7 x y).y <= 39) := by
 have h1 := pk7_in x (n := 40) (by omega); have h2 := pk7_in y (n := 40) (by omega)
 unfold plc7; simp only; omega
set_option maxRecDepth 100000 in
set_option maxHeartbeats 8000000 in
theorem rplace7_any (x y : Int) (w : World) (hx : I64 x) (hy : I64 y) : Yl 15 #[.agg #[.int .i64 x, .int .i64 y]] w (p7v (plc7 x y)) := by
 have HP1 := Lib.hid (fun W => rpick7_any x 40 W hx (by omega)); have HP2 := Lib.hid (fun W => rpick7_any y 40 W hy (by omega))
 show Yl _ _ w (.agg #[.int .i64 (pk7 x 40), .int .i64 (pk7 y 40)])
 generalize pk7 x 40 = a at *
 generalize pk7 y 40 = b at *
 clear hx hy
 have S_0 : Hid (Blk ((w.alloc (.cells #[.int .i64 x, .int .i64 y] 37)).alloc (.cells #[.int .i64 0, .int .i64 0] 31)) w.heap.size 37 #[.int .i64 x, .int .i64 y]) := allocs_blk [(#[.int .i64 x, .int .i64 y], 37), (#[.int .i64 0, .int .i64 0], 31)] w 0 _ rfl
 have Z_0 : Hid (Blk ((w.alloc (.cells #[.int .i64 x, .int .i64 y] 37)).alloc (.cells #[.int .i64 0, .int .i64 0] 31)) (w.heap.size + 1) 31 #[.int .i64 0, .int .i64 0]) := allocs_blk [(#[.int .i64 x, .int .i64 y], 37), (#[.int .i64 0, .int .i64 0], 31)] w 1 _ rfl
 have HB_0 : Hid (Below w.heap.size w ((w.alloc (.cells #[.int .i64 x, .int .i64 y] 37)).alloc (.cells #[.int .i64 0, .int .i64 0] 31))) := allocs_below [(#[.int .i64 x, .int .i64 y], 37), (#[.int .i64 0, .int .i64 0], 31)] w (Below.refl w.heap.size w) (Nat.le_refl _)
 go_enter Tryz.func15, Tryz.ntmps15
 go_wp2_with fail
 refine wp_region_grow (S := (fun w' => w'.cell? ⟨w.heap.size, 0, none⟩ = some (.int .i64 x) /\ w'.cell? ⟨w.heap.size, 1, none⟩ = some (.int .i64 y))) ((fun w' => ((Below w.heap.size w w') /\ Blk w' w.heap.size 37 #[.int .i64 x, .int .i64 y]) /\ Blk w' (w.heap.size + 1) 31 #[.int .i64 0, .int .i64 0])) (by kernel_rfl) (⟨fun w2 h2 => ⟨h2.1.2.cell (i := 0) (v := .int .i64 x) rfl, h2.1.2.cell (i := 1) (v := .int .i64 y) rfl⟩, fun w2 w3 h2 hb2 => ⟨⟨h2.1.1.trans (hb2.mono h2.1.1.size), h2.1.2.below hb2 h2.1.2.lt⟩, h2.2.below hb2 h2.2.lt⟩⟩) (⟨⟨HB_0.out.drew, S_0.out.drew⟩, Z_0.out.drew⟩) (fun hCalm => ?_)
 refine grow_take 0 (some 3) ?_ rfl rfl (by kernel_rfl) (fun _ _ _ h => h) (by kernel_rfl) hCalm ?_ ?_
 rotate_left
 · intro wS hS; (try dsimp only at hS); go_simp <;> with_reducible rfl
 try simp only [Act.put, q8a, q8b, q8c]
 refine grow_take 1 (some 4) ?_ rfl rfl (by kernel_rfl) (fun _ _ _ h => h) (by kernel_rfl) hCalm ?_ ?_
 rotate_left
 · intro wS hS; (try dsimp only at hS); go_simp <;> with_reducible rfl
 try simp only [Act.put, q8a, q8b, q8c]
 refine grow_take 3 (some 6) ?_ rfl rfl (by kernel_rfl) (fun _ _ _ h => h) (by kernel_rfl) hCalm ?_ ?_
 rotate_left
 · intro wS hS; (try dsimp only at hS); go_simp <;> with_reducible rfl
 try simp only [Act.put, q8a, q8b, q8c]
 refine grow_take 4 (some 7) ?_ rfl rfl (by kernel_rfl) (fun _ _ _ h => h) (by kernel_rfl) hCalm ?_ ?_
 rotate_left
 · intro wS hS; (try dsimp only at hS); go_simp <;> with_reducible rfl
 try simp only [Act.put, q8a, q8b, q8c]
 refine grow_call 2 (some 5) (.int .i64 a) 30 [.tmp 4, .const (Go.Value.int Go.IntKind.i64 40)] #[3, 3] rfl rfl (by kernel_rfl) (fun _ _ _ h => h) (by kernel_rfl) hCalm rfl (enters_of Tryz.func30 (by kernel_rfl) rfl) (fun wz _ => HP1.out wz) (by kernel_rfl) ?_
 try simp only [Act.put, q8a, q8b, q8c]
 refine grow_call 5 (some 8) (.int .i64 b) 30 [.tmp 7, .const (Go.Value.int Go.IntKind.i64 40)] #[3, 3] rfl rfl (by kernel_rfl) (fun _ _ _ h => h) (by kernel_rfl) hCalm rfl (enters_of Tryz.func30 (by kernel_rfl) rfl) (fun wz _ => HP2.out wz) (by kernel_rfl) ?_
 try simp only [Act.put, q8a, q8b, q8c]
 refine grow_take 6 (some 9) ?_ rfl rfl (by kernel_rfl) (fun _ _ _ h => h) (by kernel_rfl) hCalm ?_ ?_
 rotate_left
 · intro wS hS; (try dsimp only at hS); go_simp <;> with_reducible rfl
 try simp only [Act.put, q8a, q8b, q8c]
 refine grow_each [7] (by kernel_rfl) (by decide) ?_
 refine grow_cons 7 rfl (by kernel_rfl) (fun wA hA K hK => ?_) grow_nil
 have z0 := hA.2.cell (i := 0) (v := .int .i64 0) rfl; have f0 := hA.2.frozen 0
 have z1 := hA.2.cell (i := 1) (v := .int .i64 0) rfl; have f1 := hA.2.frozen 1
 go_simp
 clear hCalm; refine grow_put hK (fun w' => ((Below w.heap.size w w') /\ Blk w' w.heap.size 37 #[.int .i64 x, .int .i64 y]) /\ Blk w' (w.heap.size + 1) 31 #[(.int .i64 a), (.int .i64 b)]) ⟨fun w2 h2 => ⟨h2.1.2.cell (i := 0) (v := .int .i64 x) rfl, h2.1.2.cell (i := 1) (v := .int .i64 y) rfl⟩, fun w2 w3 h2 hb2 => ⟨⟨h2.1.1.trans (hb2.mono h2.1.1.size), h2.1.2.below hb2 h2.1.2.lt⟩, h2.2.below hb2 h2.2.lt⟩⟩ ⟨⟨((hA.1.1.setCell (p := ⟨(w.heap.size + 1), 0, none⟩) (by show w.heap.size <= (w.heap.size + 1); omega) _).setCell (p := ⟨(w.heap.size + 1), 1, none⟩) (by show w.heap.size <= (w.heap.size + 1); omega) _), ((hA.1.2.far (p := ⟨(w.heap.size + 1), 0, none⟩) (by show w.heap.size ≠ (w.heap.size + 1); omega) _).far (p := ⟨(w.heap.size + 1), 1, none⟩) (by show w.heap.size ≠ (w.heap.size + 1); omega) _)⟩, ((hA.2.set 0 _).set 1 _)⟩ (fun hCalm => ?_)
 clear z0 f0 z1 f1 hK K hA wA
 try simp only [Act.put]
 refine grow_done (by kernel_rfl) (fun wA hA => ?_) _
 have HZ := Lib.hid hA.2; have HB9 := Lib.hid hA.1.1
 clear hA hCalm
 have r0 := HZ.out.cell (i := 0) (v := .int .i64 a) rfl; have r1 := HZ.out.cell (i := 1) (v := .int .i64 b) rfl
 go_wp2_with fail
 exact bodyPost_ret (v := .agg #[.int .i64 a, .int .i64 b]) (by simp [results, Tryz.results15, go_sem, r0, r1]) rfl ⟨rfl, HB9.out⟩
set_option maxRecDepth 100000 in
set_option maxHeartbeats 8000000 in
theorem samep_yes (l : List P7) (A B : Option Addr) (c d : Nat) (w : World) (hA : Pz w A l) (hB0 : Pz w B l) (hz : l.length <= 9223372036854775806) : Yl 9 #[.slice A l.length c, .slice B l.length d] w (.bool true) := by
 have HA := Lib.hid hA; have HBB := Lib.hid hB0; clear hA hB0
 go_enter Tryz.func9, Tryz.ntmps9
 go_wp2_with fail
 go_loopw [5] (fun ii wr => ∃ i : Nat, ii = .int .i64 i /\ i <= l.length /\ Below w.heap.size w wr) (fun ii _ => l.length - (intOf ii).toNat)
 case atStart => exact ⟨0, rfl, Nat.zero_le _, Below.refl _ _⟩
 case round =>
   obtain ⟨i, rfl, hi, hB⟩ := hrel
   have HB := Lib.hid hB; clear hB
   by_cases hlt : i < l.length
   case neg =>
     obtain rfl : i = l.length := by omega
     clear hlt hi
     go_wp2_with fail
     go_ret
     exact ⟨rfl, HB.out⟩
   case pos =>
     obtain ⟨b, o, rfl⟩ := HA.out.some (by omega)
     obtain ⟨b2, o2, rfl⟩ := HBB.out.some (by omega)
     have HK : Hid (∀ W, Below w.heap.size w W -> W.cell? ⟨b, o + i * 2, none⟩ = some (.int .i64 l[i].x) /\ W.cell? ⟨b, o + i * 2 + 1, none⟩ = some (.int .i64 l[i].y)) := Lib.hid (fun W hW => Pz.cell HA.out hW (Nat.le_refl _) hlt)
     have HK2 : Hid (∀ W, Below w.heap.size w W -> W.cell? ⟨b2, o2 + i * 2, none⟩ = some (.int .i64 l[i].x) /\ W.cell? ⟨b2, o2 + i * 2 + 1, none⟩ = some (.int .i64 l[i].y)) := Lib.hid (fun W hW => Pz.cell HBB.out hW (Nat.le_refl _) hlt)
     obtain ⟨d, hd⟩ : ∃ d, d = l[i] := ⟨_, rfl⟩
     rw [<- hd] at HK HK2
     have q1 : (0 : Int) <= (i : Int) := by omega
     have q2 : (i : Int) < (l.length : Int) := by omega
     have q5 : (i : Int) <= 9223372036854775806 := by omega
     have HI := Lib.hid hlt
     clear hd hlt hi
     go_wp2_with fail
     refine wp_region_grow (S := (fun w' => w'.cell? ⟨b, o + i * 2, none⟩ = some (.int .i64 d.x) /\ w'.cell? ⟨b, o + i * 2 + 1, none⟩ = some (.int .i64 d.y) /\ w'.cell? ⟨b2, o2 + i * 2, none⟩ = some (.int .i64 d.x) /\ w'.cell? ⟨b2, o2 + i * 2 + 1, none⟩ = some (.int .i64 d.y))) ((fun w' => Below wr.heap.size wr w')) (by kernel_rfl) (⟨fun w2 h2 => ⟨(HK.out _ (HB.out.trans (h2.mono HB.out.size))).1, (HK.out _ (HB.out.trans (h2.mono HB.out.size))).2, (HK2.out _ (HB.out.trans (h2.mono HB.out.size))).1, (HK2.out _ (HB.out.trans (h2.mono HB.out.size))).2⟩, fun w2 w3 h2 hb2 => h2.trans (hb2.mono h2.size)⟩) ((Below.refl _ _).drew) (fun hCalm => ?_)
     refine grow_take 0 (some 17) ?_ rfl rfl (by kernel_rfl) (fun _ _ _ h => h) (by kernel_rfl) hCalm ?_ ?_
     rotate_left
     · intro wS hS; (try dsimp only at hS); go_simp <;> with_reducible rfl
     try simp only [Act.put, q8a, q8b, q8c]
     refine grow_take 1 (some 18) ?_ rfl rfl (by kernel_rfl) (fun _ _ _ h => h) (by kernel_rfl) hCalm ?_ ?_
     rotate_left
     · intro wS hS; (try dsimp only at hS); go_simp <;> with_reducible rfl
     try simp only [Act.put, q8a, q8b, q8c]
     refine grow_take 2 (some 19) ?_ rfl rfl (by kernel_rfl) (fun _ _ _ h => h) (by kernel_rfl) hCalm ?_ ?_
     rotate_left
     · intro wS hS; (try dsimp only at hS); go_simp <;> with_reducible rfl
     try simp only [Act.put, q8a, q8b, q8c]
     refine grow_take 3 (some 20) ?_ rfl rfl (by kernel_rfl) (fun _ _ _ h => h) (by kernel_rfl) hCalm ?_ ?_
     rotate_left
     · intro wS hS; (try dsimp only at hS); go_simp <;> with_reducible rfl
     try simp only [Act.put, q8a, q8b, q8c]
     refine grow_take 4 (some 21) ?_ rfl rfl (by kernel_rfl) (fun _ _ _ h => h) (by kernel_rfl) hCalm ?_ ?_
     rotate_left
     · intro wS hS; (try dsimp only at hS); go_simp <;> with_reducible rfl
     try simp only [Act.put, q8a, q8b, q8c]
     refine grow_take 5 (some 22) ?_ rfl rfl (by kernel_rfl) (fun _ _ _ h => h) (by kernel_rfl) hCalm ?_ ?_
     rotate_left
     · intro wS hS; (try dsimp only at hS); go_simp <;> with_reducible rfl
     try simp only [Act.put, q8a, q8b, q8c]
     refine grow_take 6 (some 23) ?_ rfl rfl (by kernel_rfl) (fun _ _ _ h => h) (by kernel_rfl) hCalm ?_ ?_
     rotate_left
     · intro wS hS; (try dsimp only at hS); go_simp <;> with_reducible rfl
     try simp only [Act.put, q8a, q8b, q8c]
     refine grow_take 7 (some 24) ?_ rfl rfl (by kernel_rfl) (fun _ _ _ h => h) (by kernel_rfl) hCalm ?_ ?_
     rotate_left
     · intro wS hS; (try dsimp only at hS); go_simp <;> with_reducible rfl
     try simp only [Act.put, q8a, q8b, q8c]
     refine grow_take 8 (some 25) (.bool false) rfl rfl (by kernel_rfl) (fun _ _ _ h => h) (by kernel_rfl) hCalm ?_ ?_
     · intro wS hS; (try dsimp only at hS); go_simp
       all_goals simp
     try simp only [Act.put, q8a, q8b, q8c]
     refine grow_done (by kernel_rfl) (fun wA hA => ?_) _
     have HB3 := Lib.hid (HB.out.trans (hA.mono HB.out.size))
     clear hA hCalm
     go_wp2_with fail
     go_roundw
     case rel => exact ⟨i + 1, by go_num, HI.out, HB3.out⟩
     case measure => have := HI.out; simp [intOf]; omega
end Go.Proofs.YtpjbihfkedbenaaGreat
