/- The contracts of the reference's Valid, Make and Of. Conditions: the strings' lengths are ints. | The contracts of the reference's Make and Of. Conditions: the strings' lengths are ints. | The contracts of the reference's pick, Of and Small. Conditions: ints. | The contract of the reference's Long. Conditions: ints. -/
import Derived.Deep.CutRange
import Derived.Deep.RegionHeld3
import Derived.Test.YtgokpdidhpogdaaGreatGF
import Derived.Test.YtgokpdidhpogdaaGreatGJ
namespace Go.Proofs.YtgokpdidhpogdaaGreat
open Go.RowKit Go.Lib

set_option maxRecDepth 100000 in
set_option maxHeartbeats 1000000 in
theorem rvalid_any (a b : ByteArray) (w : World) (ha : a.size ≤ 9000000000000000000) (hb : b.size ≤ 9000000000000000000) :
    Calls Tryz.prog 23 #[fV a b] w fun e w' => e = .returned (.bool (rdQ a.data.toList b.data.toList).isSome) ∧ Below w.heap.size w w' := by
  have hb0 : Below w.heap.size w (w.alloc (.cells #[.string a, .string b] 23)) := (Below.refl _ _).alloc (Nat.le_refl _) _
  have hn := Blk.new w 23 #[.string a, .string b]
  have hva := fun W => qvalid_any a W ha
  have hvb := fun W => qvalid_any b W hb
  have HB := Lib.hid hb0
  have hc0 : ∀ W, Below (w.heap.size + 1) (w.alloc (.cells #[.string a, .string b] 23)) W → W.cell? ⟨w.heap.size, 0, none⟩ = some (.string a) ∧ W.cell? ⟨w.heap.size, 1, none⟩ = some (.string b) := fun W hW => ⟨(hn.below hW (by omega)).cell (i := 0) rfl, (hn.below hW (by omega)).cell (i := 1) rfl⟩
  have HN := Lib.hid hc0
  cases hx : rd a.data.toList with
  | none =>
    rw [rdQ_no1 hx]
    rw [valid_no hx] at hva
    obtain ⟨vb, hvb2⟩ : ∃ v, v = validB b.data.toList := ⟨_, rfl⟩
    rw [← hvb2] at hvb
    have HVA := Lib.hid hva; have HVB := Lib.hid hvb
    clear hva hvb hn hb0 hx ha hb hvb2 hc0
    unfold fV
    go_enter Tryz.func23, Tryz.ntmps23
    go_wp2_with fail
    refine (HVA.out _).mono ?_
    rintro e w1 ⟨rfl, k, rfl⟩
    go_wp2_with fail
    refine (HVB.out _).mono ?_
    rintro e w1 ⟨rfl, k2, rfl⟩
    go_wp2_with fail
    go_ret
    exact ⟨rfl, below_drewN HB.out _⟩
  | some n =>
    rw [valid_yes hx] at hva
    cases hy : rd b.data.toList with
    | none =>
      rw [rdQ_no2 hy]
      rw [valid_no hy] at hvb
      have HVA := Lib.hid hva; have HVB := Lib.hid hvb
      clear hva hvb hn hb0 hx hy ha hb hc0
      unfold fV
      go_enter Tryz.func23, Tryz.ntmps23
      go_wp2_with fail
      refine (HVA.out _).mono ?_
      rintro e w1 ⟨rfl, k, rfl⟩
      go_wp2_with fail
      refine (HVB.out _).mono ?_
      rintro e w1 ⟨rfl, k2, rfl⟩
      go_wp2_with fail
      go_ret
      exact ⟨rfl, below_drewN HB.out _⟩
    | some d =>
      rw [valid_yes hy] at hvb
      have hcm := fun w => qcompare_any b ⟨#[48]⟩ w hb (by decide)
      rw [show cmpR b.data.toList (⟨#[48]⟩ : ByteArray).data.toList = ordI d 0 from cmpR_yes hy rd_48] at hcm
      have hg := fun w => qgcd_any a b w ha hb
      rw [opR_yes hx hy] at hg
      rw [rdQ_yes hx hy]
      have hd9 := (rd_some hy).2.1
      have HVA := Lib.hid hva; have HVB := Lib.hid hvb
      by_cases hd : 0 < d
      · rw [ordI_gt hd] at hcm
        rw [lim_some (gcd_lim (by omega) hd9)] at hg
        obtain ⟨g, hgg⟩ : ∃ g, g = ((Nat.gcd n.natAbs d.natAbs : Nat) : Int) := ⟨_, rfl⟩
        rw [← hgg] at hg
        have HC := Lib.hid hcm; have HG := Lib.hid hg
        have hres : ∀ v, v = decide (g = 1) → (if Low n d then some (n, d) else none).isSome = v := fun v hv => by
          by_cases h1 : g = 1
          · rw [if_pos ⟨hd, by omega⟩, hv]; simp [h1]
          · rw [if_neg (fun h => h1 (by rw [hgg, h.2]; rfl)), hv]; simp [h1]
        clear hva hvb hn hb0 hx hy ha hb hcm hg
        by_cases h1 : g = 1
        · have hq := is1_of g true (by simp [h1])
          rw [hres true (by simp [h1])]
          clear hres hd h1 hgg hd9 hc0
          unfold fV
          go_enter Tryz.func23, Tryz.ntmps23
          go_wp2_with fail
          refine (HVA.out _).mono ?_
          rintro e w1 ⟨rfl, k, rfl⟩
          go_wp2_with fail
          refine (HVB.out _).mono ?_
          rintro e w1 ⟨rfl, k2, rfl⟩
          go_wp2_with fail
          refine (HC.out _).mono ?_
          rintro e w1 ⟨rfl, hb1⟩
          obtain ⟨c0, c1⟩ := HN.out w1 (by
            have h1 := hb1
            refine Below.trans (b := w.alloc (.cells #[.string a, .string b] 23)) (Below.refl _ _) ?_
            have h2 := below_drewN (Below.refl (w.heap.size + 1) (w.alloc (.cells #[.string a, .string b] 23))) (k + k2)
            exact h2.trans (h1.mono (by simp [World.drewN])))
          have HB1 := Lib.hid ((below_drewN HB.out (k + k2)).trans (hb1.mono HB.out.size))
          clear hb1
          unfold OutO okS okE at HG
          go_wp2_with fail
          refine (HG.out _).mono ?_
          rintro e w2 ⟨rfl, hb2⟩
          go_wp2_with fail
          go_ret
          exact ⟨rfl, HB1.out.trans (hb2.mono HB1.out.size)⟩
        · have hq := is1_of g false (by simp [h1])
          rw [hres false (by simp [h1])]
          clear hres hd h1 hgg hd9 hc0
          unfold fV
          go_enter Tryz.func23, Tryz.ntmps23
          go_wp2_with fail
          refine (HVA.out _).mono ?_
          rintro e w1 ⟨rfl, k, rfl⟩
          go_wp2_with fail
          refine (HVB.out _).mono ?_
          rintro e w1 ⟨rfl, k2, rfl⟩
          go_wp2_with fail
          refine (HC.out _).mono ?_
          rintro e w1 ⟨rfl, hb1⟩
          obtain ⟨c0, c1⟩ := HN.out w1 (by
            have h1 := hb1
            refine Below.trans (b := w.alloc (.cells #[.string a, .string b] 23)) (Below.refl _ _) ?_
            have h2 := below_drewN (Below.refl (w.heap.size + 1) (w.alloc (.cells #[.string a, .string b] 23))) (k + k2)
            exact h2.trans (h1.mono (by simp [World.drewN])))
          have HB1 := Lib.hid ((below_drewN HB.out (k + k2)).trans (hb1.mono HB.out.size))
          clear hb1
          unfold OutO okS okE at HG
          go_wp2_with fail
          refine (HG.out _).mono ?_
          rintro e w2 ⟨rfl, hb2⟩
          go_wp2_with fail
          go_ret
          exact ⟨rfl, HB1.out.trans (hb2.mono HB1.out.size)⟩
      · have ho : ∃ o, ordI d 0 = o ∧ (o = 0 ∨ o = -1) := ⟨_, rfl, by rcases Int.lt_or_eq_of_le (Int.not_lt.1 hd) with h | h; exact .inr (ordI_lt h); exact .inl (ordI_eq h)⟩
        obtain ⟨o, ho1, ho2⟩ := ho
        rw [ho1] at hcm
        have HC := Lib.hid hcm
        rw [if_neg (fun h => hd h.1)]
        clear hva hvb hn hb0 hx hy ha hb hcm hg ho1 hd hd9 hc0
        rcases ho2 with rfl | rfl
        all_goals
          unfold fV
          go_enter Tryz.func23, Tryz.ntmps23
          go_wp2_with fail
          refine (HVA.out _).mono ?_
          rintro e w1 ⟨rfl, k, rfl⟩
          go_wp2_with fail
          refine (HVB.out _).mono ?_
          rintro e w1 ⟨rfl, k2, rfl⟩
          go_wp2_with fail
          refine (HC.out _).mono ?_
          rintro e w1 ⟨rfl, hb1⟩
          go_wp2_with fail
          go_ret
          exact ⟨rfl, (below_drewN HB.out _).trans (hb1.mono HB.out.size)⟩
end Go.Proofs.YtgokpdidhpogdaaGreat
namespace Go.Proofs.YtgokpdidhpogdaaGreat
open Go.RowKit Go.Lib

set_option maxRecDepth 100000 in
set_option maxHeartbeats 4000000 in
theorem rmake_any (a b : ByteArray) (w : World) (ha : a.size ≤ 9000000000000000000) (hb : b.size ≤ 9000000000000000000) :
    Calls Tryz.prog 21 #[.string a, .string b] w (OutFr (mkR a.data.toList b.data.toList) w) := by
  have hR := Blk.new w 23 #[.string ⟨#[]⟩, .string ⟨#[]⟩]
  have hb0 : Below w.heap.size w (w.alloc (.cells #[.string ⟨#[]⟩, .string ⟨#[]⟩] 23)) := (Below.refl _ _).alloc (Nat.le_refl _) _
  have hva := fun W => qvalid_any a W ha
  have hvb := fun W => qvalid_any b W hb
  have HR := Lib.hid hR; have HB := Lib.hid hb0
  clear hR hb0
  cases hx : rd a.data.toList with
  | none =>
    rw [mkR_no1 hx]
    rw [valid_no hx] at hva
    obtain ⟨vb, hvb2⟩ : ∃ v, v = validB b.data.toList := ⟨_, rfl⟩
    rw [← hvb2] at hvb
    have HVA := Lib.hid hva; have HVB := Lib.hid hvb
    clear hva hvb hx ha hb hvb2
    go_enter Tryz.func21, Tryz.ntmps21
    go_wp2_with fail
    refine (HVA.out _).mono ?_
    rintro e w1 ⟨rfl, k, rfl⟩
    go_wp2_with fail
    refine (HVB.out _).mono ?_
    rintro e w1 ⟨rfl, k2, rfl⟩
    have HRK := Lib.hid (HR.out.drewN (k + k2)); have HBK := Lib.hid (below_drewN HB.out (k + k2))
    have x0 := HRK.out.cell (i := 0) (v := .string ⟨#[]⟩) rfl; have x1 := HRK.out.cell (i := 1) (v := .string ⟨#[]⟩) rfl
    have f0 := HRK.out.frozen 0; have f1 := HRK.out.frozen 1
    go_wp2_with fail
    obtain ⟨r0, r1⟩ := HRK.out.two (u := .string ⟨#[]⟩) (v := .string ⟨#[]⟩)
    exact bodyPost_ret (v := .tuple #[.agg #[.string ⟨#[]⟩, .string ⟨#[]⟩], .int .i64 40]) (by simp [results, Tryz.results21, go_sem, r0, r1]) rfl ⟨rfl, (HBK.out.setCell (p := ⟨w.heap.size, 0, none⟩) (Nat.le_refl _) _).setCell (p := ⟨w.heap.size, 1, none⟩) (Nat.le_refl _) _⟩
  | some n =>
    rw [valid_yes hx] at hva
    cases hy : rd b.data.toList with
    | none =>
      rw [mkR_no2 hy]
      rw [valid_no hy] at hvb
      have HVA := Lib.hid hva; have HVB := Lib.hid hvb
      clear hva hvb hx hy ha hb
      go_enter Tryz.func21, Tryz.ntmps21
      go_wp2_with fail
      refine (HVA.out _).mono ?_
      rintro e w1 ⟨rfl, k, rfl⟩
      go_wp2_with fail
      refine (HVB.out _).mono ?_
      rintro e w1 ⟨rfl, k2, rfl⟩
      have HRK := Lib.hid (HR.out.drewN (k + k2)); have HBK := Lib.hid (below_drewN HB.out (k + k2))
      have x0 := HRK.out.cell (i := 0) (v := .string ⟨#[]⟩) rfl; have x1 := HRK.out.cell (i := 1) (v := .string ⟨#[]⟩) rfl
      have f0 := HRK.out.frozen 0; have f1 := HRK.out.frozen 1
      go_wp2_with fail
      obtain ⟨r0, r1⟩ := HRK.out.two (u := .string ⟨#[]⟩) (v := .string ⟨#[]⟩)
      exact bodyPost_ret (v := .tuple #[.agg #[.string ⟨#[]⟩, .string ⟨#[]⟩], .int .i64 40]) (by simp [results, Tryz.results21, go_sem, r0, r1]) rfl ⟨rfl, (HBK.out.setCell (p := ⟨w.heap.size, 0, none⟩) (Nat.le_refl _) _).setCell (p := ⟨w.heap.size, 1, none⟩) (Nat.le_refl _) _⟩
    | some d =>
      rw [valid_yes hy] at hvb
      have e1 := bs_of_rd hx; have e2 := bs_of_rd hy
      have hn9 := (rd_some hx).2.1; have hd9 := (rd_some hy).2.1
      subst e1 e2
      have HVA := Lib.hid hva; have HVB := Lib.hid hvb
      by_cases h0 : d = 0
      · have k0 := is0_z d true (by simp [h0])
        rw [mkR_zero (by rw [hy, h0])]
        clear hva hvb hx hy ha hb hn9 hd9 h0
        go_enter Tryz.func21, Tryz.ntmps21
        go_wp2_with fail
        refine (HVA.out _).mono ?_
        rintro e w1 ⟨rfl, k, rfl⟩
        go_wp2_with fail
        refine (HVB.out _).mono ?_
        rintro e w1 ⟨rfl, k2, rfl⟩
        have HRK := Lib.hid (HR.out.drewN (k + k2)); have HBK := Lib.hid (below_drewN HB.out (k + k2))
        have x0 := HRK.out.cell (i := 0) (v := .string ⟨#[]⟩) rfl; have x1 := HRK.out.cell (i := 1) (v := .string ⟨#[]⟩) rfl
        have f0 := HRK.out.frozen 0; have f1 := HRK.out.frozen 1
        go_wp2_with fail
        obtain ⟨r0, r1⟩ := HRK.out.two (u := .string ⟨#[]⟩) (v := .string ⟨#[]⟩)
        exact bodyPost_ret (v := .tuple #[.agg #[.string ⟨#[]⟩, .string ⟨#[]⟩], .int .i64 40]) (by simp [results, Tryz.results21, go_sem, r0, r1]) rfl ⟨rfl, (HBK.out.setCell (p := ⟨w.heap.size, 0, none⟩) (Nat.le_refl _) _).setCell (p := ⟨w.heap.size, 1, none⟩) (Nat.le_refl _) _⟩
      · have k0 := is0_z d false (by simp [h0])
        rw [mkR_yes hx hy h0]
        have hcm := fun w => qcompare_any (zS d) ⟨#[48]⟩ w hb (by decide)
        rw [show cmpR (zS d).data.toList (⟨#[48]⟩ : ByteArray).data.toList = ordI d 0 from cmpR_yes hy rd_48] at hcm
        obtain ⟨g, hg⟩ : ∃ g, g = ((Nat.gcd n.natAbs d.natAbs : Nat) : Int) := ⟨_, rfl⟩
        have hgp := @gpos n d h0
        have hg9 : g.natAbs < 10 ^ 200 := by rw [hg]; exact gcd_lim h0 hd9
        obtain ⟨zn, hzn⟩ : ∃ z, z = (red n d).1 := ⟨_, rfl⟩
        obtain ⟨zd, hzd⟩ : ∃ z, z = (red n d).2 := ⟨_, rfl⟩
        have HZN := Lib.hid hzn; have HZD := Lib.hid hzd
        have hrr : red n d = (zn, zd) := Prod.ext hzn.symm hzd.symm
        have HRR := Lib.hid hrr
        rcases Int.lt_or_gt_of_ne h0 with hd | hd
        · rw [ordI_lt hd] at hcm
          have hsN := fun W => qsub_any ⟨#[48]⟩ (zS n) W (by decide) ha
          have hsD := fun W => qsub_any ⟨#[48]⟩ (zS d) W (by decide) hb
          rw [opR_yes rd_48 hx, lim_some (by omega)] at hsN
          rw [opR_yes rd_48 hy, lim_some (by omega)] at hsD
          simp only [Int.zero_sub] at hsN hsD
          have hN : rd (zS (-n)).data.toList = some (-n) := zS_rd (by omega)
          have hD : rd (zS (-d)).data.toList = some (-d) := zS_rd (by omega)
          have hG := fun W => qgcd_any (zS (-n)) (zS (-d)) W (zs (-n) (-d) (by omega) (by omega)).1 (zs (-n) (-d) (by omega) (by omega)).2
          rw [opR_yes hN hD, Int.natAbs_neg, Int.natAbs_neg, ← hg, lim_some hg9] at hG
          have hQ1 := fun W => qdiv_any (zS (-n)) (zS g) W (zs (-n) g (by omega) hg9).1 (zs (-n) g (by omega) hg9).2
          have hQ2 := fun W => qdiv_any (zS (-d)) (zS g) W (zs (-d) g (by omega) hg9).1 (zs (-d) g (by omega) hg9).2
          rw [divR_yes hN (zS_rd hg9) (by omega)] at hQ1
          rw [divR_yes hD (zS_rd hg9) (by omega)] at hQ2
          have hs : sgcd n d = -g := by unfold sgcd; rw [if_pos hd, hg]
          have hdv := @sgcd_dvd n d
          rw [hs] at hdv
          have q1 : -n / g = zn := by rw [Int.neg_ediv_of_dvd ((Int.neg_dvd).1 hdv.1), ← Int.ediv_neg, ← hs, hzn]; rfl
          have q2 : -d / g = zd := by rw [Int.neg_ediv_of_dvd ((Int.neg_dvd).1 hdv.2), ← Int.ediv_neg, ← hs, hzd]; rfl
          rw [q1] at hQ1
          rw [q2] at hQ2
          obtain ⟨m1, hm1⟩ : ∃ m, m = -n % g := ⟨_, rfl⟩
          obtain ⟨m2, hm2⟩ : ∃ m, m = -d % g := ⟨_, rfl⟩
          rw [← hm1] at hQ1
          rw [← hm2] at hQ2
          unfold OutO okS okE at hsN hsD hG
          unfold OutDP at hQ1 hQ2
          have HC := Lib.hid hcm; have HSN := Lib.hid hsN; have HSD := Lib.hid hsD; have HG := Lib.hid hG; have HQ1 := Lib.hid hQ1; have HQ2 := Lib.hid hQ2
          rw [hrr]
          clear hva hvb hcm hsN hsD hG hQ1 hQ2 hN hD q1 q2 hm1 hm2 hs hdv hd hzn hzd hrr hg hgp hg9 hx hy ha hb hn9 hd9 h0
          go_enter Tryz.func21, Tryz.ntmps21
          go_wp2_with fail
          refine (HVA.out _).mono ?_
          rintro e w1 ⟨rfl, k, rfl⟩
          go_wp2_with fail
          refine (HVB.out _).mono ?_
          rintro e w1 ⟨rfl, k2, rfl⟩
          have HRK := Lib.hid (HR.out.drewN (k + k2)); have HBK := Lib.hid (below_drewN HB.out (k + k2))
          go_wp2_with fail
          refine (HC.out _).mono ?_
          rintro e w3 ⟨rfl, hb3⟩
          have hr3 := HRK.out.below hb3 HRK.out.lt
          have hbk3 := HBK.out.trans (hb3.mono HBK.out.size)
          clear HRK HBK
          have HRK := Lib.hid hr3; have HBK := Lib.hid hbk3
          clear hr3 hbk3 hb3
          go_wp2_with fail
          refine (HSN.out _).mono ?_
          rintro e w4 ⟨rfl, hb4⟩
          have hr4 := HRK.out.below hb4 HRK.out.lt
          have hbk4 := HBK.out.trans (hb4.mono HBK.out.size)
          clear HRK HBK
          have HRK := Lib.hid hr4; have HBK := Lib.hid hbk4
          clear hr4 hbk4 hb4
          go_wp2_with fail
          refine (HSD.out _).mono ?_
          rintro e w5 ⟨rfl, hb5⟩
          have hr5 := HRK.out.below hb5 HRK.out.lt
          have hbk5 := HBK.out.trans (hb5.mono HBK.out.size)
          clear HRK HBK
          have HRK := Lib.hid hr5; have HBK := Lib.hid hbk5
          clear hr5 hbk5 hb5
          go_wp2_with fail
          refine (HG.out _).mono ?_
          rintro e w6 ⟨rfl, hb6⟩
          have hr6 := HRK.out.below hb6 HRK.out.lt
          have hbk6 := HBK.out.trans (hb6.mono HBK.out.size)
          clear HRK HBK
          have HRK := Lib.hid hr6; have HBK := Lib.hid hbk6
          clear hr6 hbk6 hb6
          go_wp2_with fail
          refine (HQ1.out _).mono ?_
          rintro e w7 ⟨rfl, hb7⟩
          have hr7 := HRK.out.below hb7 HRK.out.lt
          have hbk7 := HBK.out.trans (hb7.mono HBK.out.size)
          clear HRK HBK
          have HRK := Lib.hid hr7; have HBK := Lib.hid hbk7
          clear hr7 hbk7 hb7
          go_wp2_with fail
          refine (HQ2.out _).mono ?_
          rintro e w8 ⟨rfl, hb8⟩
          have hr8 := HRK.out.below hb8 HRK.out.lt
          have hbk8 := HBK.out.trans (hb8.mono HBK.out.size)
          clear HRK HBK
          have HRK := Lib.hid hr8; have HBK := Lib.hid hbk8
          clear hr8 hbk8 hb8
          have x0 := HRK.out.cell (i := 0) (v := .string ⟨#[]⟩) rfl; have x1 := HRK.out.cell (i := 1) (v := .string ⟨#[]⟩) rfl
          have f0 := HRK.out.frozen 0; have f1 := HRK.out.frozen 1
          go_wp2_with fail
          obtain ⟨r0, r1⟩ := HRK.out.two (u := .string (zS zn)) (v := .string (zS zd))
          exact bodyPost_ret (v := .tuple #[.agg #[.string (zS zn), .string (zS zd)], .int .i64 0]) (by simp [results, Tryz.results21, go_sem, r0, r1]) rfl ⟨by rw [HZN.out, HZD.out]; rfl, (HBK.out.setCell (p := ⟨w.heap.size, 0, none⟩) (Nat.le_refl _) _).setCell (p := ⟨w.heap.size, 1, none⟩) (Nat.le_refl _) _⟩
        · rw [ordI_gt hd] at hcm
          have hG := fun W => qgcd_any (zS n) (zS d) W ha hb
          rw [opR_yes hx hy, ← hg, lim_some hg9] at hG
          have hQ1 := fun W => qdiv_any (zS n) (zS g) W ha (zs n g hn9 hg9).2
          have hQ2 := fun W => qdiv_any (zS d) (zS g) W hb (zs d g hd9 hg9).2
          rw [divR_yes hx (zS_rd hg9) (by omega)] at hQ1
          rw [divR_yes hy (zS_rd hg9) (by omega)] at hQ2
          have hs : sgcd n d = g := by rw [sgcd_pos hd, hg]
          have q1 : n / g = zn := by rw [← hs, hzn]; rfl
          have q2 : d / g = zd := by rw [← hs, hzd]; rfl
          rw [q1] at hQ1
          rw [q2] at hQ2
          obtain ⟨m1, hm1⟩ : ∃ m, m = n % g := ⟨_, rfl⟩
          obtain ⟨m2, hm2⟩ : ∃ m, m = d % g := ⟨_, rfl⟩
          rw [← hm1] at hQ1
          rw [← hm2] at hQ2
          unfold OutO okS okE at hG
          unfold OutDP at hQ1 hQ2
          have HC := Lib.hid hcm; have HG := Lib.hid hG; have HQ1 := Lib.hid hQ1; have HQ2 := Lib.hid hQ2
          rw [hrr]
          clear hva hvb hcm hG hQ1 hQ2 q1 q2 hm1 hm2 hs hd hzn hzd hrr hg hgp hg9 hx hy ha hb hn9 hd9 h0
          go_enter Tryz.func21, Tryz.ntmps21
          go_wp2_with fail
          refine (HVA.out _).mono ?_
          rintro e w1 ⟨rfl, k, rfl⟩
          go_wp2_with fail
          refine (HVB.out _).mono ?_
          rintro e w1 ⟨rfl, k2, rfl⟩
          have HRK := Lib.hid (HR.out.drewN (k + k2)); have HBK := Lib.hid (below_drewN HB.out (k + k2))
          go_wp2_with fail
          refine (HC.out _).mono ?_
          rintro e w3 ⟨rfl, hb3⟩
          have hr3 := HRK.out.below hb3 HRK.out.lt
          have hbk3 := HBK.out.trans (hb3.mono HBK.out.size)
          clear HRK HBK
          have HRK := Lib.hid hr3; have HBK := Lib.hid hbk3
          clear hr3 hbk3 hb3
          go_wp2_with fail
          refine (HG.out _).mono ?_
          rintro e w6 ⟨rfl, hb6⟩
          have hr6 := HRK.out.below hb6 HRK.out.lt
          have hbk6 := HBK.out.trans (hb6.mono HBK.out.size)
          clear HRK HBK
          have HRK := Lib.hid hr6; have HBK := Lib.hid hbk6
          clear hr6 hbk6 hb6
          go_wp2_with fail
          refine (HQ1.out _).mono ?_
          rintro e w7 ⟨rfl, hb7⟩
          have hr7 := HRK.out.below hb7 HRK.out.lt
          have hbk7 := HBK.out.trans (hb7.mono HBK.out.size)
          clear HRK HBK
          have HRK := Lib.hid hr7; have HBK := Lib.hid hbk7
          clear hr7 hbk7 hb7
          go_wp2_with fail
          refine (HQ2.out _).mono ?_
          rintro e w8 ⟨rfl, hb8⟩
          have hr8 := HRK.out.below hb8 HRK.out.lt
          have hbk8 := HBK.out.trans (hb8.mono HBK.out.size)
          clear HRK HBK
          have HRK := Lib.hid hr8; have HBK := Lib.hid hbk8
          clear hr8 hbk8 hb8
          have x0 := HRK.out.cell (i := 0) (v := .string ⟨#[]⟩) rfl; have x1 := HRK.out.cell (i := 1) (v := .string ⟨#[]⟩) rfl
          have f0 := HRK.out.frozen 0; have f1 := HRK.out.frozen 1
          go_wp2_with fail
          obtain ⟨r0, r1⟩ := HRK.out.two (u := .string (zS zn)) (v := .string (zS zd))
          exact bodyPost_ret (v := .tuple #[.agg #[.string (zS zn), .string (zS zd)], .int .i64 0]) (by simp [results, Tryz.results21, go_sem, r0, r1]) rfl ⟨by rw [HZN.out, HZD.out]; rfl, (HBK.out.setCell (p := ⟨w.heap.size, 0, none⟩) (Nat.le_refl _) _).setCell (p := ⟨w.heap.size, 1, none⟩) (Nat.le_refl _) _⟩
end Go.Proofs.YtgokpdidhpogdaaGreat
namespace Go.Proofs.YtgokpdidhpogdaaGreat
open Go.RowKit Go.Lib

set_option maxRecDepth 100000 in
theorem rpick_any (c n : Int) (w : World) (hc0 : -9223372036854775808 ≤ c ∧ c ≤ 9223372036854775807) (hn : 0 < n ∧ n ≤ 9223372036854775807) :
    Calls Tryz.prog 31 #[.int .i64 c, .int .i64 n] w fun e w' => ∃ k : Nat, (k : Int) < n ∧ e = .returned (.int .i64 (k : Nat)) ∧ w = w' := by
  obtain ⟨c0, c1⟩ := hc0
  obtain ⟨n0, n1⟩ := hn
  obtain ⟨k, hk⟩ : ∃ k : Nat, (k : Int) = (if c < 0 then -(c + 1) else c) % n := ⟨((if c < 0 then -(c + 1) else c) % n).toNat, by
    have := Int.emod_nonneg (if c < 0 then -(c + 1) else c) (show n ≠ 0 by omega); omega⟩
  have hk2 : (k : Int) < n := by
    have := Int.emod_lt_of_pos (if c < 0 then -(c + 1) else c) n0; omega
  have HK2 := Lib.hid hk2
  have hnz : (n == 0) = false := by rw [beq_eq_false_iff_ne]; omega
  have hn1 : (n == -1) = false := by rw [beq_eq_false_iff_ne]; omega
  by_cases h : c < 0
  · rw [if_pos h] at hk
    have h2 : (-(c + 1)).tmod n = (k : Int) := by rw [Int.tmod_eq_emod_of_nonneg (by omega), hk]
    have h3 : -((c + 1).tmod n) = (k : Int) := by rw [← Int.neg_tmod]; exact h2
    have HK := Lib.hid h3
    clear hk hk2 h2 h3
    go_enter Tryz.func31, Tryz.ntmps31
    go_wp2
    go_ret
    exact ⟨k, HK2.out, ret_int HK.out, rfl⟩
  · rw [if_neg h] at hk
    have HK := Lib.hid hk
    clear hk hk2
    go_enter Tryz.func31, Tryz.ntmps31
    go_wp2
    go_ret
    exact ⟨k, HK2.out, ret_int HK.out.symm, rfl⟩
set_option maxRecDepth 100000 in
theorem rof_any (n d : Int) (w : World) (h1 : -9223372036854775808 ≤ n ∧ n ≤ 9223372036854775807) (h2 : -9223372036854775808 ≤ d ∧ d ≤ 9223372036854775807) :
    Calls Tryz.prog 25 #[.int .i64 n, .int .i64 d] w (OutFr (ofR n d) w) := by
  have b1 : n.natAbs < 10 ^ 200 := Nat.lt_of_lt_of_le (show n.natAbs < 10 ^ 20 by omega) (Nat.pow_le_pow_right (by omega) (by omega))
  have b2 : d.natAbs < 10 ^ 200 := Nat.lt_of_lt_of_le (show d.natAbs < 10 ^ 20 by omega) (Nat.pow_le_pow_right (by omega) (by omega))
  have hm := fun W => rmake_any (zS n) (zS d) W (zs n d b1 b2).1 (zs n d b1 b2).2
  rw [mkR_of b1 b2] at hm
  have hbw : Below w.heap.size w (w.alloc (.cells #[.string ⟨#[]⟩, .string ⟨#[]⟩] 23)) := (Below.refl _ _).alloc (Nat.le_refl _) _
  have hR := Blk.new w 23 #[.string ⟨#[]⟩, .string ⟨#[]⟩]
  obtain ⟨r, hr⟩ : ∃ r, r = ofR n d := ⟨_, rfl⟩
  rw [← hr] at hm ⊢
  have hf := fun (n : Int) h1 h2 W => qfrom_any n W h1 h2
  have HF1 := Lib.hid (hf n h1.1 h1.2); have HF2 := Lib.hid (hf d h2.1 h2.2)
  unfold OutFr fV at hm
  have HM := Lib.hid hm; have HR := Lib.hid hR; have HB := Lib.hid hbw
  clear hm hR hbw hr hf b1 b2
  go_enter Tryz.func25, Tryz.ntmps25
  go_wp2_with fail
  refine (HF1.out _).mono ?_
  rintro e w1 ⟨rfl, hb1⟩
  have HB1 := Lib.hid hb1
  clear hb1
  go_wp2_with fail
  refine (HF2.out _).mono ?_
  rintro e w2 ⟨rfl, hb2⟩
  have HB2 := Lib.hid (HB1.out.trans (hb2.mono HB1.out.size))
  clear hb2
  go_wp2_with fail
  refine (HM.out _).mono ?_
  rintro e w3 ⟨rfl, hb3⟩
  have hb := HB2.out.trans (hb3.mono HB2.out.size)
  have hR1 := HR.out.below hb HR.out.lt
  have x0 := hR1.cell (i := 0) rfl; have x1 := hR1.cell (i := 1) rfl
  have f0 := hR1.frozen 0; have f1 := hR1.frozen 1
  obtain ⟨r0, r1⟩ := hR1.two (u := .string (qN r)) (v := .string (qD r))
  have HO := Lib.hid (HB.out.trans (hb.mono HB.out.size))
  clear hb3 hb hR1
  go_wp2_with fail
  exact bodyPost_ret (v := .tuple #[.agg #[.string (qN r), .string (qD r)], .int .i64 (qE r)]) (by simp [results, Tryz.results25, go_sem, r0, r1]) rfl ⟨rfl, (HO.out.setCell (Nat.le_refl _) _).setCell (Nat.le_refl _) _⟩
/-- A fraction in lowest terms of at most so many digits has been returned. -/
def OutSm (k : Nat) (w : World) (e : Ending) (w' : World) : Prop := ∃ n d : Int, Low n d ∧ n.natAbs < 10 ^ k ∧ d.natAbs < 10 ^ k ∧ e = .returned (.agg #[.string (zS n), .string (zS d)]) ∧ Below w.heap.size w w'
set_option maxRecDepth 100000 in
set_option maxHeartbeats 2000000 in
theorem rsmall_any (i0 i1 : Int) (w : World) (h0 : -9223372036854775808 ≤ i0 ∧ i0 ≤ 9223372036854775807) (h1 : -9223372036854775808 ≤ i1 ∧ i1 ≤ 9223372036854775807) :
    Calls Tryz.prog 7 #[.agg #[.int .i64 i0, .int .i64 i1]] w (OutSm 3 w) := by
  obtain ⟨hA, hR, hB, hS⟩ := two_fresh w 25 23 #[.int .i64 i0, .int .i64 i1] #[.string ⟨#[]⟩, .string ⟨#[]⟩] _ rfl
  have HA := Lib.hid hA; have HR := Lib.hid hR; have HB := Lib.hid hB
  have P1 := Lib.hid (fun W => rpick_any i0 1999 W h0 (by omega))
  have P2 := Lib.hid (fun W => rpick_any i1 60 W h1 (by omega))
  have HOF : Hid (∀ k1 k2 : Nat, (k1 : Int) < 1999 → (k2 : Int) < 60 → ∀ W, Calls Tryz.prog 25 #[.int .i64 (IntKind.i64.wrap ((k1 : Int) - 999)), .int .i64 (IntKind.i64.wrap (1 + (k2 : Int)))] W fun e w' => ∃ n d : Int, Low n d ∧ n.natAbs < 10 ^ 3 ∧ d.natAbs < 10 ^ 3 ∧ e = .returned (.tuple #[.agg #[.string (zS n), .string (zS d)], .int .i64 0]) ∧ Below W.heap.size W w') := fun k1 k2 hk1 hk2 W => by
    have e1 : IntKind.i64.wrap ((k1 : Int) - 999) = (k1 : Int) - 999 := by rw [IntKind.wrap_i64]; omega
    have e2 : IntKind.i64.wrap (1 + (k2 : Int)) = 1 + (k2 : Int) := by rw [IntKind.wrap_i64]; omega
    rw [e1, e2]
    exact (rof_any ((k1 : Int) - 999) (1 + (k2 : Int)) W (by omega) (by omega)).mono fun e w' ⟨he, hb⟩ => by
      have hd : (1 + (k2 : Int)) ≠ 0 := by omega
      have hab := @red_abs ((k1 : Int) - 999) (1 + (k2 : Int)) hd
      refine ⟨_, _, red_low hd, Nat.lt_of_le_of_lt hab.1 (by omega), Nat.lt_of_le_of_lt hab.2 (by omega), ?_, hb⟩
      rw [he]; unfold ofR; rw [if_neg hd]; rfl
  have hs2 : ((w.alloc (.cells #[.int .i64 i0, .int .i64 i1] 25)).alloc (.cells #[.string ⟨#[]⟩, .string ⟨#[]⟩] 23)).heap.size = w.heap.size + 1 + 1 := hS
  have hc0 : ((w.alloc (.cells #[.int .i64 i0, .int .i64 i1] 25)).alloc (.cells #[.string ⟨#[]⟩, .string ⟨#[]⟩] 23)).cell? ⟨w.heap.size, 0, none⟩ = some (.int .i64 i0) := hA.cell (i := 0) rfl
  have hc1 : ((w.alloc (.cells #[.int .i64 i0, .int .i64 i1] 25)).alloc (.cells #[.string ⟨#[]⟩, .string ⟨#[]⟩] 23)).cell? ⟨w.heap.size, 1, none⟩ = some (.int .i64 i1) := hA.cell (i := 1) rfl
  have HK : Hid (∀ W, Below ((w.alloc (.cells #[.int .i64 i0, .int .i64 i1] 25)).alloc (.cells #[.string ⟨#[]⟩, .string ⟨#[]⟩] 23)).heap.size ((w.alloc (.cells #[.int .i64 i0, .int .i64 i1] 25)).alloc (.cells #[.string ⟨#[]⟩, .string ⟨#[]⟩] 23)) W → W.cell? ⟨w.heap.size, 0, none⟩ = some (.int .i64 i0) ∧ W.cell? ⟨w.heap.size, 1, none⟩ = some (.int .i64 i1)) := fun W hW => ⟨(hA.below hW (by omega)).cell (i := 0) rfl, (hA.below hW (by omega)).cell (i := 1) rfl⟩
  have HS2 := Lib.hid hs2
  clear hA hR hB hS hs2
  go_enter Tryz.func7, Tryz.ntmps7
  go_wp2_with fail
  go_cut [3, 4] from 5 to 16 (fun p _e wx => ∃ (n d : Int) (b : Nat), (Low n d ∧ n.natAbs < 10 ^ 3 ∧ d.natAbs < 10 ^ 3) ∧ p = .pointer (some ⟨b, 0, none⟩) ∧ Blk wx b 23 #[.string (zS n), .string (zS d)] ∧ Below ((w.alloc (.cells #[.int .i64 i0, .int .i64 i1] 25)).alloc (.cells #[.string ⟨#[]⟩, .string ⟨#[]⟩] 23)).heap.size ((w.alloc (.cells #[.int .i64 i0, .int .i64 i1] 25)).alloc (.cells #[.string ⟨#[]⟩, .string ⟨#[]⟩] 23)) wx)
  case first =>
    have hk0 := And.intro hc0 hc1
    go_region_held3 (fun w' => w'.cell? ⟨w.heap.size, 0, none⟩ = some (.int .i64 i0) ∧ w'.cell? ⟨w.heap.size, 1, none⟩ = some (.int .i64 i1)) (first | exact HK.out _ ((x6b.setCell (Nat.le_of_eq HS2.out) _).setCell (Nat.le_of_eq HS2.out) _) | exact HK.out _ (x6b.alloc x6b.size _) | exact HK.out _ x6b | exact hk0 | go_keep)
      (first
        | (go_at_call 31; (with_reducible refine (P1.out _).mono ?_); rintro e v ⟨k1, hk1, rfl, rfl⟩)
        | (go_at_call 31; (with_reducible refine (P2.out _).mono ?_); rintro e v ⟨k2, hk2, rfl, rfl⟩)
        | (go_at_call 25; (with_reducible refine (HOF.out k1 k2 hk1 hk2 _).mono ?_); rintro e w6 ⟨n, d, hl, hn9, hd9, rfl, h6⟩; have x6b : Below ((w.alloc (.cells #[.int .i64 i0, .int .i64 i1] 25)).alloc (.cells #[.string ⟨#[]⟩, .string ⟨#[]⟩] 23)).heap.size ((w.alloc (.cells #[.int .i64 i0, .int .i64 i1] 25)).alloc (.cells #[.string ⟨#[]⟩, .string ⟨#[]⟩] 23)) w6 := (Below.refl _ _).drew.trans h6)
        | (go_at_call 25; (with_reducible refine (HOF.out k1 k2 hk1 hk2 _).mono ?_); rintro e w6 ⟨n, d, hl, hn9, hd9, rfl, h6⟩; have x6b : Below ((w.alloc (.cells #[.int .i64 i0, .int .i64 i1] 25)).alloc (.cells #[.string ⟨#[]⟩, .string ⟨#[]⟩] 23)).heap.size ((w.alloc (.cells #[.int .i64 i0, .int .i64 i1] 25)).alloc (.cells #[.string ⟨#[]⟩, .string ⟨#[]⟩] 23)) w6 := ((Below.refl _ _).alloc (Nat.le_refl _) _).drew.trans (h6.mono (by simp)); have hz : Blk w6 (w.heap.size + 1 + 1) 23 #[.string ⟨#[]⟩, .string ⟨#[]⟩] := (by have h := ((Blk.new ((w.alloc (.cells #[.int .i64 i0, .int .i64 i1] 25)).alloc (.cells #[.string ⟨#[]⟩, .string ⟨#[]⟩] 23)) 23 #[.string ⟨#[]⟩, .string ⟨#[]⟩]).drew).below h6 (by simp); rw [HS2.out] at h; exact h); have z0 := hz.cell (i := 0) rfl; have z1 := hz.cell (i := 1) rfl; have f0 := hz.frozen 0; have f1 := hz.frozen 1))
    all_goals
      go_wp2_with fail
      go_meet
      first
        | exact ⟨n, d, _, ⟨hl, hn9, hd9⟩, rfl, (hz.set 0 (.string (zS n))).set 1 (.string (zS d)), (x6b.setCell (Nat.le_of_eq HS2.out) _).setCell (Nat.le_of_eq HS2.out) _⟩
        | exact ⟨n, d, _, ⟨hl, hn9, hd9⟩, rfl, Blk.new w6 _ _, x6b.alloc x6b.size _⟩
  case rest =>
    obtain ⟨n, d, b, hq, rfl, hbk, hcb⟩ := hcut
    have HQ := Lib.hid hq
    have hR1 := HR.out.below hcb HR.out.lt
    have y0 := hbk.cell (i := 0) (v := .string (zS n)) rfl; have y1 := hbk.cell (i := 1) (v := .string (zS d)) rfl
    have x0 := hR1.cell (i := 0) (v := .string ⟨#[]⟩) rfl; have x1 := hR1.cell (i := 1) (v := .string ⟨#[]⟩) rfl
    have f0 := hR1.frozen 0; have f1 := hR1.frozen 1
    obtain ⟨r0, r1⟩ := hR1.two (u := .string (zS n)) (v := .string (zS d))
    have HO := Lib.hid (HB.out.trans (hcb.mono HB.out.size))
    clear hq hbk hcb hR1 hc0 hc1
    go_wp2_with fail
    exact bodyPost_ret (v := .agg #[.string (zS n), .string (zS d)]) (by simp [results, Tryz.results7, go_sem, r0, r1]) rfl ⟨n, d, HQ.out.1, HQ.out.2.1, HQ.out.2.2, rfl, (HO.out.setCell (by show w.heap.size ≤ w.heap.size + 1; omega) _).setCell (by show w.heap.size ≤ w.heap.size + 1; omega) _⟩
end Go.Proofs.YtgokpdidhpogdaaGreat
namespace Go.Proofs.YtgokpdidhpogdaaGreat
open Go.RowKit Go.Lib

/-- Digits with no zero in front are an integer's text. -/
theorem digits_z {L : List UInt8} (hd : ∀ c ∈ L, IsD c) (h0 : 0 < L.length) (hz : L.length = 1 ∨ (L.head?).map UInt8.toNat ≠ some 48) : bs L = zS ((dval L : Nat) : Int) := by
  unfold zS bs
  congr 2
  cases L with
  | nil => exact absurd h0 (by simp)
  | cons c r =>
    by_cases hc : c.toNat = 48
    · have hr : r = [] := by
        rcases hz with h | h
        · simpa using h
        · exact absurd (by simp [hc]) h
      subst hr
      have : c = 48 := UInt8.toNat_inj.1 (show c.toNat = (48 : UInt8).toNat from hc)
      subst this
      decide +kernel
    · have h1 := dec10_of hd hc
      have h2 : dval (c :: r) ≠ 0 := by
        have hcd := hd c (by simp)
        unfold IsD at hcd
        rw [dval_cons]
        have : 0 < (c.toNat - 48) * 10 ^ r.length := Nat.mul_pos (by omega) (Nat.pow_pos (by omega))
        omega
      unfold zL
      rw [if_neg (by omega), if_neg (by omega), Int.natAbs_natCast, List.nil_append, h1]
/-- The text of a number of at most 100 digits. -/
def Num100 (s : ByteArray) : Prop := ∃ V : Nat, V < 10 ^ 100 ∧ s = zS (V : Int)
theorem num100_of {s : ByteArray} (h : 0 < s.size ∧ s.size ≤ 100) (hd : ∀ x ∈ s.data.toList, IsD x) (hz : s.size = 1 ∨ ∃ hp : 0 < s.size, s[0].toNat ≠ 48) : Num100 s := by
  refine ⟨dval s.data.toList, Nat.lt_of_lt_of_le (dval_lt hd) (Nat.pow_le_pow_right (by omega) (by rw [← size_eq]; exact h.2)), ?_⟩
  rw [← digits_z hd (by rw [← size_eq]; exact h.1) (hz.imp (fun h1 => by rw [← size_eq]; exact h1) (fun ⟨hp, h2⟩ h3 => ?_)), bs_self]
  cases hL : s.data.toList with
  | nil => rw [hL] at h3; cases h3
  | cons c r =>
    have h4 : s[0] = c := by
      have h5 : s[0] = s.data.toList[0]'(by rw [← size_eq]; exact hp) := rfl
      rw [h5]; simp [hL]
    rw [hL] at h3
    simp at h3
    rw [h4] at h2
    exact h2 h3
theorem neg_text {V : Nat} (h : 0 < V) : (⟨#[45]⟩ : ByteArray) ++ zS (V : Int) = zS (-(V : Int)) := by
  have h1 : ((⟨#[45]⟩ : ByteArray) ++ zS (V : Int)).data.toList = zL (-(V : Int)) := by
    rw [ByteArray.data_append, Array.toList_append, zS_list]
    unfold zL
    rw [if_neg (by omega), if_neg (by omega), if_neg (by omega), if_pos (by omega), Int.natAbs_neg]
    rfl
  rw [← bs_self ((⟨#[45]⟩ : ByteArray) ++ zS (V : Int)), h1]; rfl
/-- What Make answers within Long. -/
theorem long_make (n d : Int) (hn : n.natAbs < 10 ^ 100) (hd : d.natAbs < 10 ^ 100) (h0 : d ≠ 0) : ∃ q : Int × Int, (Low q.1 q.2 ∧ q.1.natAbs < 10 ^ 100 ∧ q.2.natAbs < 10 ^ 100) ∧
    ∀ W, Calls Tryz.prog 21 #[.string (zS n), .string (zS d)] W fun e w' => e = .returned (.tuple #[.agg #[.string (zS q.1), .string (zS q.2)], .int .i64 0]) ∧ Below W.heap.size W w' := by
  have hab := @red_abs n d h0
  have b1 := lt200 hn (by omega); have b2 := lt200 hd (by omega)
  refine ⟨red n d, ⟨red_low h0, Nat.lt_of_le_of_lt hab.1 hn, Nat.lt_of_le_of_lt hab.2 hd⟩, fun W => (rmake_any (zS n) (zS d) W (zs n d b1 b2).1 (zs n d b1 b2).2).mono fun e w' ⟨he, hb⟩ => ⟨?_, hb⟩⟩
  rw [he, mkR_of b1 b2]
  unfold ofR; rw [if_neg h0]; rfl
set_option maxRecDepth 100000 in
set_option maxHeartbeats 4000000 in
theorem rlong_any (i0 i1 i2 i3 : Int) (w : World) (h0 : -9223372036854775808 ≤ i0 ∧ i0 ≤ 9223372036854775807) (h1 : -9223372036854775808 ≤ i1 ∧ i1 ≤ 9223372036854775807) (h2 : -9223372036854775808 ≤ i2 ∧ i2 ≤ 9223372036854775807) (h3 : -9223372036854775808 ≤ i3 ∧ i3 ≤ 9223372036854775807) :
    Calls Tryz.prog 6 #[.agg #[.int .i64 i0, .int .i64 i1, .int .i64 i2, .int .i64 i3]] w (OutSm 100 w) := by
  have hA := allocs_blk [(#[.int .i64 i0, .int .i64 i1, .int .i64 i2, .int .i64 i3], 24), (#[.string ⟨#[]⟩, .string ⟨#[]⟩], 23), (#[.string ⟨#[]⟩, .string ⟨#[]⟩], 49)] w
  have hB := allocs_below [(#[.int .i64 i0, .int .i64 i1, .int .i64 i2, .int .i64 i3], 24), (#[.string ⟨#[]⟩, .string ⟨#[]⟩], 23), (#[.string ⟨#[]⟩, .string ⟨#[]⟩], 49)] w (Below.refl w.heap.size w) (Nat.le_refl _)
  have hx := hA 0 _ rfl; have hR := hA 1 _ rfl; have hO := hA 2 _ rfl
  clear hA
  have hin : ∀ k : Nat, k < 4 → ∃ i : Int, (-9223372036854775808 ≤ i ∧ i ≤ 9223372036854775807) ∧ (#[.int .i64 i0, .int .i64 i1, .int .i64 i2, .int .i64 i3] : Array Value)[k]? = some (.int .i64 i) := fun k hk => by
    match k, hk with
    | 0, _ => exact ⟨i0, h0, rfl⟩
    | 1, _ => exact ⟨i1, h1, rfl⟩
    | 2, _ => exact ⟨i2, h2, rfl⟩
    | 3, _ => exact ⟨i3, h3, rfl⟩
  have HX := Lib.hid hx; have HR := Lib.hid hR; have HO := Lib.hid hO; have HB := Lib.hid hB; have HIN := Lib.hid hin
  have P1 := Lib.hid (fun (i : Int) (h : -9223372036854775808 ≤ i ∧ i ≤ 9223372036854775807) (n : Int) (hn : 0 < n ∧ n ≤ 9223372036854775807) W => rpick_any i n W h hn)
  have HI0 := Lib.hid h0
  clear hx hR hO hB hin h0 h1 h2 h3
  go_enter Tryz.func6, Tryz.ntmps6
  go_wp2_with fail
  go_loopw [4] (fun kk wr => ∃ (k : Nat) (a b : ByteArray), kk = .int .i64 k ∧ k ≤ 2 ∧ (0 < k → Num100 a) ∧ (1 < k → Num100 b) ∧ Blk wr (w.heap.size + 2) 49 #[.string a, .string b] ∧ Blk wr w.heap.size 24 #[.int .i64 i0, .int .i64 i1, .int .i64 i2, .int .i64 i3] ∧ Blk wr (w.heap.size + 1) 23 #[.string ⟨#[]⟩, .string ⟨#[]⟩] ∧ Below w.heap.size w wr) (fun kk _ => 2 - (intOf kk).toNat)
  case atStart => exact ⟨0, _, _, rfl, Nat.zero_le _, fun h => absurd h (by omega), fun h => absurd h (by omega), HO.out, HX.out, HR.out, HB.out⟩
  case round =>
    obtain ⟨wo, rfl⟩ : ∃ x, x = wr := ⟨wr, rfl⟩
    obtain ⟨k, a, b, rfl, hk, na, nb, hO, hX, hR, hbl⟩ := hrel
    by_cases hlt : k < 2
    · obtain ⟨ip, hip, hcp⟩ := HIN.out (2 * k + 1) (by omega)
      obtain ⟨iq, hiq, hcq⟩ := HIN.out (2 * k) (by omega)
      have x0 := hX.cell hcp; have x1 := hX.cell hcq
      have Q1 := Lib.hid (fun W => P1.out ip hip 100 (by omega) W)
      have Q2 := Lib.hid (fun W => P1.out iq hiq 1000000007 (by omega) W)
      have HNA := Lib.hid na; have HNB := Lib.hid nb; have HO1 := Lib.hid hO; have HX1 := Lib.hid hX; have HR1 := Lib.hid hR; have HBL := Lib.hid hbl
      have hbs := hbl.size
      have q1 : (0 : Int) ≤ (k : Int) := by omega
      have q2 : (k : Int) < 2 := by omega
      clear na nb hO hX hR hbl hcp hcq hip hiq
      go_wp2_with fail
      refine (Q1.out _).mono ?_
      rintro e w1 ⟨n, hn, rfl, rfl⟩
      go_wp2_with fail
      refine (Q2.out _).mono ?_
      rintro e w1 ⟨c0, hc0, rfl, rfl⟩
      clear Q1 Q2
      go_wp2_with fail
      go_loopw [6, 7] (fun ss cc wq => ∃ (L : List UInt8) (c : Nat), ss = .string (bs L) ∧ cc = .int .i64 c ∧ c < 2147483647 ∧ Hid (L.length ≤ n + 1) ∧ Hid (∀ x ∈ L, IsD x) ∧ Below wo.heap.size wo wq) (fun ss _ _ => n + 1 - (match ss with | .string b => b.size | _ => 0))
      case atStart => exact ⟨[], c0, rfl, rfl, by omega, (by show 0 ≤ n + 1; omega), (fun x (hx : x ∈ ([] : List UInt8)) => absurd hx (by simp)), Below.refl _ _⟩
      case round =>
        obtain ⟨L, c, rfl, rfl, hc, HL, HD, hbq⟩ := hrel
        have hsz := bs_size L
        by_cases hlt2 : L.length < n + 1
        · have q3 : (L.length : Int) < 1 + (n : Int) := by omega
          have HLT := Lib.hid hlt2
          clear hlt2
          have e1 : ((c : Int) * 48271 + 11).tmod 2147483647 = (((c * 48271 + 11) % 2147483647 : Nat) : Int) := by
            rw [Int.tmod_eq_emod_of_nonneg (by omega)]; omega
          obtain ⟨c2, hc2⟩ : ∃ c2, c2 = (c * 48271 + 11) % 2147483647 := ⟨_, rfl⟩
          rw [← hc2] at e1
          have hc29 : c2 < 2147483647 := by rw [hc2]; exact Nat.mod_lt _ (by omega)
          obtain ⟨dg, hdg⟩ : ∃ d, d = c2 / 65536 % 10 := ⟨_, rfl⟩
          have hdg9 : dg < 10 := by rw [hdg]; exact Nat.mod_lt _ (by omega)
          have e2 : (c2 : Int) / 65536 % 10 = (dg : Int) := by rw [hdg]; omega
          have hcell : (wr.alloc (.cells #[.int .u8 (48 + (dg : Int))] 5)).cell? ⟨wr.heap.size, 0, none⟩ = some (.int .u8 (48 + (dg : Int))) := World.cell?_alloc_at _ _ _ _ rfl
          have hcv : (convert 50 9 (.slice (some ⟨wr.heap.size, 0, none⟩) 1 1)).run Tryz.prog (wr.alloc (.cells #[.int .u8 (48 + (dg : Int))] 5)) = .ok (.string ⟨#[dch dg]⟩) (wr.alloc (.cells #[.int .u8 (48 + (dg : Int))] 5)) := run_convert_bytes_back (P := Tryz.prog) (wr.alloc (.cells #[.int .u8 (48 + (dg : Int))] 5)) 50 9 5 ⟨wr.heap.size, 0, none⟩ 1 [dch dg] Tryz.underlying50 Tryz.underlying5 Tryz.underlying9 (fun j hj => by
            obtain rfl : j = 0 := by simpa using hj
            have ee : (⟨wr.heap.size, 0, none⟩ : Addr).add 0 = ⟨wr.heap.size, 0, none⟩ := rfl
            rw [ee, hcell, show ([dch dg] : List UInt8)[0] = dch dg from rfl, dch_nat hdg9]; simp)
          have happ : bs L ++ (⟨#[dch dg]⟩ : ByteArray) = bs (L ++ [dch dg]) := by
            have : (bs L ++ (⟨#[dch dg]⟩ : ByteArray)).data.toList = L ++ [dch dg] := by simp [bs, ByteArray.data_append]
            rw [← bs_self (bs L ++ (⟨#[dch dg]⟩ : ByteArray)), this]
          have HDG := Lib.hid hdg9
          clear hc2 hdg hcell
          go_wp2_with fail
          go_roundw
          case rel => exact ⟨L ++ [dch dg], c2, rfl, rfl, hc29, (by show (L ++ [dch dg]).length ≤ n + 1; rw [List.length_append]; exact HLT.out), (fun x (hx : x ∈ L ++ [dch dg]) => (by
            rcases List.mem_append.1 hx with h | h
            · exact HD.out x h
            · rw [List.mem_singleton.1 h]; exact dch_is HDG.out)), hbq.alloc hbq.size _⟩
          case measure => 
            have := HLT.out
            simp [bs_size]; omega
        · have hLn : L.length = n + 1 := by have := HL.out; omega
          have q3 : ¬ ((L.length : Int) < 1 + (n : Int)) := by omega
          have HL1 : Hid (0 < (bs L).size ∧ (bs L).size ≤ 100) := ⟨by rw [bs_size]; omega, by rw [bs_size]; omega⟩
          have HD1 : Hid (∀ x ∈ (bs L).data.toList, IsD x) := HD.out
          have HBQ := Lib.hid hbq
          have hbs := hbq.size
          clear hlt2 hLn HL HD hbq
          go_wp2_with fail
          clear hsz q3
          go_loopw [6] (fun ss wq => ∃ s : ByteArray, ss = .string s ∧ Hid (0 < s.size ∧ s.size ≤ 100) ∧ Hid (∀ x ∈ s.data.toList, IsD x) ∧ wr = wq) (fun ss _ => (match ss with | .string b => b.size | _ => 0))
          case atStart => exact ⟨_, rfl, HL1, HD1, rfl⟩
          case round =>
            obtain ⟨s, rfl, HS, HDS, rfl⟩ := hrel
            by_cases hc1 : s.size = 1
            · have q4 : ¬ ((1 : Int) < (s.size : Int)) := by omega
              have HNUM := Lib.hid (num100_of HS.out HDS.out (.inl hc1))
              clear hc1 HS HDS
              have hO2 := HO1.out.below HBQ.out HO1.out.lt
              have hX2 := HX1.out.below HBQ.out HX1.out.lt
              have hR2 := HR1.out.below HBQ.out HR1.out.lt
              obtain ⟨ov, hov⟩ : ∃ v, (#[.string a, .string b] : Array Value)[k]? = some v := by
                rcases Nat.lt_or_ge k 1 with h | h
                · obtain rfl : k = 0 := by omega
                  exact ⟨_, rfl⟩
                · obtain rfl : k = 1 := by omega
                  exact ⟨_, rfl⟩
              have o0 := hO2.cell hov; have f0 := hO2.frozen k
              have HO2 := Lib.hid (hO2.set k (.string s))
              have HX2 := Lib.hid (hX2.far (p := ⟨w.heap.size + 2, k, none⟩) (by show w.heap.size ≠ w.heap.size + 2; omega) (.string s))
              have HR2 := Lib.hid (hR2.far (p := ⟨w.heap.size + 2, k, none⟩) (by show w.heap.size + 1 ≠ w.heap.size + 2; omega) (.string s))
              have HB2 := Lib.hid ((HBL.out.trans (HBQ.out.mono HBL.out.size)).setCell (p := ⟨w.heap.size + 2, k, none⟩) (by show w.heap.size ≤ w.heap.size + 2; omega) (.string s))
              clear hO2 hX2 hR2 hov
              go_wp2_with fail
              go_roundw
              case rel =>
                rcases Nat.lt_or_ge k 1 with h | h
                · obtain rfl : k = 0 := by omega
                  exact ⟨1, s, b, rfl, by omega, fun _ => HNUM.out, fun h2 => absurd h2 (by omega), HO2.out, HX2.out, HR2.out, HB2.out⟩
                · obtain rfl : k = 1 := by omega
                  exact ⟨2, a, s, rfl, by omega, fun _ => HNA.out (by omega), fun _ => HNUM.out, HO2.out, HX2.out, HR2.out, HB2.out⟩
              case measure => simp [intOf]; omega
            · have hp0 : 0 < s.size := HS.out.1
              have q4 : (1 : Int) < (s.size : Int) := by omega
              have q5 : (0 : Int) < (s.size : Int) := by omega
              by_cases hz : s[0].toNat = 48
              · have h3 : ((s[0].toNat : Int) == 48) = true := by rw [hz]; rfl
                have hsl := fun w => run_slice_lo (P := Tryz.prog) 9 Tryz.underlying9 s (x := 1) 1 rfl (by omega) w
                have hex : (s.extract 1 s.size).data.toList = s.data.toList.tail := by
                  rw [extract_eq]
                  show (s.data.toList.drop 1).take (s.size - 1) = _
                  rw [List.take_of_length_le (by rw [List.length_drop, size_eq]; exact Nat.le_refl _), List.drop_one]
                have hes : (s.extract 1 s.size).size = s.size - 1 := by rw [size_eq, hex, List.length_tail, ← size_eq]
                obtain ⟨s2, hs2⟩ : ∃ s2, s2 = s.extract 1 s.size := ⟨_, rfl⟩
                rw [← hs2] at hex hes
                simp only [← hs2] at hsl
                have HS2 : Hid (0 < s2.size ∧ s2.size ≤ 100) := ⟨by omega, by have := HS.out.2; omega⟩
                have HD2 : Hid (∀ x ∈ s2.data.toList, IsD x) := fun x hx => HDS.out x (by rw [hex] at hx; exact List.mem_of_mem_tail hx)
                have HES := Lib.hid hes
                clear hs2 hex hes hz hc1
                go_wp2_with fail
                go_roundw
                case rel => exact ⟨s2, rfl, HS2, HD2, trivial⟩
                case measure => have := HES.out; have := HS.out.1; simp; omega
              · have h3 : ((s[0].toNat : Int) == 48) = false := by rw [beq_eq_false_iff_ne]; intro h4; exact hz (by omega)
                have HNUM := Lib.hid (num100_of HS.out HDS.out (.inr ⟨hp0, hz⟩))
                clear hz hc1 HS HDS
                have hO2 := HO1.out.below HBQ.out HO1.out.lt
                have hX2 := HX1.out.below HBQ.out HX1.out.lt
                have hR2 := HR1.out.below HBQ.out HR1.out.lt
                obtain ⟨ov, hov⟩ : ∃ v, (#[.string a, .string b] : Array Value)[k]? = some v := by
                  rcases Nat.lt_or_ge k 1 with h | h
                  · obtain rfl : k = 0 := by omega
                    exact ⟨_, rfl⟩
                  · obtain rfl : k = 1 := by omega
                    exact ⟨_, rfl⟩
                have o0 := hO2.cell hov; have f0 := hO2.frozen k
                have HO2 := Lib.hid (hO2.set k (.string s))
                have HX2 := Lib.hid (hX2.far (p := ⟨w.heap.size + 2, k, none⟩) (by show w.heap.size ≠ w.heap.size + 2; omega) (.string s))
                have HR2 := Lib.hid (hR2.far (p := ⟨w.heap.size + 2, k, none⟩) (by show w.heap.size + 1 ≠ w.heap.size + 2; omega) (.string s))
                have HB2 := Lib.hid ((HBL.out.trans (HBQ.out.mono HBL.out.size)).setCell (p := ⟨w.heap.size + 2, k, none⟩) (by show w.heap.size ≤ w.heap.size + 2; omega) (.string s))
                clear hO2 hX2 hR2 hov
                go_wp2_with fail
                go_roundw
                case rel =>
                  rcases Nat.lt_or_ge k 1 with h | h
                  · obtain rfl : k = 0 := by omega
                    exact ⟨1, s, b, rfl, by omega, fun _ => HNUM.out, fun h2 => absurd h2 (by omega), HO2.out, HX2.out, HR2.out, HB2.out⟩
                  · obtain rfl : k = 1 := by omega
                    exact ⟨2, a, s, rfl, by omega, fun _ => HNA.out (by omega), fun _ => HNUM.out, HO2.out, HX2.out, HR2.out, HB2.out⟩
                case measure => simp [intOf]; omega
    · obtain rfl : 2 = k := by omega
      obtain ⟨V, hV, rfl⟩ := na (by omega)
      obtain ⟨U, hU, rfl⟩ := nb (by omega)
      have HBL := Lib.hid hbl
      have x0 := hX.cell (i := 0) (v := .int .i64 i0) rfl
      have b1 := hO.cell (i := 1) (v := .string (zS (U : Int))) rfl
      have g1 := hO.frozen 1
      by_cases hU0 : U = 0
      · have k0 := is0_z (U : Int) true (by simp [hU0])
        clear hU0
        have hU0 := True.intro
        have h7 : (⟨#[55]⟩ : ByteArray) = zS 7 := (zS_lit (L := [55]) (by decide +kernel)).symm
        have HO1 := Lib.hid (hO.set 1 (.string (zS 7)))
        have x1 := (hX.far (p := ⟨w.heap.size + 2, 1, none⟩) (by show w.heap.size ≠ w.heap.size + 2; omega) (.string (zS 7))).cell (i := 0) (v := .int .i64 i0) rfl
        have HR1 := Lib.hid (hR.far (p := ⟨w.heap.size + 2, 1, none⟩) (by show w.heap.size + 1 ≠ w.heap.size + 2; omega) (.string (zS 7)))
        have HBL := Lib.hid (HBL.out.setCell (p := ⟨w.heap.size + 2, 1, none⟩) (by show w.heap.size ≤ w.heap.size + 2; omega) (.string (zS 7)))
        clear hO hX hR hbl na nb
        go_wp2_with fail
        refine (P1.out i0 HI0.out 2 (by omega) _).mono ?_
        rintro e w1 ⟨p, hp, rfl, rfl⟩
        have o0 := HO1.out.cell (i := 0) (v := .string (zS (V : Int))) rfl; have o1 := HO1.out.cell (i := 1) (v := .string (zS 7)) rfl
        have f0 := HO1.out.frozen 0
        by_cases hp0 : p = 0
        · subst hp0
          by_cases hV0 : V = 0
          · have k1 := is0_z (V : Int) true (by simp [hV0])
            have HB2 := HBL; have HR2 := HR1
            have HMK0 := long_make (V : Int) 7 (by omega) (by omega) (by omega)
            obtain ⟨q, hq, hmk⟩ := HMK0
            have HMK := Lib.hid hmk; have HQ := Lib.hid hq
            clear hq hmk
            clear hV0 hV hU0 hU
            go_wp2_with fail
            refine (HMK.out _).mono ?_
            rintro e w2 ⟨rfl, hb2⟩
            have hR3 := (HR2.out.below hb2 HR2.out.lt).alloc (.cells #[.string (zS q.1), .string (zS q.2)] 23)
            have x0 := hR3.cell (i := 0) (v := .string ⟨#[]⟩) rfl; have x1 := hR3.cell (i := 1) (v := .string ⟨#[]⟩) rfl
            have f0 := hR3.frozen 0; have f1 := hR3.frozen 1
            obtain ⟨r0, r1⟩ := hR3.two (u := .string (zS q.1)) (v := .string (zS q.2))
            have hbk := HB2.out.trans (hb2.mono HB2.out.size)
            have HO3 := Lib.hid (((hbk.alloc hbk.size (.cells #[.string (zS q.1), .string (zS q.2)] 23)).setCell (p := ⟨w.heap.size + 1, 0, none⟩) (by show w.heap.size ≤ w.heap.size + 1; omega) (.string (zS q.1))).setCell (p := ⟨w.heap.size + 1, 1, none⟩) (by show w.heap.size ≤ w.heap.size + 1; omega) (.string (zS q.2)))
            clear hb2 hR3 hbk
            go_wp2_with fail
            exact bodyPost_ret (v := .agg #[.string (zS q.1), .string (zS q.2)]) (by simp [results, Tryz.results6, go_sem, r0, r1]) rfl ⟨q.1, q.2, HQ.out.1, HQ.out.2.1, HQ.out.2.2, rfl, HO3.out⟩
          · have k1 := is0_z (V : Int) false (by simp [hV0])
            have hneg : (⟨#[45]⟩ : ByteArray) ++ zS (V : Int) = zS (-(V : Int)) := neg_text (by omega)
            have hsz := zS_small (z := (V : Int)) (by rw [Int.natAbs_natCast]; exact lt200 hV (by omega))
            have HO2 := Lib.hid (HO1.out.set 0 (.string (zS (-(V : Int)))))
            have o2 := HO2.out.cell (i := 0) (v := .string (zS (-(V : Int)))) rfl; have o3 := HO2.out.cell (i := 1) (v := .string (zS 7)) rfl
            have HR2 := Lib.hid (HR1.out.far (p := ⟨w.heap.size + 2, 0, none⟩) (by show w.heap.size + 1 ≠ w.heap.size + 2; omega) (.string (zS (-(V : Int)))))
            have HB2 := Lib.hid (HBL.out.setCell (p := ⟨w.heap.size + 2, 0, none⟩) (by show w.heap.size ≤ w.heap.size + 2; omega) (.string (zS (-(V : Int)))))
            have HMK0 := long_make (-(V : Int)) 7 (by omega) (by omega) (by omega)
            obtain ⟨q, hq, hmk⟩ := HMK0
            have HMK := Lib.hid hmk; have HQ := Lib.hid hq
            clear hq hmk
            clear hV0 hV hU0 hU
            go_wp2_with fail
            refine (HMK.out _).mono ?_
            rintro e w2 ⟨rfl, hb2⟩
            have hR3 := (HR2.out.below hb2 HR2.out.lt).alloc (.cells #[.string (zS q.1), .string (zS q.2)] 23)
            have x0 := hR3.cell (i := 0) (v := .string ⟨#[]⟩) rfl; have x1 := hR3.cell (i := 1) (v := .string ⟨#[]⟩) rfl
            have f0 := hR3.frozen 0; have f1 := hR3.frozen 1
            obtain ⟨r0, r1⟩ := hR3.two (u := .string (zS q.1)) (v := .string (zS q.2))
            have hbk := HB2.out.trans (hb2.mono HB2.out.size)
            have HO3 := Lib.hid (((hbk.alloc hbk.size (.cells #[.string (zS q.1), .string (zS q.2)] 23)).setCell (p := ⟨w.heap.size + 1, 0, none⟩) (by show w.heap.size ≤ w.heap.size + 1; omega) (.string (zS q.1))).setCell (p := ⟨w.heap.size + 1, 1, none⟩) (by show w.heap.size ≤ w.heap.size + 1; omega) (.string (zS q.2)))
            clear hb2 hR3 hbk
            go_wp2_with fail
            exact bodyPost_ret (v := .agg #[.string (zS q.1), .string (zS q.2)]) (by simp [results, Tryz.results6, go_sem, r0, r1]) rfl ⟨q.1, q.2, HQ.out.1, HQ.out.2.1, HQ.out.2.2, rfl, HO3.out⟩
        · have hp1 : p = 1 := by omega
          subst hp1
          have HB2 := HBL; have HR2 := HR1
          have HMK0 := long_make (V : Int) 7 (by omega) (by omega) (by omega)
          obtain ⟨q, hq, hmk⟩ := HMK0
          have HMK := Lib.hid hmk; have HQ := Lib.hid hq
          clear hq hmk
          clear hV hU0 hU
          go_wp2_with fail
          refine (HMK.out _).mono ?_
          rintro e w2 ⟨rfl, hb2⟩
          have hR3 := (HR2.out.below hb2 HR2.out.lt).alloc (.cells #[.string (zS q.1), .string (zS q.2)] 23)
          have x0 := hR3.cell (i := 0) (v := .string ⟨#[]⟩) rfl; have x1 := hR3.cell (i := 1) (v := .string ⟨#[]⟩) rfl
          have f0 := hR3.frozen 0; have f1 := hR3.frozen 1
          obtain ⟨r0, r1⟩ := hR3.two (u := .string (zS q.1)) (v := .string (zS q.2))
          have hbk := HB2.out.trans (hb2.mono HB2.out.size)
          have HO3 := Lib.hid (((hbk.alloc hbk.size (.cells #[.string (zS q.1), .string (zS q.2)] 23)).setCell (p := ⟨w.heap.size + 1, 0, none⟩) (by show w.heap.size ≤ w.heap.size + 1; omega) (.string (zS q.1))).setCell (p := ⟨w.heap.size + 1, 1, none⟩) (by show w.heap.size ≤ w.heap.size + 1; omega) (.string (zS q.2)))
          clear hb2 hR3 hbk
          go_wp2_with fail
          exact bodyPost_ret (v := .agg #[.string (zS q.1), .string (zS q.2)]) (by simp [results, Tryz.results6, go_sem, r0, r1]) rfl ⟨q.1, q.2, HQ.out.1, HQ.out.2.1, HQ.out.2.2, rfl, HO3.out⟩
      · have k0 := is0_z (U : Int) false (by simp [hU0])
        have HO1 := Lib.hid hO; have HR1 := Lib.hid hR
        clear hO hX hR hbl na nb
        go_wp2_with fail
        refine (P1.out i0 HI0.out 2 (by omega) _).mono ?_
        rintro e w1 ⟨p, hp, rfl, rfl⟩
        have o0 := HO1.out.cell (i := 0) (v := .string (zS (V : Int))) rfl; have o1 := HO1.out.cell (i := 1) (v := .string (zS (U : Int))) rfl
        have f0 := HO1.out.frozen 0
        by_cases hp0 : p = 0
        · subst hp0
          by_cases hV0 : V = 0
          · have k1 := is0_z (V : Int) true (by simp [hV0])
            have HB2 := HBL; have HR2 := HR1
            have HMK0 := long_make (V : Int) (U : Int) (by omega) (by omega) (by omega)
            obtain ⟨q, hq, hmk⟩ := HMK0
            have HMK := Lib.hid hmk; have HQ := Lib.hid hq
            clear hq hmk
            clear hV0 hV hU0 hU
            go_wp2_with fail
            refine (HMK.out _).mono ?_
            rintro e w2 ⟨rfl, hb2⟩
            have hR3 := (HR2.out.below hb2 HR2.out.lt).alloc (.cells #[.string (zS q.1), .string (zS q.2)] 23)
            have x0 := hR3.cell (i := 0) (v := .string ⟨#[]⟩) rfl; have x1 := hR3.cell (i := 1) (v := .string ⟨#[]⟩) rfl
            have f0 := hR3.frozen 0; have f1 := hR3.frozen 1
            obtain ⟨r0, r1⟩ := hR3.two (u := .string (zS q.1)) (v := .string (zS q.2))
            have hbk := HB2.out.trans (hb2.mono HB2.out.size)
            have HO3 := Lib.hid (((hbk.alloc hbk.size (.cells #[.string (zS q.1), .string (zS q.2)] 23)).setCell (p := ⟨w.heap.size + 1, 0, none⟩) (by show w.heap.size ≤ w.heap.size + 1; omega) (.string (zS q.1))).setCell (p := ⟨w.heap.size + 1, 1, none⟩) (by show w.heap.size ≤ w.heap.size + 1; omega) (.string (zS q.2)))
            clear hb2 hR3 hbk
            go_wp2_with fail
            exact bodyPost_ret (v := .agg #[.string (zS q.1), .string (zS q.2)]) (by simp [results, Tryz.results6, go_sem, r0, r1]) rfl ⟨q.1, q.2, HQ.out.1, HQ.out.2.1, HQ.out.2.2, rfl, HO3.out⟩
          · have k1 := is0_z (V : Int) false (by simp [hV0])
            have hneg : (⟨#[45]⟩ : ByteArray) ++ zS (V : Int) = zS (-(V : Int)) := neg_text (by omega)
            have hsz := zS_small (z := (V : Int)) (by rw [Int.natAbs_natCast]; exact lt200 hV (by omega))
            have HO2 := Lib.hid (HO1.out.set 0 (.string (zS (-(V : Int)))))
            have o2 := HO2.out.cell (i := 0) (v := .string (zS (-(V : Int)))) rfl; have o3 := HO2.out.cell (i := 1) (v := .string (zS (U : Int))) rfl
            have HR2 := Lib.hid (HR1.out.far (p := ⟨w.heap.size + 2, 0, none⟩) (by show w.heap.size + 1 ≠ w.heap.size + 2; omega) (.string (zS (-(V : Int)))))
            have HB2 := Lib.hid (HBL.out.setCell (p := ⟨w.heap.size + 2, 0, none⟩) (by show w.heap.size ≤ w.heap.size + 2; omega) (.string (zS (-(V : Int)))))
            have HMK0 := long_make (-(V : Int)) (U : Int) (by omega) (by omega) (by omega)
            obtain ⟨q, hq, hmk⟩ := HMK0
            have HMK := Lib.hid hmk; have HQ := Lib.hid hq
            clear hq hmk
            clear hV0 hV hU0 hU
            go_wp2_with fail
            refine (HMK.out _).mono ?_
            rintro e w2 ⟨rfl, hb2⟩
            have hR3 := (HR2.out.below hb2 HR2.out.lt).alloc (.cells #[.string (zS q.1), .string (zS q.2)] 23)
            have x0 := hR3.cell (i := 0) (v := .string ⟨#[]⟩) rfl; have x1 := hR3.cell (i := 1) (v := .string ⟨#[]⟩) rfl
            have f0 := hR3.frozen 0; have f1 := hR3.frozen 1
            obtain ⟨r0, r1⟩ := hR3.two (u := .string (zS q.1)) (v := .string (zS q.2))
            have hbk := HB2.out.trans (hb2.mono HB2.out.size)
            have HO3 := Lib.hid (((hbk.alloc hbk.size (.cells #[.string (zS q.1), .string (zS q.2)] 23)).setCell (p := ⟨w.heap.size + 1, 0, none⟩) (by show w.heap.size ≤ w.heap.size + 1; omega) (.string (zS q.1))).setCell (p := ⟨w.heap.size + 1, 1, none⟩) (by show w.heap.size ≤ w.heap.size + 1; omega) (.string (zS q.2)))
            clear hb2 hR3 hbk
            go_wp2_with fail
            exact bodyPost_ret (v := .agg #[.string (zS q.1), .string (zS q.2)]) (by simp [results, Tryz.results6, go_sem, r0, r1]) rfl ⟨q.1, q.2, HQ.out.1, HQ.out.2.1, HQ.out.2.2, rfl, HO3.out⟩
        · have hp1 : p = 1 := by omega
          subst hp1
          have HB2 := HBL; have HR2 := HR1
          have HMK0 := long_make (V : Int) (U : Int) (by omega) (by omega) (by omega)
          obtain ⟨q, hq, hmk⟩ := HMK0
          have HMK := Lib.hid hmk; have HQ := Lib.hid hq
          clear hq hmk
          clear hV hU0 hU
          go_wp2_with fail
          refine (HMK.out _).mono ?_
          rintro e w2 ⟨rfl, hb2⟩
          have hR3 := (HR2.out.below hb2 HR2.out.lt).alloc (.cells #[.string (zS q.1), .string (zS q.2)] 23)
          have x0 := hR3.cell (i := 0) (v := .string ⟨#[]⟩) rfl; have x1 := hR3.cell (i := 1) (v := .string ⟨#[]⟩) rfl
          have f0 := hR3.frozen 0; have f1 := hR3.frozen 1
          obtain ⟨r0, r1⟩ := hR3.two (u := .string (zS q.1)) (v := .string (zS q.2))
          have hbk := HB2.out.trans (hb2.mono HB2.out.size)
          have HO3 := Lib.hid (((hbk.alloc hbk.size (.cells #[.string (zS q.1), .string (zS q.2)] 23)).setCell (p := ⟨w.heap.size + 1, 0, none⟩) (by show w.heap.size ≤ w.heap.size + 1; omega) (.string (zS q.1))).setCell (p := ⟨w.heap.size + 1, 1, none⟩) (by show w.heap.size ≤ w.heap.size + 1; omega) (.string (zS q.2)))
          clear hb2 hR3 hbk
          go_wp2_with fail
          exact bodyPost_ret (v := .agg #[.string (zS q.1), .string (zS q.2)]) (by simp [results, Tryz.results6, go_sem, r0, r1]) rfl ⟨q.1, q.2, HQ.out.1, HQ.out.2.1, HQ.out.2.2, rfl, HO3.out⟩
end Go.Proofs.YtgokpdidhpogdaaGreat
