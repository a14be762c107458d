/- RationalOrder: the law's walk. Conditions: ints. -/
import Derived.Test.YtnacgdkihkfjkaaGN
namespace Go.Proofs.Ytnacgdkihkfjkaa
open Go.RowKit Go.Lib

theorem good_ne {n d m c : Int} (hp : Good (n, d)) (hq : Good (m, c)) (h : (n, d) ≠ (m, c)) : (((zS n).toList == (zS m).toList) && ((zS d).toList == (zS c).toList)) = false := by
  cases h1 : ((zS n).toList == (zS m).toList) with
  | false => rfl
  | true =>
    cases h2 : ((zS d).toList == (zS c).toList) with
    | false => rfl
    | true =>
      rw [beq_iff_eq, toList_data, toList_data] at h1 h2
      have e1 := zS_rd hp.2.1; have e2 := zS_rd hp.2.2
      rw [h1, zS_rd hq.2.1] at e1
      rw [h2, zS_rd hq.2.2] at e2
      exact absurd (Prod.ext (Option.some.inj e1).symm (Option.some.inj e2).symm) h
set_option maxRecDepth 100000 in
set_option maxHeartbeats 40000000 in
theorem order_law (i0 i1 i2 i3 j0 j1 j2 j3 k0 k1 k2 k3 s0 s1 : Int) (w : World) (hi0 : -9223372036854775808 ≤ i0 ∧ i0 ≤ 9223372036854775807) (hi1 : -9223372036854775808 ≤ i1 ∧ i1 ≤ 9223372036854775807) (hi2 : -9223372036854775808 ≤ i2 ∧ i2 ≤ 9223372036854775807) (hi3 : -9223372036854775808 ≤ i3 ∧ i3 ≤ 9223372036854775807)
    (hj0 : -9223372036854775808 ≤ j0 ∧ j0 ≤ 9223372036854775807) (hj1 : -9223372036854775808 ≤ j1 ∧ j1 ≤ 9223372036854775807) (hj2 : -9223372036854775808 ≤ j2 ∧ j2 ≤ 9223372036854775807) (hj3 : -9223372036854775808 ≤ j3 ∧ j3 ≤ 9223372036854775807)
    (hk0 : -9223372036854775808 ≤ k0 ∧ k0 ≤ 9223372036854775807) (hk1 : -9223372036854775808 ≤ k1 ∧ k1 ≤ 9223372036854775807) (hk2 : -9223372036854775808 ≤ k2 ∧ k2 ≤ 9223372036854775807) (hk3 : -9223372036854775808 ≤ k3 ∧ k3 ≤ 9223372036854775807)
    (hs0 : -9223372036854775808 ≤ s0 ∧ s0 ≤ 9223372036854775807) (hs1 : -9223372036854775808 ≤ s1 ∧ s1 ≤ 9223372036854775807) :
    Calls Try.prog 6 #[.agg #[.int .i64 i0, .int .i64 i1, .int .i64 i2, .int .i64 i3], .agg #[.int .i64 j0, .int .i64 j1, .int .i64 j2, .int .i64 j3], .agg #[.int .i64 k0, .int .i64 k1, .int .i64 k2, .int .i64 k3], .agg #[.int .i64 s0, .int .i64 s1]] w fun e w' => e = .returned (.bool true) ∧ Below w.heap.size w w' := by
  have HSA := Lib.hid (fun W => sane_any W)
  have HL1 := Lib.hid (fun W => rlong_any i0 i1 i2 i3 W hi0 hi1 hi2 hi3)
  have HL2 := Lib.hid (fun W => rlong_any j0 j1 j2 j3 W hj0 hj1 hj2 hj3)
  have HL3 := Lib.hid (fun W => rlong_any k0 k1 k2 k3 W hk0 hk1 hk2 hk3)
  have HSM := Lib.hid (fun W => rsmall_any s0 s1 W hs0 hs1)
  have HIS := Lib.hid (fun W => is_any ⟨#[48]⟩ ⟨#[49]⟩ W)
  obtain ⟨a0, a1, a2, a3, ab, -⟩ := four_new w 24 24 24 43 #[.int .i64 i0, .int .i64 i1, .int .i64 i2, .int .i64 i3] #[.int .i64 j0, .int .i64 j1, .int .i64 j2, .int .i64 j3] #[.int .i64 k0, .int .i64 k1, .int .i64 k2, .int .i64 k3] #[.int .i64 s0, .int .i64 s1] _ rfl
  have HX0 := Lib.hid a0; have HX1 := Lib.hid a1; have HX2 := Lib.hid a2; have HX3 := Lib.hid a3; have HB0 := Lib.hid ab
  clear hi0 hi1 hi2 hi3 hj0 hj1 hj2 hj3 hk0 hk1 hk2 hk3 hs0 hs1 a0 a1 a2 a3 ab
  go_enter Try.func6, Try.ntmps6
  go_wp2_with fail
  refine (HSA.out _).mono ?_
  rintro e w1 ⟨rfl, hb1⟩
  have HY0 := Lib.hid (HX0.out.below hb1 HX0.out.lt); have HY1 := Lib.hid (HX1.out.below hb1 HX1.out.lt); have HY2 := Lib.hid (HX2.out.below hb1 HX2.out.lt); have HY3 := Lib.hid (HX3.out.below hb1 HX3.out.lt)
  have HB1 := Lib.hid (HB0.out.trans (hb1.mono HB0.out.size))
  clear hb1 HX0 HX1 HX2 HX3 HB0 HSA
  have x0 := HY0.out.cell (i := 0) (v := .int .i64 i0) rfl; have x1 := HY0.out.cell (i := 1) (v := .int .i64 i1) rfl; have x2 := HY0.out.cell (i := 2) (v := .int .i64 i2) rfl; have x3 := HY0.out.cell (i := 3) (v := .int .i64 i3) rfl
  go_wp2_with fail
  refine (HL1.out _).mono ?_
  rintro e w2 ⟨n1, d1, l1, ln1, ld1, rfl, hb2⟩
  have g1 : Good (n1, d1) := ⟨l1, lt200 ln1 (by omega), lt200 ld1 (by omega)⟩
  have HG1 := Lib.hid g1
  clear x0 x1 x2 x3 l1 ln1 ld1 g1 HL1
  have HB2 := Lib.hid ((HB1.out.trans (hb2.mono HB1.out.size)).alloc (HB1.out.trans (hb2.mono HB1.out.size)).size (.cells #[.string (zS n1), .string (zS d1)] 23))
  have HA2 := Lib.hid (Blk.new w2 23 #[.string (zS n1), .string (zS d1)])
  have HZ1 := Lib.hid ((HY1.out.below hb2 HY1.out.lt).alloc (.cells #[.string (zS n1), .string (zS d1)] 23))
  have HZ2 := Lib.hid ((HY2.out.below hb2 HY2.out.lt).alloc (.cells #[.string (zS n1), .string (zS d1)] 23))
  have HZ3 := Lib.hid ((HY3.out.below hb2 HY3.out.lt).alloc (.cells #[.string (zS n1), .string (zS d1)] 23))
  clear hb2 HY0 HY1 HY2 HY3 HB1
  have x0 := HZ1.out.cell (i := 0) (v := .int .i64 j0) rfl; have x1 := HZ1.out.cell (i := 1) (v := .int .i64 j1) rfl; have x2 := HZ1.out.cell (i := 2) (v := .int .i64 j2) rfl; have x3 := HZ1.out.cell (i := 3) (v := .int .i64 j3) rfl
  go_wp2_with fail
  refine (HL2.out _).mono ?_
  rintro e w3 ⟨n2, d2, l1, ln1, ld1, rfl, hb3⟩
  have g1 : Good (n2, d2) := ⟨l1, lt200 ln1 (by omega), lt200 ld1 (by omega)⟩
  have HG2 := Lib.hid g1
  clear x0 x1 x2 x3 l1 ln1 ld1 g1 HL2
  have HB3 := Lib.hid ((HB2.out.trans (hb3.mono HB2.out.size)).alloc (HB2.out.trans (hb3.mono HB2.out.size)).size (.cells #[.string (zS n2), .string (zS d2)] 23))
  have HA3 := Lib.hid ((HA2.out.below hb3 HA2.out.lt).alloc (.cells #[.string (zS n2), .string (zS d2)] 23))
  have HC3 := Lib.hid (Blk.new w3 23 #[.string (zS n2), .string (zS d2)])
  have HY2 := Lib.hid ((HZ2.out.below hb3 HZ2.out.lt).alloc (.cells #[.string (zS n2), .string (zS d2)] 23))
  have HY3 := Lib.hid ((HZ3.out.below hb3 HZ3.out.lt).alloc (.cells #[.string (zS n2), .string (zS d2)] 23))
  clear hb3 HZ1 HZ2 HZ3 HB2 HA2
  have x0 := HY2.out.cell (i := 0) (v := .int .i64 k0) rfl; have x1 := HY2.out.cell (i := 1) (v := .int .i64 k1) rfl; have x2 := HY2.out.cell (i := 2) (v := .int .i64 k2) rfl; have x3 := HY2.out.cell (i := 3) (v := .int .i64 k3) rfl
  go_wp2_with fail
  refine (HL3.out _).mono ?_
  rintro e w4 ⟨n3, d3, l1, ln1, ld1, rfl, hb4⟩
  have g1 : Good (n3, d3) := ⟨l1, lt200 ln1 (by omega), lt200 ld1 (by omega)⟩
  have HG3 := Lib.hid g1
  clear x0 x1 x2 x3 l1 ln1 ld1 g1 HL3
  have HB4 := Lib.hid ((HB3.out.trans (hb4.mono HB3.out.size)).alloc (HB3.out.trans (hb4.mono HB3.out.size)).size (.cells #[.string (zS n3), .string (zS d3)] 23))
  have HA4 := Lib.hid ((HA3.out.below hb4 HA3.out.lt).alloc (.cells #[.string (zS n3), .string (zS d3)] 23))
  have HC4 := Lib.hid ((HC3.out.below hb4 HC3.out.lt).alloc (.cells #[.string (zS n3), .string (zS d3)] 23))
  have HD4 := Lib.hid (Blk.new w4 23 #[.string (zS n3), .string (zS d3)])
  have HZ3 := Lib.hid ((HY3.out.below hb4 HY3.out.lt).alloc (.cells #[.string (zS n3), .string (zS d3)] 23))
  clear hb4 HY2 HY3 HB3 HA3 HC3
  have x0 := HZ3.out.cell (i := 0) (v := .int .i64 s0) rfl; have x1 := HZ3.out.cell (i := 1) (v := .int .i64 s1) rfl
  go_wp2_with fail
  refine (HSM.out _).mono ?_
  rintro e w5 ⟨n4, d4, l1, ln1, ld1, rfl, hb5⟩
  have g1 : Good (n4, d4) := ⟨l1, lt200 ln1 (by omega), lt200 ld1 (by omega)⟩
  have HG4 := Lib.hid g1
  clear x0 x1 l1 ln1 ld1 g1 HSM
  have HB5 := Lib.hid ((HB4.out.trans (hb5.mono HB4.out.size)).alloc (HB4.out.trans (hb5.mono HB4.out.size)).size (.cells #[.string (zS n4), .string (zS d4)] 23))
  have HA5 := Lib.hid ((HA4.out.below hb5 HA4.out.lt).alloc (.cells #[.string (zS n4), .string (zS d4)] 23))
  have HC5 := Lib.hid ((HC4.out.below hb5 HC4.out.lt).alloc (.cells #[.string (zS n4), .string (zS d4)] 23))
  have HD5 := Lib.hid ((HD4.out.below hb5 HD4.out.lt).alloc (.cells #[.string (zS n4), .string (zS d4)] 23))
  have HE5 := Lib.hid (Blk.new w5 23 #[.string (zS n4), .string (zS d4)])
  clear hb5 HZ3 HB4 HA4 HC4 HD4
  have c1 := fun W => cmpc_good HG1.out HG2.out W
  have c2 := fun W => cmpc_good HG2.out HG3.out W
  have c3 := fun W => cmpc_good HG1.out HG3.out W
  have c4 := fun W => cmpc_good HG2.out HG1.out W
  have c5 := fun W => cmpc_good HG1.out HG1.out W
  have hcs := cv_cases HG1.out HG2.out HG3.out
  rw [cv_anti (n1, d1) (n2, d2)] at c4
  rw [(cv_zero HG1.out.1 HG1.out.1).2 rfl] at c5
  obtain ⟨ab, hab⟩ : ∃ x, x = cv (n1, d1) (n2, d2) := ⟨_, rfl⟩
  obtain ⟨bc, hbc⟩ : ∃ x, x = cv (n2, d2) (n3, d3) := ⟨_, rfl⟩
  obtain ⟨ac, hac⟩ : ∃ x, x = cv (n1, d1) (n3, d3) := ⟨_, rfl⟩
  rw [← hab] at c1 c4 hcs
  rw [← hbc] at c2 hcs
  rw [← hac] at c3 hcs
  unfold CmpR rV at c1 c2 c3 c4 c5
  have C1 := Lib.hid c1; have C2 := Lib.hid c2; have C3 := Lib.hid c3; have C4 := Lib.hid c4; have C5 := Lib.hid c5
  have HAB := Lib.hid hab; have HCS := Lib.hid hcs
  clear c1 c2 c3 c4 c5 hab hbc hac hcs
  have y0 := HA5.out.cell (i := 0) (v := .string (zS n1)) rfl; have y1 := HA5.out.cell (i := 1) (v := .string (zS d1)) rfl
  have y2 := HC5.out.cell (i := 0) (v := .string (zS n2)) rfl; have y3 := HC5.out.cell (i := 1) (v := .string (zS d2)) rfl
  go_wp2_with fail
  refine (C1.out _).mono ?_
  rintro e w6 ⟨rfl, hb6⟩
  have HA6 := Lib.hid (HA5.out.below hb6 HA5.out.lt); have HC6 := Lib.hid (HC5.out.below hb6 HC5.out.lt); have HD6 := Lib.hid (HD5.out.below hb6 HD5.out.lt); have HE6 := Lib.hid (HE5.out.below hb6 HE5.out.lt)
  have HB6 := Lib.hid (HB5.out.trans (hb6.mono HB5.out.size))
  clear hb6 y0 y1 y2 y3 HA5 HC5 HD5 HE5 HB5 C1
  have y0 := HC6.out.cell (i := 0) (v := .string (zS n2)) rfl; have y1 := HC6.out.cell (i := 1) (v := .string (zS d2)) rfl
  have y2 := HD6.out.cell (i := 0) (v := .string (zS n3)) rfl; have y3 := HD6.out.cell (i := 1) (v := .string (zS d3)) rfl
  go_wp2_with fail
  refine (C2.out _).mono ?_
  rintro e w7 ⟨rfl, hb7⟩
  have HA7 := Lib.hid (HA6.out.below hb7 HA6.out.lt); have HC7 := Lib.hid (HC6.out.below hb7 HC6.out.lt); have HD7 := Lib.hid (HD6.out.below hb7 HD6.out.lt); have HE7 := Lib.hid (HE6.out.below hb7 HE6.out.lt)
  have HB7 := Lib.hid (HB6.out.trans (hb7.mono HB6.out.size))
  clear hb7 y0 y1 y2 y3 HA6 HC6 HD6 HE6 HB6 C2
  have y0 := HA7.out.cell (i := 0) (v := .string (zS n1)) rfl; have y1 := HA7.out.cell (i := 1) (v := .string (zS d1)) rfl
  have y2 := HD7.out.cell (i := 0) (v := .string (zS n3)) rfl; have y3 := HD7.out.cell (i := 1) (v := .string (zS d3)) rfl
  go_wp2_with fail
  refine (C3.out _).mono ?_
  rintro e w8 ⟨rfl, hb8⟩
  have HA8 := Lib.hid (HA7.out.below hb8 HA7.out.lt); have HC8 := Lib.hid (HC7.out.below hb8 HC7.out.lt); have HE8 := Lib.hid (HE7.out.below hb8 HE7.out.lt)
  have HB8 := Lib.hid (HB7.out.trans (hb8.mono HB7.out.size))
  clear hb8 y0 y1 y2 y3 HA7 HC7 HD7 HE7 HB7 C3
  go_upto_region 9 with fail
  go_cut [92] from 41 to 92 (fun b wx => b = .bool false ∧ Below w8.heap.size w8 wx)
  case first =>
    have y0 := HC8.out.cell (i := 0) (v := .string (zS n2)) rfl; have y1 := HC8.out.cell (i := 1) (v := .string (zS d2)) rfl
    have y2 := HA8.out.cell (i := 0) (v := .string (zS n1)) rfl; have y3 := HA8.out.cell (i := 1) (v := .string (zS d1)) rfl
    go_wp2_with fail
    refine (C4.out _).mono ?_
    rintro e w9 ⟨rfl, hb9⟩
    have ha9 := HA8.out.below hb9 HA8.out.lt; have hc9 := HC8.out.below hb9 HC8.out.lt
    clear y0 y1 y2 y3
    have y0 := hc9.cell (i := 0) (v := .string (zS n2)) rfl; have y1 := hc9.cell (i := 1) (v := .string (zS d2)) rfl
    have y2 := ha9.cell (i := 0) (v := .string (zS n1)) rfl; have y3 := ha9.cell (i := 1) (v := .string (zS d1)) rfl
    clear ha9 hc9
    have HB9 := Lib.hid hb9
    clear hb9 HAB
    obtain ⟨he, h1, h2, h3⟩ | ⟨he, h1⟩ := HCS.out
    · obtain ⟨rfl, rfl⟩ := Prod.mk.inj he
      clear he
      subst h1 h2
      rcases h3 with h3 | h3 | h3
      all_goals
        subst h3
        go_wp2_with fail
        refine (C5.out _).mono ?_
        rintro e wa ⟨rfl, hba⟩
        have HBA := Lib.hid hba
        clear hba
        go_wp2_with fail
        go_meet
        exact ⟨rfl, HB9.out.trans (HBA.out.mono HB9.out.size)⟩
    · have hd := good_ne HG1.out HG2.out he
      obtain ⟨bx, hx⟩ : ∃ b, b = ((zS n1).toList == (zS n2).toList) := ⟨_, rfl⟩
      obtain ⟨bz, hy⟩ : ∃ b, b = ((zS d1).toList == (zS d2).toList) := ⟨_, rfl⟩
      rw [← hx, ← hy] at hd
      have hx2 := hx.symm; have hy2 := hy.symm
      clear hx hy he HCS HG1 HG2 HG3 HG4
      rcases h1 with h1 | ⟨h1, h2 | ⟨h2 | h2, h3⟩⟩
      all_goals
        subst h1
        try subst h2
        try subst h3
        cases bx
        all_goals
          try
            cases bz
            case true => exact absurd hd (by decide)
          clear hd
          go_wp2_with fail
          refine (C5.out _).mono ?_
          rintro e wa ⟨rfl, hba⟩
          have HBA := Lib.hid hba
          clear hba
          go_wp2_with fail
          go_meet
          exact ⟨rfl, HB9.out.trans (HBA.out.mono HB9.out.size)⟩
  case rest =>
    obtain ⟨rfl, hcb⟩ := hcut
    have HA9 := Lib.hid (HA8.out.below hcb HA8.out.lt); have HC9 := Lib.hid (HC8.out.below hcb HC8.out.lt); have HE9 := Lib.hid (HE8.out.below hcb HE8.out.lt)
    have HB9 := Lib.hid (HB8.out.trans (hcb.mono HB8.out.size))
    clear hcb HA8 HC8 HE8 HB8 C4 C5 HCS
    obtain ⟨rs, hrs⟩ : ∃ r, r = sumQ (· - ·) (some (n1, d1)) (some (n2, d2)) := ⟨_, rfl⟩
    have c6 := fun W => sub_good HG1.out HG2.out W
    rw [← hrs] at c6
    unfold OpR rV at c6
    have C6 := Lib.hid c6; have HRS := Lib.hid hrs
    have y0 := HA9.out.cell (i := 0) (v := .string (zS n1)) rfl; have y1 := HA9.out.cell (i := 1) (v := .string (zS d1)) rfl
    have y2 := HC9.out.cell (i := 0) (v := .string (zS n2)) rfl; have y3 := HC9.out.cell (i := 1) (v := .string (zS d2)) rfl
    clear c6 hrs
    go_wp2_with fail
    refine (C6.out _).mono ?_
    rintro e wb ⟨rfl, hbb⟩
    have HAb := Lib.hid ((HA9.out.below hbb HA9.out.lt).alloc (.cells #[.string (qN rs), .string (qD rs)] 23))
    have HCb := Lib.hid ((HC9.out.below hbb HC9.out.lt).alloc (.cells #[.string (qN rs), .string (qD rs)] 23))
    have HEb := Lib.hid ((HE9.out.below hbb HE9.out.lt).alloc (.cells #[.string (qN rs), .string (qD rs)] 23))
    have HSb := Lib.hid (Blk.new wb 23 #[.string (qN rs), .string (qD rs)])
    have HBb := Lib.hid ((HB9.out.trans (hbb.mono HB9.out.size)).alloc (HB9.out.trans (hbb.mono HB9.out.size)).size (.cells #[.string (qN rs), .string (qD rs)] 23))
    clear hbb y0 y1 y2 y3 HA9 HC9 HE9 HB9 C6
    go_upto_region 12 with fail
    go_cut [107] from 99 to 107 (fun b wx => b = .bool false ∧ Below (wb.alloc (.cells #[.string (qN rs), .string (qD rs)] 23)).heap.size (wb.alloc (.cells #[.string (qN rs), .string (qD rs)] 23)) wx)
    case first =>
      cases rs with
      | none =>
        have e1 : qE none = 40 := rfl
        refine wp_region_any (by kernel_rfl) ?_
        refine wpAny_takeL 0 (some 99) (.int .i64 40) rfl (by kernel_rfl) (by kernel_rfl) (by kernel_rfl) (by kernel_rfl) (fun _ _ _ h => h) (Or.inl ⟨by kernel_rfl, by (intro w; go_simp <;> rfl)⟩) ?_
        refine wpAny_takeL 1 (some 100) (.bool false) rfl (by kernel_rfl) (by kernel_rfl) (by kernel_rfl) (by kernel_rfl) (fun _ _ _ h => h) (Or.inl ⟨by kernel_rfl, by (intro w; go_simp <;> rfl)⟩) ?_
        refine wpAny_takeL 2 (some 101) (.bool false) rfl (by kernel_rfl) (by kernel_rfl) (by kernel_rfl) (by kernel_rfl) (fun _ _ _ h => h) (Or.inl ⟨by kernel_rfl, by (intro w; go_simp <;> rfl)⟩) ?_
        refine wpAny_takeL 3 (some 102) (undef) rfl (by kernel_rfl) (by kernel_rfl) (by kernel_rfl) (by kernel_rfl) (fun _ _ _ h => h) (Or.inr ⟨by kernel_rfl, rfl⟩) ?_
        refine wpAny_takeL 4 (some 103) (undef) rfl (by kernel_rfl) (by kernel_rfl) (by kernel_rfl) (by kernel_rfl) (fun _ _ _ h => h) (Or.inr ⟨by kernel_rfl, rfl⟩) ?_
        refine wpAny_takeL 5 (some 104) (undef) rfl (by kernel_rfl) (by kernel_rfl) (by kernel_rfl) (by kernel_rfl) (fun _ _ _ h => h) (Or.inr ⟨by kernel_rfl, rfl⟩) ?_
        refine wpAny_takeL 6 (some 105) (undef) rfl (by kernel_rfl) (by kernel_rfl) (by kernel_rfl) (by kernel_rfl) (fun _ _ _ h => h) (Or.inr ⟨by kernel_rfl, rfl⟩) ?_
        refine wpAny_takeL 7 (some 106) (undef) rfl (by kernel_rfl) (by kernel_rfl) (by kernel_rfl) (by kernel_rfl) (fun _ _ _ h => h) (Or.inr ⟨by kernel_rfl, rfl⟩) ?_
        refine wpAny_takeL 8 (some 107) (.bool false) rfl (by kernel_rfl) (by kernel_rfl) (by kernel_rfl) (by kernel_rfl) (fun _ _ _ h => h) (Or.inl ⟨by kernel_rfl, by (intro w; go_simp <;> rfl)⟩) ?_
        refine wpAny_done (by kernel_rfl) ?_ _
        go_wp2_with fail
        simp only [Act.put, List.setIfInBounds_toArray, List.set_cons_zero, List.set_cons_succ]
        go_meet
        exact ⟨rfl, (Below.refl _ _).drew⟩
      | some v =>
        have e1 : qE (some v) = 0 := rfl
        have c7 := fun W => cmpc_good (sum_good HRS.out.symm) good_zero W
        rw [cv_sub HG1.out.1.1 HG2.out.1.1 HRS.out.symm, ← HAB.out] at c7
        unfold CmpR rV at c7
        rw [show zS ((0 : Int), (1 : Int)).1 = (⟨#[48]⟩ : ByteArray) from zS_zero, show zS ((0 : Int), (1 : Int)).2 = (⟨#[49]⟩ : ByteArray) from zS_one] at c7
        have C7 := Lib.hid c7
        have HK : Hid (∀ W, Below (wb.alloc (.cells #[.string (qN (some v)), .string (qD (some v))] 23)).heap.size (wb.alloc (.cells #[.string (qN (some v)), .string (qD (some v))] 23)) W → W.cell? ⟨wb.heap.size, 0, none⟩ = some (.string (zS v.1)) ∧ W.cell? ⟨wb.heap.size, 1, none⟩ = some (.string (zS v.2))) := fun W hW =>
          ⟨(HSb.out.below hW HSb.out.lt).cell (i := 0) rfl, (HSb.out.below hW HSb.out.lt).cell (i := 1) rfl⟩
        have HY : Hid (Below (wb.alloc (.cells #[.string (qN (some v)), .string (qD (some v))] 23)).heap.size (wb.alloc (.cells #[.string (qN (some v)), .string (qD (some v))] 23)) (wb.alloc (.cells #[.string (qN (some v)), .string (qD (some v))] 23)).drew) := (Below.refl _ _).drew
        have hk0 := HK.out _ HY.out
        clear c7
        go_region_held3 (fun w' => w'.cell? ⟨wb.heap.size, 0, none⟩ = some (.string (zS v.1)) ∧ w'.cell? ⟨wb.heap.size, 1, none⟩ = some (.string (zS v.2))) (first | exact HK.out _ HY.out | exact hk0 | go_keep)
          (first
            | (go_at_call 27; (with_reducible refine (HIS.out _).mono ?_); rintro e v ⟨rfl, h9⟩; have HY := Lib.hid (HY.out.trans (h9.mono HY.out.size)); clear h9)
            | (go_at_call 22; (with_reducible refine (C7.out _).mono ?_); rintro e v ⟨rfl, h9⟩; have HY := Lib.hid (HY.out.trans (h9.mono HY.out.size)); clear h9))
        all_goals
          go_wp2_with fail
          go_meet
          exact ⟨rfl, HY.out⟩
    case rest =>
      obtain ⟨rfl, hcb⟩ := hcut
      have HAc := Lib.hid (HAb.out.below hcb HAb.out.lt); have HCc := Lib.hid (HCb.out.below hcb HCb.out.lt); have HEc := Lib.hid (HEb.out.below hcb HEb.out.lt)
      have HBc := Lib.hid (HBb.out.trans (hcb.mono HBb.out.size))
      clear hcb HAb HCb HEb HSb HBb HRS
      obtain ⟨rp, hrp⟩ : ∃ r, r = sumQ (· + ·) (some (n1, d1)) (some (n4, d4)) := ⟨_, rfl⟩
      obtain ⟨rq, hrq⟩ : ∃ r, r = sumQ (· + ·) (some (n2, d2)) (some (n4, d4)) := ⟨_, rfl⟩
      have c1 := fun W => add_good HG1.out HG4.out W
      have c2 := fun W => add_good HG2.out HG4.out W
      rw [← hrp] at c1
      rw [← hrq] at c2
      unfold OpR rV at c1 c2
      have C1 := Lib.hid c1; have C2 := Lib.hid c2; have HRP := Lib.hid hrp; have HRQ := Lib.hid hrq
      have y0 := HAc.out.cell (i := 0) (v := .string (zS n1)) rfl; have y1 := HAc.out.cell (i := 1) (v := .string (zS d1)) rfl
      have y2 := HEc.out.cell (i := 0) (v := .string (zS n4)) rfl; have y3 := HEc.out.cell (i := 1) (v := .string (zS d4)) rfl
      clear c1 c2 hrp hrq
      go_wp2_with fail
      refine (C1.out _).mono ?_
      rintro e wd ⟨rfl, hbd⟩
      have HAd := Lib.hid ((HAc.out.below hbd HAc.out.lt).alloc (.cells #[.string (qN rp), .string (qD rp)] 23))
      have HCd := Lib.hid ((HCc.out.below hbd HCc.out.lt).alloc (.cells #[.string (qN rp), .string (qD rp)] 23))
      have HEd := Lib.hid ((HEc.out.below hbd HEc.out.lt).alloc (.cells #[.string (qN rp), .string (qD rp)] 23))
      have HPd := Lib.hid (Blk.new wd 23 #[.string (qN rp), .string (qD rp)])
      have HBd := Lib.hid ((HBc.out.trans (hbd.mono HBc.out.size)).alloc (HBc.out.trans (hbd.mono HBc.out.size)).size (.cells #[.string (qN rp), .string (qD rp)] 23))
      have HSP := Lib.hid (HBc.out.trans (hbd.mono HBc.out.size)).size
      have HNC := Lib.hid (Nat.ne_of_lt (HCc.out.below hbd HCc.out.lt).lt); have HNE := Lib.hid (Nat.ne_of_lt (HEc.out.below hbd HEc.out.lt).lt)
      clear hbd y0 y1 y2 y3 HAc HCc HEc HBc C1
      have y0 := HCd.out.cell (i := 0) (v := .string (zS n2)) rfl; have y1 := HCd.out.cell (i := 1) (v := .string (zS d2)) rfl
      have y2 := HEd.out.cell (i := 0) (v := .string (zS n4)) rfl; have y3 := HEd.out.cell (i := 1) (v := .string (zS d4)) rfl
      go_wp2_with fail
      refine (C2.out _).mono ?_
      rintro e we ⟨rfl, hbe⟩
      have HAe := Lib.hid ((HAd.out.below hbe HAd.out.lt).alloc (.cells #[.string (qN rq), .string (qD rq)] 23))
      have HCe := Lib.hid ((HCd.out.below hbe HCd.out.lt).alloc (.cells #[.string (qN rq), .string (qD rq)] 23))
      have HEe := Lib.hid ((HEd.out.below hbe HEd.out.lt).alloc (.cells #[.string (qN rq), .string (qD rq)] 23))
      have HPe := Lib.hid ((HPd.out.below hbe HPd.out.lt).alloc (.cells #[.string (qN rq), .string (qD rq)] 23))
      have HQe := Lib.hid (Blk.new we 23 #[.string (qN rq), .string (qD rq)])
      have HBe := Lib.hid ((HBd.out.trans (hbe.mono HBd.out.size)).alloc (HBd.out.trans (hbe.mono HBd.out.size)).size (.cells #[.string (qN rq), .string (qD rq)] 23))
      have HSQ := Lib.hid (HBd.out.trans (hbe.mono HBd.out.size)).size
      have HNP := Lib.hid (Nat.ne_of_lt (HPd.out.below hbe HPd.out.lt).lt); have HNF := Lib.hid (Nat.ne_of_lt (HEd.out.below hbe HEd.out.lt).lt)
      clear hbe y0 y1 y2 y3 HAd HCd HEd HPd HBd C2
      go_upto_region 16 with fail
      go_cut [132] from 120 to 132 (fun b wx => b = .bool false ∧ Below (we.alloc (.cells #[.string (qN rq), .string (qD rq)] 23)).heap.size (we.alloc (.cells #[.string (qN rq), .string (qD rq)] 23)) wx)
      case first =>
        have y0 := HPe.out.cell (i := 0) (v := .string (qN rp)) rfl; have y1 := HPe.out.cell (i := 1) (v := .string (qD rp)) rfl
        have y2 := HQe.out.cell (i := 0) (v := .string (qN rq)) rfl; have y3 := HQe.out.cell (i := 1) (v := .string (qD rq)) rfl
        cases rp with
        | none =>
          clear HPe HQe HAe HCe HEe HBe
          have e1 : qE none = 40 := rfl
          go_wp2_with fail
          go_meet
          exact ⟨rfl, Below.refl _ _⟩
        | some v =>
          have e1 : qE (some v) = 0 := rfl
          cases rq with
          | none =>
            clear HPe HQe HAe HCe HEe HBe
            have e2 : qE none = 40 := rfl
            go_wp2_with fail
            go_meet
            exact ⟨rfl, Below.refl _ _⟩
          | some u =>
            have e2 : qE (some u) = 0 := rfl
            have c7 := fun W => cmpc_good (sum_good HRP.out.symm) (sum_good HRQ.out.symm) W
            rw [cv_add HG1.out.1.1 HG2.out.1.1 HG4.out.1.1 HRP.out.symm HRQ.out.symm, ← HAB.out] at c7
            have C7 := Lib.hid c7
            clear HPe HQe HAe HCe HEe HBe c7
            go_wp2_with fail
            refine (C7.out _).mono ?_
            rintro e wf ⟨rfl, hbf⟩
            have HBf := Lib.hid hbf
            clear hbf
            go_wp2_with fail
            go_meet
            exact ⟨rfl, HBf.out⟩
      case rest =>
        obtain ⟨rfl, hcb⟩ := hcut
        have HAf := Lib.hid (HAe.out.below hcb HAe.out.lt); have HCf := Lib.hid (HCe.out.below hcb HCe.out.lt); have HEf := Lib.hid (HEe.out.below hcb HEe.out.lt)
        have HPf := Lib.hid (HPe.out.below hcb HPe.out.lt); have HQf := Lib.hid (HQe.out.below hcb HQe.out.lt)
        have HBf := Lib.hid (HBe.out.trans (hcb.mono HBe.out.size))
        clear hcb HAe HCe HEe HPe HQe HBe HRP HRQ
        obtain ⟨rm, hrm⟩ : ∃ r, r = mulQ (some (n1, d1)) (some (n4, d4)) := ⟨_, rfl⟩
        obtain ⟨rl, hrl⟩ : ∃ r, r = mulQ (some (n2, d2)) (some (n4, d4)) := ⟨_, rfl⟩
        have c1 := fun W => mulc_good HG1.out HG4.out W
        have c2 := fun W => mulc_good HG2.out HG4.out W
        rw [← hrm] at c1
        rw [← hrl] at c2
        unfold OpR rV at c1 c2
        have C1 := Lib.hid c1; have C2 := Lib.hid c2; have HRM := Lib.hid hrm; have HRL := Lib.hid hrl
        have y0 := HAf.out.cell (i := 0) (v := .string (zS n1)) rfl; have y1 := HAf.out.cell (i := 1) (v := .string (zS d1)) rfl
        have y2 := HEf.out.cell (i := 0) (v := .string (zS n4)) rfl; have y3 := HEf.out.cell (i := 1) (v := .string (zS d4)) rfl
        clear c1 c2 hrm hrl
        go_wp2_with fail
        refine (C1.out _).mono ?_
        rintro e wg ⟨rfl, hbg⟩
        have HCg := Lib.hid (HCf.out.below hbg HCf.out.lt); have HEg := Lib.hid (HEf.out.below hbg HEf.out.lt)
        have HPg := Lib.hid (HPf.out.below hbg HPf.out.lt); have HQg := Lib.hid (HQf.out.below hbg HQf.out.lt)
        have HBg := Lib.hid (HBf.out.trans (hbg.mono HBf.out.size))
        clear hbg y0 y1 y2 y3 HAf HCf HEf HPf HQf HBf C1
        have HCh := Lib.hid (HCg.out.far_two HNC.out (.string (qN rm)) (.string (qD rm)))
        have HEh := Lib.hid (HEg.out.far_two HNE.out (.string (qN rm)) (.string (qD rm)))
        have HQh := Lib.hid (HQg.out.far_two (Ne.symm HNP.out) (.string (qN rm)) (.string (qD rm)))
        have HPh : Hid (Blk ((wg.setCell ⟨wd.heap.size, 0, none⟩ (.string (qN rm))).setCell ⟨wd.heap.size, 1, none⟩ (.string (qD rm))) wd.heap.size 23 #[.string (qN rm), .string (qD rm)]) := (HPg.out.set 0 (.string (qN rm))).set 1 (.string (qD rm))
        have HBh := Lib.hid ((HBg.out.setCell (p := ⟨wd.heap.size, 0, none⟩) HSP.out (.string (qN rm))).setCell (p := ⟨wd.heap.size, 1, none⟩) HSP.out (.string (qD rm)))
        have f0 := HPg.out.frozen 0; have f1 := HPg.out.frozen 1
        have x0 := HPg.out.cell (i := 0) (v := .string (qN rp)) rfl; have x1 := HPg.out.cell (i := 1) (v := .string (qD rp)) rfl
        have y0 := HCh.out.cell (i := 0) (v := .string (zS n2)) rfl; have y1 := HCh.out.cell (i := 1) (v := .string (zS d2)) rfl
        have y2 := HEh.out.cell (i := 0) (v := .string (zS n4)) rfl; have y3 := HEh.out.cell (i := 1) (v := .string (zS d4)) rfl
        clear HCg HEg HPg HQg HBg
        go_wp2_with fail
        refine (C2.out _).mono ?_
        rintro e wi ⟨rfl, hbi⟩
        have HEi := Lib.hid (HEh.out.below hbi HEh.out.lt); have HPi := Lib.hid (HPh.out.below hbi HPh.out.lt); have HQi := Lib.hid (HQh.out.below hbi HQh.out.lt)
        have HBi := Lib.hid (HBh.out.trans (hbi.mono HBh.out.size))
        clear hbi y0 y1 y2 y3 x0 x1 f0 f1 HCh HEh HPh HQh HBh C2
        have HEj := Lib.hid (HEi.out.far_two HNF.out (.string (qN rl)) (.string (qD rl)))
        have HPj := Lib.hid (HPi.out.far_two HNP.out (.string (qN rl)) (.string (qD rl)))
        have HQj : Hid (Blk ((wi.setCell ⟨we.heap.size, 0, none⟩ (.string (qN rl))).setCell ⟨we.heap.size, 1, none⟩ (.string (qD rl))) we.heap.size 23 #[.string (qN rl), .string (qD rl)]) := (HQi.out.set 0 (.string (qN rl))).set 1 (.string (qD rl))
        have HBj := Lib.hid ((HBi.out.setCell (p := ⟨we.heap.size, 0, none⟩) HSQ.out (.string (qN rl))).setCell (p := ⟨we.heap.size, 1, none⟩) HSQ.out (.string (qD rl)))
        have f0 := HQi.out.frozen 0; have f1 := HQi.out.frozen 1
        have x0 := HQi.out.cell (i := 0) (v := .string (qN rq)) rfl; have x1 := HQi.out.cell (i := 1) (v := .string (qD rq)) rfl
        clear HEi HPi HQi HBi
        go_upto_region 20 with fail
        cases rm with
        | none =>
          have e1 : qE none = 40 := rfl
          refine wp_region_any (by kernel_rfl) ?_
          refine wpAny_takeL 0 (some 145) (.bool true) rfl (by kernel_rfl) (by kernel_rfl) (by kernel_rfl) (by kernel_rfl) (fun _ _ _ h => h) (Or.inl ⟨by kernel_rfl, by (intro w; go_simp <;> rfl)⟩) ?_
          refine wpAny_takeL 1 (some 146) (.bool true) rfl (by kernel_rfl) (by kernel_rfl) (by kernel_rfl) (by kernel_rfl) (fun _ _ _ h => h) (Or.inl ⟨by kernel_rfl, by (intro w; go_simp <;> rfl)⟩) ?_
          refine wpAny_takeL 2 (some 147) (.int .i64 40) rfl (by kernel_rfl) (by kernel_rfl) (by kernel_rfl) (by kernel_rfl) (fun _ _ _ h => h) (Or.inl ⟨by kernel_rfl, by (intro w; go_simp <;> rfl)⟩) ?_
          refine wpAny_takeL 3 (some 148) (.bool true) rfl (by kernel_rfl) (by kernel_rfl) (by kernel_rfl) (by kernel_rfl) (fun _ _ _ h => h) (Or.inl ⟨by kernel_rfl, by (intro w; go_simp <;> rfl)⟩) ?_
          refine wpAny_takeL 4 (some 149) (.bool true) rfl (by kernel_rfl) (by kernel_rfl) (by kernel_rfl) (by kernel_rfl) (fun _ _ _ h => h) (Or.inl ⟨by kernel_rfl, by (intro w; go_simp <;> rfl)⟩) ?_
          refine wpAny_takeL 5 (some 150) (undef) rfl (by kernel_rfl) (by kernel_rfl) (by kernel_rfl) (by kernel_rfl) (fun _ _ _ h => h) (Or.inr ⟨by kernel_rfl, rfl⟩) ?_
          refine wpAny_takeL 6 (some 151) (undef) rfl (by kernel_rfl) (by kernel_rfl) (by kernel_rfl) (by kernel_rfl) (fun _ _ _ h => h) (Or.inr ⟨by kernel_rfl, rfl⟩) ?_
          refine wpAny_takeL 7 (some 152) (.bool true) rfl (by kernel_rfl) (by kernel_rfl) (by kernel_rfl) (by kernel_rfl) (fun _ _ _ h => h) (Or.inl ⟨by kernel_rfl, by (intro w; go_simp <;> rfl)⟩) ?_
          refine wpAny_takeL 8 (some 153) (.bool true) rfl (by kernel_rfl) (by kernel_rfl) (by kernel_rfl) (by kernel_rfl) (fun _ _ _ h => h) (Or.inl ⟨by kernel_rfl, by (intro w; go_simp <;> rfl)⟩) ?_
          refine wpAny_takeL 9 (some 154) (undef) rfl (by kernel_rfl) (by kernel_rfl) (by kernel_rfl) (by kernel_rfl) (fun _ _ _ h => h) (Or.inr ⟨by kernel_rfl, rfl⟩) ?_
          refine wpAny_takeL 10 (some 155) (undef) rfl (by kernel_rfl) (by kernel_rfl) (by kernel_rfl) (by kernel_rfl) (fun _ _ _ h => h) (Or.inr ⟨by kernel_rfl, rfl⟩) ?_
          refine wpAny_takeL 11 (some 156) (undef) rfl (by kernel_rfl) (by kernel_rfl) (by kernel_rfl) (by kernel_rfl) (fun _ _ _ h => h) (Or.inr ⟨by kernel_rfl, rfl⟩) ?_
          refine wpAny_takeL 12 (some 157) (undef) rfl (by kernel_rfl) (by kernel_rfl) (by kernel_rfl) (by kernel_rfl) (fun _ _ _ h => h) (Or.inr ⟨by kernel_rfl, rfl⟩) ?_
          refine wpAny_takeL 13 (some 158) (undef) rfl (by kernel_rfl) (by kernel_rfl) (by kernel_rfl) (by kernel_rfl) (fun _ _ _ h => h) (Or.inr ⟨by kernel_rfl, rfl⟩) ?_
          refine wpAny_takeL 14 (some 159) (undef) rfl (by kernel_rfl) (by kernel_rfl) (by kernel_rfl) (by kernel_rfl) (fun _ _ _ h => h) (Or.inr ⟨by kernel_rfl, rfl⟩) ?_
          refine wpAny_takeL 15 (some 160) (undef) rfl (by kernel_rfl) (by kernel_rfl) (by kernel_rfl) (by kernel_rfl) (fun _ _ _ h => h) (Or.inr ⟨by kernel_rfl, rfl⟩) ?_
          refine wpAny_takeL 16 (some 161) (undef) rfl (by kernel_rfl) (by kernel_rfl) (by kernel_rfl) (by kernel_rfl) (fun _ _ _ h => h) (Or.inr ⟨by kernel_rfl, rfl⟩) ?_
          refine wpAny_takeL 17 (some 162) (undef) rfl (by kernel_rfl) (by kernel_rfl) (by kernel_rfl) (by kernel_rfl) (fun _ _ _ h => h) (Or.inr ⟨by kernel_rfl, rfl⟩) ?_
          refine wpAny_takeL 18 (some 163) (.bool true) rfl (by kernel_rfl) (by kernel_rfl) (by kernel_rfl) (by kernel_rfl) (fun _ _ _ h => h) (Or.inl ⟨by kernel_rfl, by (intro w; go_simp <;> rfl)⟩) ?_
          refine wpAny_takeL 19 (some 164) (.bool true) rfl (by kernel_rfl) (by kernel_rfl) (by kernel_rfl) (by kernel_rfl) (fun _ _ _ h => h) (Or.inl ⟨by kernel_rfl, by (intro w; go_simp <;> rfl)⟩) ?_
          refine wpAny_takeL 20 (some 8) (.bool true) rfl (by kernel_rfl) (by kernel_rfl) (by kernel_rfl) (by kernel_rfl) (fun _ _ _ h => h) (Or.inl ⟨by kernel_rfl, by (intro w; go_simp <;> rfl)⟩) ?_
          refine wpAny_done (by kernel_rfl) ?_ _
          go_wp2_with fail
          exact bodyPost_ret (v := .bool true) (by kernel_rfl) rfl ⟨rfl, HBj.out.drew⟩
        | some v =>
          cases rl with
          | none =>
            have e1 : qE (some v) = 0 := rfl
            have e2 : qE none = 40 := rfl
            refine wp_region_any (by kernel_rfl) ?_
            refine wpAny_takeL 0 (some 145) (.bool true) rfl (by kernel_rfl) (by kernel_rfl) (by kernel_rfl) (by kernel_rfl) (fun _ _ _ h => h) (Or.inl ⟨by kernel_rfl, by (intro w; go_simp <;> rfl)⟩) ?_
            refine wpAny_takeL 1 (some 146) (.bool true) rfl (by kernel_rfl) (by kernel_rfl) (by kernel_rfl) (by kernel_rfl) (fun _ _ _ h => h) (Or.inl ⟨by kernel_rfl, by (intro w; go_simp <;> rfl)⟩) ?_
            refine wpAny_takeL 2 (some 147) (.int .i64 0) rfl (by kernel_rfl) (by kernel_rfl) (by kernel_rfl) (by kernel_rfl) (fun _ _ _ h => h) (Or.inl ⟨by kernel_rfl, by (intro w; go_simp <;> rfl)⟩) ?_
            refine wpAny_takeL 3 (some 148) (.bool false) rfl (by kernel_rfl) (by kernel_rfl) (by kernel_rfl) (by kernel_rfl) (fun _ _ _ h => h) (Or.inl ⟨by kernel_rfl, by (intro w; go_simp <;> rfl)⟩) ?_
            refine wpAny_takeL 4 (some 149) (.bool false) rfl (by kernel_rfl) (by kernel_rfl) (by kernel_rfl) (by kernel_rfl) (fun _ _ _ h => h) (Or.inl ⟨by kernel_rfl, by (intro w; go_simp <;> rfl)⟩) ?_
            refine wpAny_takeL 5 (some 150) (.int .i64 40) rfl (by kernel_rfl) (by kernel_rfl) (by kernel_rfl) (by kernel_rfl) (fun _ _ _ h => h) (Or.inl ⟨by kernel_rfl, by (intro w; go_simp <;> rfl)⟩) ?_
            refine wpAny_takeL 6 (some 151) (.bool true) rfl (by kernel_rfl) (by kernel_rfl) (by kernel_rfl) (by kernel_rfl) (fun _ _ _ h => h) (Or.inl ⟨by kernel_rfl, by (intro w; go_simp <;> rfl)⟩) ?_
            refine wpAny_takeL 7 (some 152) (.bool true) rfl (by kernel_rfl) (by kernel_rfl) (by kernel_rfl) (by kernel_rfl) (fun _ _ _ h => h) (Or.inl ⟨by kernel_rfl, by (intro w; go_simp <;> rfl)⟩) ?_
            refine wpAny_takeL 8 (some 153) (.bool true) rfl (by kernel_rfl) (by kernel_rfl) (by kernel_rfl) (by kernel_rfl) (fun _ _ _ h => h) (Or.inl ⟨by kernel_rfl, by (intro w; go_simp <;> rfl)⟩) ?_
            refine wpAny_takeL 9 (some 154) (undef) rfl (by kernel_rfl) (by kernel_rfl) (by kernel_rfl) (by kernel_rfl) (fun _ _ _ h => h) (Or.inr ⟨by kernel_rfl, rfl⟩) ?_
            refine wpAny_takeL 10 (some 155) (undef) rfl (by kernel_rfl) (by kernel_rfl) (by kernel_rfl) (by kernel_rfl) (fun _ _ _ h => h) (Or.inr ⟨by kernel_rfl, rfl⟩) ?_
            refine wpAny_takeL 11 (some 156) (undef) rfl (by kernel_rfl) (by kernel_rfl) (by kernel_rfl) (by kernel_rfl) (fun _ _ _ h => h) (Or.inr ⟨by kernel_rfl, rfl⟩) ?_
            refine wpAny_takeL 12 (some 157) (undef) rfl (by kernel_rfl) (by kernel_rfl) (by kernel_rfl) (by kernel_rfl) (fun _ _ _ h => h) (Or.inr ⟨by kernel_rfl, rfl⟩) ?_
            refine wpAny_takeL 13 (some 158) (undef) rfl (by kernel_rfl) (by kernel_rfl) (by kernel_rfl) (by kernel_rfl) (fun _ _ _ h => h) (Or.inr ⟨by kernel_rfl, rfl⟩) ?_
            refine wpAny_takeL 14 (some 159) (undef) rfl (by kernel_rfl) (by kernel_rfl) (by kernel_rfl) (by kernel_rfl) (fun _ _ _ h => h) (Or.inr ⟨by kernel_rfl, rfl⟩) ?_
            refine wpAny_takeL 15 (some 160) (undef) rfl (by kernel_rfl) (by kernel_rfl) (by kernel_rfl) (by kernel_rfl) (fun _ _ _ h => h) (Or.inr ⟨by kernel_rfl, rfl⟩) ?_
            refine wpAny_takeL 16 (some 161) (undef) rfl (by kernel_rfl) (by kernel_rfl) (by kernel_rfl) (by kernel_rfl) (fun _ _ _ h => h) (Or.inr ⟨by kernel_rfl, rfl⟩) ?_
            refine wpAny_takeL 17 (some 162) (undef) rfl (by kernel_rfl) (by kernel_rfl) (by kernel_rfl) (by kernel_rfl) (fun _ _ _ h => h) (Or.inr ⟨by kernel_rfl, rfl⟩) ?_
            refine wpAny_takeL 18 (some 163) (.bool true) rfl (by kernel_rfl) (by kernel_rfl) (by kernel_rfl) (by kernel_rfl) (fun _ _ _ h => h) (Or.inl ⟨by kernel_rfl, by (intro w; go_simp <;> rfl)⟩) ?_
            refine wpAny_takeL 19 (some 164) (.bool true) rfl (by kernel_rfl) (by kernel_rfl) (by kernel_rfl) (by kernel_rfl) (fun _ _ _ h => h) (Or.inl ⟨by kernel_rfl, by (intro w; go_simp <;> rfl)⟩) ?_
            refine wpAny_takeL 20 (some 8) (.bool true) rfl (by kernel_rfl) (by kernel_rfl) (by kernel_rfl) (by kernel_rfl) (fun _ _ _ h => h) (Or.inl ⟨by kernel_rfl, by (intro w; go_simp <;> rfl)⟩) ?_
            refine wpAny_done (by kernel_rfl) ?_ _
            go_wp2_with fail
            exact bodyPost_ret (v := .bool true) (by kernel_rfl) rfl ⟨rfl, HBj.out.drew⟩
          | some u =>
            have c7 := fun W => cmpc_good (mul_good HRM.out.symm) (mul_good HRL.out.symm) W
            have c8 := fun W => cmpc_good HG4.out good_zero W
            rw [cv_mul HG1.out.1.1 HG2.out.1.1 HG4.out.1.1 HRM.out.symm HRL.out.symm, ← HAB.out] at c7
            have hr1 := cv_range (n1, d1) (n2, d2)
            have hr2 := cv_range (n4, d4) (0, 1)
            rw [← HAB.out] at hr1
            obtain ⟨tz, htz⟩ : ∃ x, x = cv (n4, d4) (0, 1) := ⟨_, rfl⟩
            rw [← htz] at c7 c8 hr2
            unfold CmpR rV at c7 c8
            rw [show zS ((0 : Int), (1 : Int)).1 = (⟨#[48]⟩ : ByteArray) from zS_zero, show zS ((0 : Int), (1 : Int)).2 = (⟨#[49]⟩ : ByteArray) from zS_one] at c8
            have C7 := Lib.hid c7; have C8 := Lib.hid c8; have HR1 := Lib.hid hr1; have HR2 := Lib.hid hr2
            have HK : Hid (∀ W, Below ((wi.setCell ⟨we.heap.size, 0, none⟩ (.string (qN (some u)))).setCell ⟨we.heap.size, 1, none⟩ (.string (qD (some u)))).heap.size ((wi.setCell ⟨we.heap.size, 0, none⟩ (.string (qN (some u)))).setCell ⟨we.heap.size, 1, none⟩ (.string (qD (some u)))) W →
                (W.cell? ⟨wd.heap.size, 0, none⟩ = some (.string (zS v.1)) ∧ W.cell? ⟨wd.heap.size, 1, none⟩ = some (.string (zS v.2))) ∧ (W.cell? ⟨we.heap.size, 0, none⟩ = some (.string (zS u.1)) ∧ W.cell? ⟨we.heap.size, 1, none⟩ = some (.string (zS u.2))) ∧
                (W.cell? ⟨w5.heap.size, 0, none⟩ = some (.string (zS n4)) ∧ W.cell? ⟨w5.heap.size, 1, none⟩ = some (.string (zS d4)))) := fun W hW =>
              ⟨⟨(HPj.out.below hW HPj.out.lt).cell (i := 0) rfl, (HPj.out.below hW HPj.out.lt).cell (i := 1) rfl⟩, ⟨(HQj.out.below hW HQj.out.lt).cell (i := 0) rfl, (HQj.out.below hW HQj.out.lt).cell (i := 1) rfl⟩, ⟨(HEj.out.below hW HEj.out.lt).cell (i := 0) rfl, (HEj.out.below hW HEj.out.lt).cell (i := 1) rfl⟩⟩
            have HY : Hid (Below ((wi.setCell ⟨we.heap.size, 0, none⟩ (.string (qN (some u)))).setCell ⟨we.heap.size, 1, none⟩ (.string (qD (some u)))).heap.size ((wi.setCell ⟨we.heap.size, 0, none⟩ (.string (qN (some u)))).setCell ⟨we.heap.size, 1, none⟩ (.string (qD (some u)))) ((wi.setCell ⟨we.heap.size, 0, none⟩ (.string (qN (some u)))).setCell ⟨we.heap.size, 1, none⟩ (.string (qD (some u)))).drew) := (Below.refl _ _).drew
            have hk0 := HK.out _ HY.out
            clear c7 c8 htz hr1 hr2 f0 f1 x0 x1 HPj HQj HEj
            obtain ⟨m, hm⟩ : ∃ m, m = ab * tz := ⟨_, rfl⟩
            rw [← hm] at C7
            have hm1 : IntKind.i64.wrap (ab * tz) = m := by
              rw [hm]
              rcases (show ab = -1 ∨ ab = 0 ∨ ab = 1 by have := HR1.out; omega) with h1 | h1 | h1 <;> rcases (show tz = -1 ∨ tz = 0 ∨ tz = 1 by have := HR2.out; omega) with h2 | h2 | h2 <;> subst h1 h2 <;> decide
            have e1 : qE (some v) = 0 := rfl
            have e2 : qE (some u) = 0 := rfl
            clear HR1 HR2 HAB HRM HRL HG1 HG2 HG3 HG4 hm
            all_goals
              go_region_held3 (fun w' => (w'.cell? ⟨wd.heap.size, 0, none⟩ = some (.string (zS v.1)) ∧ w'.cell? ⟨wd.heap.size, 1, none⟩ = some (.string (zS v.2))) ∧ (w'.cell? ⟨we.heap.size, 0, none⟩ = some (.string (zS u.1)) ∧ w'.cell? ⟨we.heap.size, 1, none⟩ = some (.string (zS u.2))) ∧
                  (w'.cell? ⟨w5.heap.size, 0, none⟩ = some (.string (zS n4)) ∧ w'.cell? ⟨w5.heap.size, 1, none⟩ = some (.string (zS d4)))) (first | exact HK.out _ HY.out | exact hk0 | go_keep)
                (first
                  | (go_at_call 27; (with_reducible refine (HIS.out _).mono ?_); rintro e v ⟨rfl, h9⟩; have HY := Lib.hid (HY.out.trans (h9.mono HY.out.size)); clear h9)
                  | (go_at_call 22; (with_reducible refine (C7.out _).mono ?_); rintro e v ⟨rfl, h9⟩; have HY := Lib.hid (HY.out.trans (h9.mono HY.out.size)); clear h9)
                  | (go_at_call 22; (with_reducible refine (C8.out _).mono ?_); rintro e v ⟨rfl, h9⟩; have HY := Lib.hid (HY.out.trans (h9.mono HY.out.size)); clear h9))
              all_goals
                go_wp2_with fail
                go_ret
                exact ⟨rfl, HBj.out.trans (HY.out.mono HBj.out.size)⟩
end Go.Proofs.Ytnacgdkihkfjkaa
