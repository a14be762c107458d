/- The order of fractions by their whole parts, and what is left. No conditions. | Package rational: the contract of Print. Conditions: the strings' lengths are ints. | Package rational: the contract of Compare. Conditions: the strings' lengths are ints. -/
import Derived.WalkMore
import Derived.ScopeJumps
import Derived.Laws.StructEq
import Derived.Test.YtgimceikeedkoaaGreatGG
import Derived.Test.YtgimceikeedkoaaGreatGH
namespace Go.Proofs.YtgimceikeedkoaaGreat
open Go.RowKit Go.Lib

/-- What Compare answers. -/
def cmpQ (p q : Option (Int × Int)) : Int := match p, q with
  | some p, some q => ordI (p.1 * q.2) (q.1 * p.2)
  | _, _ => 0
theorem ordI_sub (x y : Int) : ordI x y = ordI (x - y) 0 := by unfold ordI; split <;> (try split) <;> (try split) <;> (try split) <;> omega
theorem cmp_lt {n d m c : Int} (hd : 0 < d) (hc : 0 < c) (h : n / d < m / c) : n * c < m * d := by
  have h1 := Int.emod_add_mul_ediv n d
  have h2 := Int.emod_lt_of_pos n hd
  have h3 := Int.emod_add_mul_ediv m c
  have h4 := Int.emod_nonneg m (show c ≠ 0 by omega)
  have h5 : n < d * (m / c) := by
    have h6 : d * (n / d + 1) ≤ d * (m / c) := Int.mul_le_mul_of_nonneg_left (by omega) (by omega)
    rw [Int.mul_add, Int.mul_one] at h6
    omega
  have h7 : n * c < d * (m / c) * c := Int.mul_lt_mul_of_pos_right h5 hc
  have h8 : d * (c * (m / c)) ≤ d * m := Int.mul_le_mul_of_nonneg_left (by omega) (by omega)
  have h9 : d * (m / c) * c = d * (c * (m / c)) := by grind
  rw [Int.mul_comm m d]; omega
theorem cmp_whole {n d m c : Int} (hd : 0 < d) (hc : 0 < c) (h : n / d ≠ m / c) : ordI (n / d) (m / c) = ordI (n * c) (m * d) := by
  rcases Int.lt_or_gt_of_ne h with h | h
  · rw [ordI_lt h, ordI_lt (cmp_lt hd hc h)]
  · rw [ordI_gt h, ordI_gt (cmp_lt hc hd h)]
theorem cmp_left {n d m c : Int} (h : n / d = m / c) : ordI (n * c) (m * d) = ordI (n % d * c) (m % c * d) := by
  have h1 := Int.emod_add_mul_ediv n d
  have h3 := Int.emod_add_mul_ediv m c
  rw [ordI_sub (n * c), ordI_sub (n % d * c)]
  congr 1
  rw [h] at h1
  generalize m / c = q at *
  generalize n % d = r at *
  generalize m % c = s at *
  subst h1 h3
  grind
theorem cmp_zero {r s d c : Int} (hd : 0 < d) (hc : 0 < c) (hr : 0 ≤ r) (hs : 0 ≤ s) (h : r = 0 ∨ s = 0) : ordI r s = ordI (r * c) (s * d) := by
  rcases h with rfl | rfl
  · rw [Int.zero_mul]
    rcases Int.lt_or_eq_of_le hs with h | h
    · rw [ordI_lt h, ordI_lt (Int.mul_pos h hd)]
    · rw [← h, Int.zero_mul]
  · rw [Int.zero_mul]
    rcases Int.lt_or_eq_of_le hr with h | h
    · rw [ordI_gt h, ordI_gt (Int.mul_pos h hc)]
    · rw [← h, Int.zero_mul]
theorem cmp_turn (r s d c : Int) : ordI (r * c) (s * d) = ordI (c * r) (d * s) := by rw [Int.mul_comm r, Int.mul_comm s]
end Go.Proofs.YtgimceikeedkoaaGreat
namespace Go.Proofs.YtgimceikeedkoaaGreat
open Go.RowKit Go.Lib

theorem bs_of_rd {a : ByteArray} {z : Int} (h : rd a.data.toList = some z) : a = zS z := by
  rw [← bs_self a, (rd_some h).1]; rfl
end Go.Proofs.YtgimceikeedkoaaGreat
namespace Go.Proofs.YtgimceikeedkoaaGreat
open Go.RowKit Go.Lib

set_option maxRecDepth 100000 in
set_option maxHeartbeats 1000000 in
theorem cmp_same (an ad : ByteArray) (w : World) : Calls Tryz.prog 40 #[fV an ad, fV an ad] w fun e w' => e = .returned (.int .i64 0) ∧ Below w.heap.size w w' := by
  unfold fV
  go_enter Tryz.func40, Tryz.ntmps40
  go_wp2_with fail
  go_step3
  go_wp2_with fail
  rw [Exit.noGoto_ret]
  go_ret
  exact ⟨rfl, allocs_below [(#[.string an, .string ad], 47), (#[.string an, .string ad], 47)] w (Below.refl w.heap.size w) (Nat.le_refl _)⟩
/-- Two fractions that differ, as strings. -/
def Dif (an ad bn bd : ByteArray) (x y : Bool) : Prop := (an.toList == bn.toList) = x ∧ (ad.toList == bd.toList) = y ∧ (x && y) = false
set_option maxRecDepth 100000 in
set_option maxHeartbeats 1000000 in
theorem cmp_bad1 (an ad bn bd : ByteArray) (w : World) (x y : Bool) (hd : Dif an ad bn bd x y) (ha : an.size ≤ 9000000000000000000 ∧ ad.size ≤ 9000000000000000000) (h : rdQ an.data.toList ad.data.toList = none) :
    Calls Tryz.prog 40 #[fV an ad, fV bn bd] w fun e w' => e = .returned (.int .i64 0) ∧ Below w.heap.size w w' := by
  have hv := fun W => fvalid_any an ad W ha.1 ha.2
  rw [h] at hv
  unfold fV at hv
  have HV := Lib.hid hv
  have HB := Lib.hid (allocs_below [(#[.string an, .string ad], 47), (#[.string bn, .string bd], 47)] w (Below.refl w.heap.size w) (Nat.le_refl _))
  clear hv h
  obtain ⟨h1, h2, h3⟩ := hd
  cases x <;> cases y <;> first | (cases h3; done) | skip
  all_goals
    clear h3
    unfold fV
    go_enter Tryz.func40, Tryz.ntmps40
    go_wp2_with fail
    go_step3
    go_wp2_with fail
    refine (HV.out _).mono ?_
    rintro e w1 ⟨rfl, hb1⟩
    go_wp2_with fail
    rw [Exit.noGoto_ret]
    go_ret
    exact ⟨rfl, HB.out.trans (hb1.mono HB.out.size)⟩
set_option maxRecDepth 100000 in
set_option maxHeartbeats 1000000 in
theorem cmp_bad2 (an ad bn bd : ByteArray) (w : World) (x y : Bool) (hd : Dif an ad bn bd x y) (ha : an.size ≤ 9000000000000000000 ∧ ad.size ≤ 9000000000000000000) (hb : bn.size ≤ 9000000000000000000 ∧ bd.size ≤ 9000000000000000000) (q : Int × Int) (h : rdQ an.data.toList ad.data.toList = some q) (h' : rdQ bn.data.toList bd.data.toList = none) :
    Calls Tryz.prog 40 #[fV an ad, fV bn bd] w fun e w' => e = .returned (.int .i64 0) ∧ Below w.heap.size w w' := by
  have hv := fun W => fvalid_any an ad W ha.1 ha.2
  have hv2 := fun W => fvalid_any bn bd W hb.1 hb.2
  rw [h] at hv
  rw [h'] at hv2
  unfold fV at hv hv2
  have HV := Lib.hid hv; have HV2 := Lib.hid hv2
  have hB : Below w.heap.size w ((w.alloc (.cells #[.string an, .string ad] 47)).alloc (.cells #[.string bn, .string bd] 47)) := (allocs_below [(#[.string an, .string ad], 47), (#[.string bn, .string bd], 47)] w (Below.refl w.heap.size w) (Nat.le_refl _))
  have hC := allocs_blk [(#[.string an, .string ad], 47), (#[.string bn, .string bd], 47)] w 1 _ rfl
  have HB := Lib.hid hB; have HC := Lib.hid hC
  clear hv hv2 h h' hB hC
  obtain ⟨h1, h2, h3⟩ := hd
  cases x <;> cases y <;> first | (cases h3; done) | skip
  all_goals
    clear h3
    unfold fV
    go_enter Tryz.func40, Tryz.ntmps40
    go_wp2_with fail
    go_step3
    go_wp2_with fail
    refine (HV.out _).mono ?_
    rintro e w1 ⟨rfl, hb1⟩
    have hC1 : Blk w1 (w.heap.size + 1) 47 #[.string bn, .string bd] := HC.out.below hb1 HC.out.lt
    have x0 := hC1.cell (i := 0) rfl; have x1 := hC1.cell (i := 1) rfl
    have HB1 := Lib.hid (HB.out.trans (hb1.mono HB.out.size))
    clear hb1 hC1
    go_wp2_with fail
    refine (HV2.out _).mono ?_
    rintro e w2 ⟨rfl, hb2⟩
    go_wp2_with fail
    rw [Exit.noGoto_ret]
    go_ret
    exact ⟨rfl, HB1.out.trans (hb2.mono HB1.out.size)⟩
/-- The measure of the comparison. -/
def cmpMu (b : Nat) (w : World) : Nat := match w.cell? ⟨b, 1, none⟩, w.cell? ⟨b + 1, 1, none⟩ with
  | some (.string x), some (.string y) => ((rd x.data.toList).getD 0 + (rd y.data.toList).getD 0).toNat
  | _, _ => 0
/-- What holds at the label. -/
def CmpJ (b : Nat) (w0 : World) (t : Int) (w : World) : Prop := ∃ n d m c : Int, 0 < d ∧ 0 < c ∧ n.natAbs < 10 ^ 200 ∧ d.natAbs < 10 ^ 200 ∧ m.natAbs < 10 ^ 200 ∧ c.natAbs < 10 ^ 200 ∧
  Blk w b 47 #[.string (zS n), .string (zS d)] ∧ Blk w (b + 1) 47 #[.string (zS m), .string (zS c)] ∧ Below b w0 w ∧ ordI (n * c) (m * d) = t
theorem cmpMu_at {b : Nat} {w : World} {n d m c : Int} (hA : Blk w b 47 #[.string (zS n), .string (zS d)]) (hC : Blk w (b + 1) 47 #[.string (zS m), .string (zS c)]) (hd : d.natAbs < 10 ^ 200) (hc : c.natAbs < 10 ^ 200) : cmpMu b w = (d + c).toNat := by
  unfold cmpMu
  rw [hA.cell (i := 1) (v := .string (zS d)) rfl, hC.cell (i := 1) (v := .string (zS c)) rfl]
  simp only [zS_rd hd, zS_rd hc, Option.getD_some]
set_option maxRecDepth 100000 in
set_option maxHeartbeats 8000000 in
theorem cmp_good (n0 d0 m0 c0 : Int) (w : World) (x y : Bool) (hd : Dif (zS n0) (zS d0) (zS m0) (zS c0) x y) (hn : n0.natAbs < 10 ^ 200) (hd9 : d0.natAbs < 10 ^ 200) (hm : m0.natAbs < 10 ^ 200) (hc : c0.natAbs < 10 ^ 200) (hl : Low n0 d0) (hl' : Low m0 c0) :
    Calls Tryz.prog 40 #[fV (zS n0) (zS d0), fV (zS m0) (zS c0)] w fun e w' => e = .returned (.int .i64 (ordI (n0 * c0) (m0 * d0))) ∧ Below w.heap.size w w' := by
  have hv := fun W => fvalid_any (zS n0) (zS d0) W (zs n0 d0 hn hd9).1 (zs n0 d0 hn hd9).2
  have hv2 := fun W => fvalid_any (zS m0) (zS c0) W (zs m0 c0 hm hc).1 (zs m0 c0 hm hc).2
  rw [rdQ_yes (zS_rd hn) (zS_rd hd9), if_pos hl] at hv
  rw [rdQ_yes (zS_rd hm) (zS_rd hc), if_pos hl'] at hv2
  unfold fV at hv hv2
  have HV := Lib.hid hv; have HV2 := Lib.hid hv2
  obtain ⟨hA, hC, hB, hS⟩ := two_fresh w 47 47 #[.string (zS n0), .string (zS d0)] #[.string (zS m0), .string (zS c0)] _ rfl
  obtain ⟨t, ht⟩ : ∃ t, t = ordI (n0 * c0) (m0 * d0) := ⟨_, rfl⟩
  have hJ : ∀ w2, Below (w.heap.size + 2) ((w.alloc (.cells #[.string (zS n0), .string (zS d0)] 47)).alloc (.cells #[.string (zS m0), .string (zS c0)] 47)) w2 → CmpJ w.heap.size w t w2 := fun w2 hb =>
    ⟨n0, d0, m0, c0, hl.1, hl'.1, hn, hd9, hm, hc, hA.below hb (by omega), hC.below hb (by omega), hB.trans (hb.mono (by omega)), ht.symm⟩
  have HC := Lib.hid hC; have HJ := Lib.hid hJ; have HS := Lib.hid hS
  rw [← ht]
  clear hv hv2 hl hl' hA hC hB hJ ht hS
  obtain ⟨h1, h2, h3⟩ := hd
  unfold fV
  go_enter Tryz.func40, Tryz.ntmps40
  go_wp2_with fail
  refine wp_scope_jumps 0 (fun a' w' => CmpJ w.heap.size w t w' ∧ ∃ u5 u6 u7 u8 u9 u10 u11 u12 u13 u14 u15 u16 u17 u18 u19 u20 u21 u22 u23 u24 u25 u26 u27 u28 u29 u30 u31 u32 u33 u34 u35 u36 u37 u38 u39 u40 u41 u42 u43 u44 u45 u46 u47 u48 u49 u50 u51 u52 u53 u54 u55 u56 u57 u58 u59 u60 u61 u62 u63 u64 u65, a' = { tmps := #[.agg #[.string (zS n0), .string (zS d0)], .agg #[.string (zS m0), .string (zS c0)], .pointer (some ⟨w.heap.size, 0, none⟩), .pointer (some ⟨w.heap.size + 1, 0, none⟩), .int .i64 0, u5, u6, u7, u8, u9, u10, u11, u12, u13, u14, u15, u16, u17, u18, u19, u20, u21, u22, u23, u24, u25, u26, u27, u28, u29, u30, u31, u32, u33, u34, u35, u36, u37, u38, u39, u40, u41, u42, u43, u44, u45, u46, u47, u48, u49, u50, u51, u52, u53, u54, u55, u56, u57, u58, u59, u60, u61, u62, u63, u64, u65], defers := [] }) (fun _ w' => cmpMu w.heap.size w') rfl ?_ ?_
  · cases x
    case' false => clear h2 h3
    case' true => (obtain rfl : y = false := by simpa using h3); clear h3
    all_goals
      go_wp2_with fail
      refine (HV.out _).mono ?_
      rintro e wa ⟨rfl, hba⟩
      have hs := HS.out
      have hba2 := HC.out.below hba HC.out.lt
      have x0 := hba2.cell (i := 0) (v := .string (zS m0)) rfl; have x1 := hba2.cell (i := 1) (v := .string (zS c0)) rfl
      rw [hs] at hba
      have HBA := Lib.hid hba
      clear hba hba2 hs
      go_wp2_with fail
      refine (HV2.out _).mono ?_
      rintro e wb ⟨rfl, hbb⟩
      have hj := HJ.out wb (HBA.out.trans (hbb.mono (by have := HBA.out.size; have := HS.out; omega)))
      clear hbb HBA x0 x1 HV HV2 HJ HC HS hn hd9 hm hc
      go_wp2_with fail
      go_step3
      obtain ⟨n, d, m, c, hd0, hc0, n9, d9, m9, c9, hA, hC, hbl, ho⟩ := hj
      obtain ⟨q, hq⟩ : ∃ q, q = n / d := ⟨_, rfl⟩
      obtain ⟨r, hr⟩ : ∃ r, r = n % d := ⟨_, rfl⟩
      obtain ⟨p, hp⟩ : ∃ p, p = m / c := ⟨_, rfl⟩
      obtain ⟨v, hv⟩ : ∃ v, v = m % c := ⟨_, rfl⟩
      have hr0 := Int.emod_nonneg n (show d ≠ 0 by omega); have hr1 := Int.emod_lt_of_pos n hd0
      have hv0 := Int.emod_nonneg m (show c ≠ 0 by omega); have hv1 := Int.emod_lt_of_pos m hc0
      have hq9 : q.natAbs < 10 ^ 200 := by rw [hq]; exact Nat.lt_of_le_of_lt (Int.natAbs_ediv_le_natAbs n d) n9
      have hp9 : p.natAbs < 10 ^ 200 := by rw [hp]; exact Nat.lt_of_le_of_lt (Int.natAbs_ediv_le_natAbs m c) m9
      rw [← hr] at hr0 hr1
      rw [← hv] at hv0 hv1
      have hr9 : r.natAbs < 10 ^ 200 := by omega
      have hv9 : v.natAbs < 10 ^ 200 := by omega
      have D1 := Lib.hid (fun W => div_zz n d W n9 d9 q r (by omega) hq hr)
      have D2 := Lib.hid (fun W => div_zz m c W m9 c9 p v (by omega) hp hv)
      have C1 := Lib.hid (fun W => cmp_zz q p W hq9 hp9 _ rfl)
      have C2 := Lib.hid (fun W => cmp_zz r v W hr9 hv9 _ rfl)
      have a0 := hA.cell (i := 0) (v := .string (zS n)) rfl; have a1 := hA.cell (i := 1) (v := .string (zS d)) rfl
      have HA := Lib.hid hA; have HC := Lib.hid hC; have HBL := Lib.hid hbl; have HO := Lib.hid ho
      have HQ := Lib.hid hq; have HR := Lib.hid hr; have HP := Lib.hid hp; have HVV := Lib.hid hv
      have H9 := Lib.hid (And.intro hr0 (And.intro hr1 (And.intro hv0 (And.intro hv1 (And.intro hr9 (And.intro hv9 (And.intro d9 (And.intro c9 (And.intro hd0 hc0)))))))))
      clear hA hC hbl ho hq hr hp hv hr0 hr1 hv0 hv1 hq9 hp9 hr9 hv9 n9 d9 m9 c9 hd0 hc0
      by_cases hqp : q = p
      · have z0 : ordI q p = 0 := ordI_eq hqp
        rw [z0] at C1
        have hst : t = ordI (r * c) (v * d) := by rw [← HO.out, cmp_left (by rw [← HQ.out, ← HP.out]; exact hqp), ← HR.out, ← HVV.out]
        by_cases hr0 : r = 0
        · have k1 := is0_z r true (by simp [hr0])
          have hend : ordI r v = t := by rw [hst]; obtain ⟨e1, e2, e3, e4, e5, e6, e7, e8, e9, e10⟩ := H9.out; exact cmp_zero e9 e10 e1 e3 (.inl hr0)
          rw [hend] at C2
          clear hst hend hr0 z0 hqp
          go_wp2_with fail
          refine (D1.out _).mono ?_
          rintro e w1 ⟨rfl, hb1⟩
          have HC1 := Lib.hid (HC.out.below hb1 HC.out.lt)
          have HA1 := Lib.hid (HA.out.below hb1 HA.out.lt)
          have b0 := HC1.out.cell (i := 0) (v := .string (zS m)) rfl; have b1 := HC1.out.cell (i := 1) (v := .string (zS c)) rfl
          have HB1 := Lib.hid (HBL.out.trans (hb1.mono HBL.out.size))
          clear hb1
          go_wp2_with fail
          refine (D2.out _).mono ?_
          rintro e w2 ⟨rfl, hb2⟩
          have HC2 := Lib.hid (HC1.out.below hb2 HC1.out.lt)
          have HA2 := Lib.hid (HA1.out.below hb2 HA1.out.lt)
          have HB2 := Lib.hid (HB1.out.trans (hb2.mono HB1.out.size))
          clear hb2
          go_wp2_with fail
          refine (C1.out _).mono ?_
          rintro e w3 ⟨rfl, hb3⟩
          have HC3 := Lib.hid (HC2.out.below hb3 HC2.out.lt)
          have HA3 := Lib.hid (HA2.out.below hb3 HA2.out.lt)
          have HB3 := Lib.hid (HB2.out.trans (hb3.mono HB2.out.size))
          clear hb3
          go_wp2_with fail
          refine (C2.out _).mono ?_
          rintro e w4 ⟨rfl, hb4⟩
          go_wp2_with fail
          simp only [Exit.jump]
          go_ret
          exact ⟨rfl, HB3.out.trans (hb4.mono HB3.out.size)⟩
        · have k1 := is0_z r false (by simp [hr0])
          by_cases hv0 : v = 0
          · have k2 := is0_z v true (by simp [hv0])
            have hend : ordI r v = t := by rw [hst]; obtain ⟨e1, e2, e3, e4, e5, e6, e7, e8, e9, e10⟩ := H9.out; exact cmp_zero e9 e10 e1 e3 (.inr hv0)
            rw [hend] at C2
            clear hst hend hr0 hv0 z0 hqp
            go_wp2_with fail
            refine (D1.out _).mono ?_
            rintro e w1 ⟨rfl, hb1⟩
            have HC1 := Lib.hid (HC.out.below hb1 HC.out.lt)
            have HA1 := Lib.hid (HA.out.below hb1 HA.out.lt)
            have b0 := HC1.out.cell (i := 0) (v := .string (zS m)) rfl; have b1 := HC1.out.cell (i := 1) (v := .string (zS c)) rfl
            have HB1 := Lib.hid (HBL.out.trans (hb1.mono HBL.out.size))
            clear hb1
            go_wp2_with fail
            refine (D2.out _).mono ?_
            rintro e w2 ⟨rfl, hb2⟩
            have HC2 := Lib.hid (HC1.out.below hb2 HC1.out.lt)
            have HA2 := Lib.hid (HA1.out.below hb2 HA1.out.lt)
            have HB2 := Lib.hid (HB1.out.trans (hb2.mono HB1.out.size))
            clear hb2
            go_wp2_with fail
            refine (C1.out _).mono ?_
            rintro e w3 ⟨rfl, hb3⟩
            have HC3 := Lib.hid (HC2.out.below hb3 HC2.out.lt)
            have HA3 := Lib.hid (HA2.out.below hb3 HA2.out.lt)
            have HB3 := Lib.hid (HB2.out.trans (hb3.mono HB2.out.size))
            clear hb3
            go_wp2_with fail
            refine (C2.out _).mono ?_
            rintro e w4 ⟨rfl, hb4⟩
            go_wp2_with fail
            simp only [Exit.jump]
            go_ret
            exact ⟨rfl, HB3.out.trans (hb4.mono HB3.out.size)⟩
          · have k2 := is0_z v false (by simp [hv0])
            have HST : Hid (ordI (c * r) (d * v) = t) := by show _ = _; rw [hst, cmp_turn]
            have HRV := Lib.hid (And.intro hr0 hv0)
            clear hst hr0 hv0 z0 hqp
            go_wp2_with fail
            refine (D1.out _).mono ?_
            rintro e w1 ⟨rfl, hb1⟩
            have HC1 := Lib.hid (HC.out.below hb1 HC.out.lt)
            have HA1 := Lib.hid (HA.out.below hb1 HA.out.lt)
            have b0 := HC1.out.cell (i := 0) (v := .string (zS m)) rfl; have b1 := HC1.out.cell (i := 1) (v := .string (zS c)) rfl
            have HB1 := Lib.hid (HBL.out.trans (hb1.mono HBL.out.size))
            clear hb1
            go_wp2_with fail
            refine (D2.out _).mono ?_
            rintro e w2 ⟨rfl, hb2⟩
            have HC2 := Lib.hid (HC1.out.below hb2 HC1.out.lt)
            have HA2 := Lib.hid (HA1.out.below hb2 HA1.out.lt)
            have HB2 := Lib.hid (HB1.out.trans (hb2.mono HB1.out.size))
            clear hb2
            go_wp2_with fail
            refine (C1.out _).mono ?_
            rintro e w3 ⟨rfl, hb3⟩
            have HC3 := Lib.hid (HC2.out.below hb3 HC2.out.lt)
            have HA3 := Lib.hid (HA2.out.below hb3 HA2.out.lt)
            have HB3 := Lib.hid (HB2.out.trans (hb3.mono HB2.out.size))
            clear hb3
            have x0 := HA3.out.cell (i := 0) rfl; have x1 := HA3.out.cell (i := 1) (v := .string (zS d)) rfl; have y0 := HC3.out.cell (i := 0) rfl; have y1 := HC3.out.cell (i := 1) (v := .string (zS c)) rfl
            have g0 := HA3.out.frozen 0; have g1 := HA3.out.frozen 1; have g2 := HC3.out.frozen 0; have g3 := HC3.out.frozen 1
            have B3 := Lib.hid (HC3.out.far_two (b := w.heap.size) (by omega) (.string (zS c)) (.string (zS v)))
            have A3 := Lib.hid ((((HA3.out.set 0 (.string (zS c))).set 1 (.string (zS v))).far_two (b := w.heap.size + 1) (by omega) (.string (zS d)) (.string (zS r))))
            have B4 := Lib.hid ((B3.out.set 0 (.string (zS d))).set 1 (.string (zS r)))
            have z0 := B3.out.cell (i := 0) rfl; have z1 := B3.out.cell (i := 1) rfl
            have l0 := B3.out.frozen 0; have l1 := B3.out.frozen 1
            go_wp2_with fail
            go_step3
            have hj2 : CmpJ w.heap.size w t ((((w3.setCell ⟨w.heap.size, 0, none⟩ (.string (zS c))).setCell ⟨w.heap.size, 1, none⟩ (.string (zS v))).setCell ⟨w.heap.size + 1, 0, none⟩ (.string (zS d))).setCell ⟨w.heap.size + 1, 1, none⟩ (.string (zS r))) := by
              obtain ⟨e1, e2, e3, e4, e5, e6, e7, e8, e9, e10⟩ := H9.out
              obtain ⟨f1, f2⟩ := HRV.out
              exact ⟨c, v, d, r, by omega, by omega, e8, e6, e7, e5, A3.out, B4.out, (((HB3.out.setCell (p := ⟨w.heap.size, 0, none⟩) (Nat.le_refl _) _).setCell (p := ⟨w.heap.size, 1, none⟩) (Nat.le_refl _) _).setCell (p := ⟨w.heap.size + 1, 0, none⟩) (by show w.heap.size ≤ w.heap.size + 1; omega) _).setCell (p := ⟨w.heap.size + 1, 1, none⟩) (by show w.heap.size ≤ w.heap.size + 1; omega) _, HST.out⟩
            exact ⟨rfl, hj2, _, _, _, _, _, _, _, _, _, _, _, _, _, _, _, _, _, _, _, _, _, _, _, _, _, _, _, _, _, _, _, _, _, _, _, _, _, _, _, _, _, _, _, _, _, _, _, _, _, _, _, _, _, _, _, _, _, _, _, _, _, rfl⟩
      · have z0 : (ordI q p == 0) = false := by
          rcases Int.lt_or_gt_of_ne hqp with h | h
          · rw [ordI_lt h]; rfl
          · rw [ordI_gt h]; rfl
        have hend : ordI q p = t := by rw [← HO.out, HQ.out, HP.out]; obtain ⟨e1, e2, e3, e4, e5, e6, e7, e8, e9, e10⟩ := H9.out; exact cmp_whole e9 e10 (by rw [← HQ.out, ← HP.out]; exact hqp)
        rw [hend] at z0 C1
        clear hend hqp
        go_wp2_with fail
        refine (D1.out _).mono ?_
        rintro e w1 ⟨rfl, hb1⟩
        have HC1 := Lib.hid (HC.out.below hb1 HC.out.lt)
        have HA1 := Lib.hid (HA.out.below hb1 HA.out.lt)
        have b0 := HC1.out.cell (i := 0) (v := .string (zS m)) rfl; have b1 := HC1.out.cell (i := 1) (v := .string (zS c)) rfl
        have HB1 := Lib.hid (HBL.out.trans (hb1.mono HBL.out.size))
        clear hb1
        go_wp2_with fail
        refine (D2.out _).mono ?_
        rintro e w2 ⟨rfl, hb2⟩
        have HC2 := Lib.hid (HC1.out.below hb2 HC1.out.lt)
        have HA2 := Lib.hid (HA1.out.below hb2 HA1.out.lt)
        have HB2 := Lib.hid (HB1.out.trans (hb2.mono HB1.out.size))
        clear hb2
        go_wp2_with fail
        refine (C1.out _).mono ?_
        rintro e w3 ⟨rfl, hb3⟩
        have HC3 := Lib.hid (HC2.out.below hb3 HC2.out.lt)
        have HA3 := Lib.hid (HA2.out.below hb3 HA2.out.lt)
        have HB3 := Lib.hid (HB2.out.trans (hb3.mono HB2.out.size))
        clear hb3
        go_wp2_with fail
        simp only [Exit.jump]
        go_ret
        exact ⟨rfl, HB3.out⟩
  · rintro a' wr ⟨hj, u5, u6, u7, u8, u9, u10, u11, u12, u13, u14, u15, u16, u17, u18, u19, u20, u21, u22, u23, u24, u25, u26, u27, u28, u29, u30, u31, u32, u33, u34, u35, u36, u37, u38, u39, u40, u41, u42, u43, u44, u45, u46, u47, u48, u49, u50, u51, u52, u53, u54, u55, u56, u57, u58, u59, u60, u61, u62, u63, u64, u65, rfl⟩
    clear h1 h2 h3 HV HV2 HJ HC HS hn hd9 hm hc
    obtain ⟨n, d, m, c, hd0, hc0, n9, d9, m9, c9, hA, hC, hbl, ho⟩ := hj
    obtain ⟨q, hq⟩ : ∃ q, q = n / d := ⟨_, rfl⟩
    obtain ⟨r, hr⟩ : ∃ r, r = n % d := ⟨_, rfl⟩
    obtain ⟨p, hp⟩ : ∃ p, p = m / c := ⟨_, rfl⟩
    obtain ⟨v, hv⟩ : ∃ v, v = m % c := ⟨_, rfl⟩
    have hr0 := Int.emod_nonneg n (show d ≠ 0 by omega); have hr1 := Int.emod_lt_of_pos n hd0
    have hv0 := Int.emod_nonneg m (show c ≠ 0 by omega); have hv1 := Int.emod_lt_of_pos m hc0
    have hq9 : q.natAbs < 10 ^ 200 := by rw [hq]; exact Nat.lt_of_le_of_lt (Int.natAbs_ediv_le_natAbs n d) n9
    have hp9 : p.natAbs < 10 ^ 200 := by rw [hp]; exact Nat.lt_of_le_of_lt (Int.natAbs_ediv_le_natAbs m c) m9
    rw [← hr] at hr0 hr1
    rw [← hv] at hv0 hv1
    have hr9 : r.natAbs < 10 ^ 200 := by omega
    have hv9 : v.natAbs < 10 ^ 200 := by omega
    have D1 := Lib.hid (fun W => div_zz n d W n9 d9 q r (by omega) hq hr)
    have D2 := Lib.hid (fun W => div_zz m c W m9 c9 p v (by omega) hp hv)
    have C1 := Lib.hid (fun W => cmp_zz q p W hq9 hp9 _ rfl)
    have C2 := Lib.hid (fun W => cmp_zz r v W hr9 hv9 _ rfl)
    have a0 := hA.cell (i := 0) (v := .string (zS n)) rfl; have a1 := hA.cell (i := 1) (v := .string (zS d)) rfl
    have HA := Lib.hid hA; have HC := Lib.hid hC; have HBL := Lib.hid hbl; have HO := Lib.hid ho
    have HQ := Lib.hid hq; have HR := Lib.hid hr; have HP := Lib.hid hp; have HVV := Lib.hid hv
    have H9 := Lib.hid (And.intro hr0 (And.intro hr1 (And.intro hv0 (And.intro hv1 (And.intro hr9 (And.intro hv9 (And.intro d9 (And.intro c9 (And.intro hd0 hc0)))))))))
    clear hA hC hbl ho hq hr hp hv hr0 hr1 hv0 hv1 hq9 hp9 hr9 hv9 n9 d9 m9 c9 hd0 hc0
    by_cases hqp : q = p
    · have z0 : ordI q p = 0 := ordI_eq hqp
      rw [z0] at C1
      have hst : t = ordI (r * c) (v * d) := by rw [← HO.out, cmp_left (by rw [← HQ.out, ← HP.out]; exact hqp), ← HR.out, ← HVV.out]
      by_cases hr0 : r = 0
      · have k1 := is0_z r true (by simp [hr0])
        have hend : ordI r v = t := by rw [hst]; obtain ⟨e1, e2, e3, e4, e5, e6, e7, e8, e9, e10⟩ := H9.out; exact cmp_zero e9 e10 e1 e3 (.inl hr0)
        rw [hend] at C2
        clear hst hend hr0 z0 hqp
        go_wp2_with fail
        refine (D1.out _).mono ?_
        rintro e w1 ⟨rfl, hb1⟩
        have HC1 := Lib.hid (HC.out.below hb1 HC.out.lt)
        have HA1 := Lib.hid (HA.out.below hb1 HA.out.lt)
        have b0 := HC1.out.cell (i := 0) (v := .string (zS m)) rfl; have b1 := HC1.out.cell (i := 1) (v := .string (zS c)) rfl
        have HB1 := Lib.hid (HBL.out.trans (hb1.mono HBL.out.size))
        clear hb1
        go_wp2_with fail
        refine (D2.out _).mono ?_
        rintro e w2 ⟨rfl, hb2⟩
        have HC2 := Lib.hid (HC1.out.below hb2 HC1.out.lt)
        have HA2 := Lib.hid (HA1.out.below hb2 HA1.out.lt)
        have HB2 := Lib.hid (HB1.out.trans (hb2.mono HB1.out.size))
        clear hb2
        go_wp2_with fail
        refine (C1.out _).mono ?_
        rintro e w3 ⟨rfl, hb3⟩
        have HC3 := Lib.hid (HC2.out.below hb3 HC2.out.lt)
        have HA3 := Lib.hid (HA2.out.below hb3 HA2.out.lt)
        have HB3 := Lib.hid (HB2.out.trans (hb3.mono HB2.out.size))
        clear hb3
        go_wp2_with fail
        refine (C2.out _).mono ?_
        rintro e w4 ⟨rfl, hb4⟩
        go_wp2_with fail
        simp only [Exit.jump]
        go_ret
        exact ⟨rfl, HB3.out.trans (hb4.mono HB3.out.size)⟩
      · have k1 := is0_z r false (by simp [hr0])
        by_cases hv0 : v = 0
        · have k2 := is0_z v true (by simp [hv0])
          have hend : ordI r v = t := by rw [hst]; obtain ⟨e1, e2, e3, e4, e5, e6, e7, e8, e9, e10⟩ := H9.out; exact cmp_zero e9 e10 e1 e3 (.inr hv0)
          rw [hend] at C2
          clear hst hend hr0 hv0 z0 hqp
          go_wp2_with fail
          refine (D1.out _).mono ?_
          rintro e w1 ⟨rfl, hb1⟩
          have HC1 := Lib.hid (HC.out.below hb1 HC.out.lt)
          have HA1 := Lib.hid (HA.out.below hb1 HA.out.lt)
          have b0 := HC1.out.cell (i := 0) (v := .string (zS m)) rfl; have b1 := HC1.out.cell (i := 1) (v := .string (zS c)) rfl
          have HB1 := Lib.hid (HBL.out.trans (hb1.mono HBL.out.size))
          clear hb1
          go_wp2_with fail
          refine (D2.out _).mono ?_
          rintro e w2 ⟨rfl, hb2⟩
          have HC2 := Lib.hid (HC1.out.below hb2 HC1.out.lt)
          have HA2 := Lib.hid (HA1.out.below hb2 HA1.out.lt)
          have HB2 := Lib.hid (HB1.out.trans (hb2.mono HB1.out.size))
          clear hb2
          go_wp2_with fail
          refine (C1.out _).mono ?_
          rintro e w3 ⟨rfl, hb3⟩
          have HC3 := Lib.hid (HC2.out.below hb3 HC2.out.lt)
          have HA3 := Lib.hid (HA2.out.below hb3 HA2.out.lt)
          have HB3 := Lib.hid (HB2.out.trans (hb3.mono HB2.out.size))
          clear hb3
          go_wp2_with fail
          refine (C2.out _).mono ?_
          rintro e w4 ⟨rfl, hb4⟩
          go_wp2_with fail
          simp only [Exit.jump]
          go_ret
          exact ⟨rfl, HB3.out.trans (hb4.mono HB3.out.size)⟩
        · have k2 := is0_z v false (by simp [hv0])
          have HST : Hid (ordI (c * r) (d * v) = t) := by show _ = _; rw [hst, cmp_turn]
          have HRV := Lib.hid (And.intro hr0 hv0)
          clear hst hr0 hv0 z0 hqp
          go_wp2_with fail
          refine (D1.out _).mono ?_
          rintro e w1 ⟨rfl, hb1⟩
          have HC1 := Lib.hid (HC.out.below hb1 HC.out.lt)
          have HA1 := Lib.hid (HA.out.below hb1 HA.out.lt)
          have b0 := HC1.out.cell (i := 0) (v := .string (zS m)) rfl; have b1 := HC1.out.cell (i := 1) (v := .string (zS c)) rfl
          have HB1 := Lib.hid (HBL.out.trans (hb1.mono HBL.out.size))
          clear hb1
          go_wp2_with fail
          refine (D2.out _).mono ?_
          rintro e w2 ⟨rfl, hb2⟩
          have HC2 := Lib.hid (HC1.out.below hb2 HC1.out.lt)
          have HA2 := Lib.hid (HA1.out.below hb2 HA1.out.lt)
          have HB2 := Lib.hid (HB1.out.trans (hb2.mono HB1.out.size))
          clear hb2
          go_wp2_with fail
          refine (C1.out _).mono ?_
          rintro e w3 ⟨rfl, hb3⟩
          have HC3 := Lib.hid (HC2.out.below hb3 HC2.out.lt)
          have HA3 := Lib.hid (HA2.out.below hb3 HA2.out.lt)
          have HB3 := Lib.hid (HB2.out.trans (hb3.mono HB2.out.size))
          clear hb3
          have x0 := HA3.out.cell (i := 0) rfl; have x1 := HA3.out.cell (i := 1) (v := .string (zS d)) rfl; have y0 := HC3.out.cell (i := 0) rfl; have y1 := HC3.out.cell (i := 1) (v := .string (zS c)) rfl
          have g0 := HA3.out.frozen 0; have g1 := HA3.out.frozen 1; have g2 := HC3.out.frozen 0; have g3 := HC3.out.frozen 1
          have B3 := Lib.hid (HC3.out.far_two (b := w.heap.size) (by omega) (.string (zS c)) (.string (zS v)))
          have A3 := Lib.hid ((((HA3.out.set 0 (.string (zS c))).set 1 (.string (zS v))).far_two (b := w.heap.size + 1) (by omega) (.string (zS d)) (.string (zS r))))
          have B4 := Lib.hid ((B3.out.set 0 (.string (zS d))).set 1 (.string (zS r)))
          have z0 := B3.out.cell (i := 0) rfl; have z1 := B3.out.cell (i := 1) rfl
          have l0 := B3.out.frozen 0; have l1 := B3.out.frozen 1
          go_wp2_with fail
          go_step3
          have hj2 : CmpJ w.heap.size w t ((((w3.setCell ⟨w.heap.size, 0, none⟩ (.string (zS c))).setCell ⟨w.heap.size, 1, none⟩ (.string (zS v))).setCell ⟨w.heap.size + 1, 0, none⟩ (.string (zS d))).setCell ⟨w.heap.size + 1, 1, none⟩ (.string (zS r))) := by
            obtain ⟨e1, e2, e3, e4, e5, e6, e7, e8, e9, e10⟩ := H9.out
            obtain ⟨f1, f2⟩ := HRV.out
            exact ⟨c, v, d, r, by omega, by omega, e8, e6, e7, e5, A3.out, B4.out, (((HB3.out.setCell (p := ⟨w.heap.size, 0, none⟩) (Nat.le_refl _) _).setCell (p := ⟨w.heap.size, 1, none⟩) (Nat.le_refl _) _).setCell (p := ⟨w.heap.size + 1, 0, none⟩) (by show w.heap.size ≤ w.heap.size + 1; omega) _).setCell (p := ⟨w.heap.size + 1, 1, none⟩) (by show w.heap.size ≤ w.heap.size + 1; omega) _, HST.out⟩
          refine ⟨rfl, ⟨hj2, _, _, _, _, _, _, _, _, _, _, _, _, _, _, _, _, _, _, _, _, _, _, _, _, _, _, _, _, _, _, _, _, _, _, _, _, _, _, _, _, _, _, _, _, _, _, _, _, _, _, _, _, _, _, _, _, _, _, _, _, _, rfl⟩, ?_⟩
          obtain ⟨e1, e2, e3, e4, e5, e6, e7, e8, e9, e10⟩ := H9.out
          show cmpMu w.heap.size _ < cmpMu w.heap.size _
          rw [cmpMu_at A3.out B4.out e6 e5, cmpMu_at HA.out HC.out e7 e8]
          omega
    · have z0 : (ordI q p == 0) = false := by
        rcases Int.lt_or_gt_of_ne hqp with h | h
        · rw [ordI_lt h]; rfl
        · rw [ordI_gt h]; rfl
      have hend : ordI q p = t := by rw [← HO.out, HQ.out, HP.out]; obtain ⟨e1, e2, e3, e4, e5, e6, e7, e8, e9, e10⟩ := H9.out; exact cmp_whole e9 e10 (by rw [← HQ.out, ← HP.out]; exact hqp)
      rw [hend] at z0 C1
      clear hend hqp
      go_wp2_with fail
      refine (D1.out _).mono ?_
      rintro e w1 ⟨rfl, hb1⟩
      have HC1 := Lib.hid (HC.out.below hb1 HC.out.lt)
      have HA1 := Lib.hid (HA.out.below hb1 HA.out.lt)
      have b0 := HC1.out.cell (i := 0) (v := .string (zS m)) rfl; have b1 := HC1.out.cell (i := 1) (v := .string (zS c)) rfl
      have HB1 := Lib.hid (HBL.out.trans (hb1.mono HBL.out.size))
      clear hb1
      go_wp2_with fail
      refine (D2.out _).mono ?_
      rintro e w2 ⟨rfl, hb2⟩
      have HC2 := Lib.hid (HC1.out.below hb2 HC1.out.lt)
      have HA2 := Lib.hid (HA1.out.below hb2 HA1.out.lt)
      have HB2 := Lib.hid (HB1.out.trans (hb2.mono HB1.out.size))
      clear hb2
      go_wp2_with fail
      refine (C1.out _).mono ?_
      rintro e w3 ⟨rfl, hb3⟩
      have HC3 := Lib.hid (HC2.out.below hb3 HC2.out.lt)
      have HA3 := Lib.hid (HA2.out.below hb3 HA2.out.lt)
      have HB3 := Lib.hid (HB2.out.trans (hb3.mono HB2.out.size))
      clear hb3
      go_wp2_with fail
      simp only [Exit.jump]
      go_ret
      exact ⟨rfl, HB3.out⟩
theorem cmpQ_same (p : Option (Int × Int)) : cmpQ p p = 0 := by
  cases p with
  | none => rfl
  | some q => exact ordI_eq rfl
theorem fcmp_any (an ad bn bd : ByteArray) (w : World) (ha : an.size ≤ 9000000000000000000 ∧ ad.size ≤ 9000000000000000000) (hb : bn.size ≤ 9000000000000000000 ∧ bd.size ≤ 9000000000000000000) :
    Calls Tryz.prog 40 #[fV an ad, fV bn bd] w fun e w' => e = .returned (.int .i64 (cmpQ (rdQ an.data.toList ad.data.toList) (rdQ bn.data.toList bd.data.toList))) ∧ Below w.heap.size w w' := by
  by_cases hs : an = bn ∧ ad = bd
  · obtain ⟨rfl, rfl⟩ := hs
    rw [cmpQ_same]
    exact cmp_same an ad w
  · have hd : Dif an ad bn bd (an.toList == bn.toList) (ad.toList == bd.toList) := ⟨rfl, rfl, by
      have h1 : ∀ x y : ByteArray, (x.toList == y.toList) = true → x = y := fun x y h => by
        rw [toList_data, toList_data, beq_iff_eq] at h
        rw [← bs_self x, h, bs_self]
      cases h2 : (an.toList == bn.toList) with
      | false => rfl
      | true =>
        cases h3 : (ad.toList == bd.toList) with
        | false => rfl
        | true => exact absurd ⟨h1 _ _ h2, h1 _ _ h3⟩ hs⟩
    cases hp : rdQ an.data.toList ad.data.toList with
    | none => exact cmp_bad1 an ad bn bd w _ _ hd ha hp
    | some p =>
      cases hq : rdQ bn.data.toList bd.data.toList with
      | none => exact cmp_bad2 an ad bn bd w _ _ hd ha hb p hp hq
      | some q =>
        obtain ⟨p1, p2, p3⟩ := rdQ_some hp
        obtain ⟨q1, q2, q3⟩ := rdQ_some hq
        have e1 := bs_of_rd p1; have e2 := bs_of_rd p2; have e3 := bs_of_rd q1; have e4 := bs_of_rd q2
        subst e1 e2 e3 e4
        exact cmp_good p.1 p.2 q.1 q.2 w _ _ hd (rd_some p1).2.1 (rd_some p2).2.1 (rd_some q1).2.1 (rd_some q2).2.1 p3 q3
end Go.Proofs.YtgimceikeedkoaaGreat
