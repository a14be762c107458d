/- RationalMatchesReference: the law's walk. Conditions: ints; the strings' lengths are ints. -/
import Derived.Test.YtgokpdidhpogdaaGreatKMatI4
namespace Go.Proofs.YtgokpdidhpogdaaGreat
open Go.RowKit Go.Lib

set_option maxRecDepth 100000 in
set_option maxHeartbeats 40000000 in
theorem mat_law (xn xd yn yd : ByteArray) (l0 l1 l2 l3 m0 m1 m2 m3 s0 s1 nn dd pl : Int) (w : World) (hl0 : -9223372036854775808 ≤ l0 ∧ l0 ≤ 9223372036854775807) (hl1 : -9223372036854775808 ≤ l1 ∧ l1 ≤ 9223372036854775807) (hl2 : -9223372036854775808 ≤ l2 ∧ l2 ≤ 9223372036854775807) (hl3 : -9223372036854775808 ≤ l3 ∧ l3 ≤ 9223372036854775807) (hm0 : -9223372036854775808 ≤ m0 ∧ m0 ≤ 9223372036854775807) (hm1 : -9223372036854775808 ≤ m1 ∧ m1 ≤ 9223372036854775807) (hm2 : -9223372036854775808 ≤ m2 ∧ m2 ≤ 9223372036854775807) (hm3 : -9223372036854775808 ≤ m3 ∧ m3 ≤ 9223372036854775807) (hs0 : -9223372036854775808 ≤ s0 ∧ s0 ≤ 9223372036854775807) (hs1 : -9223372036854775808 ≤ s1 ∧ s1 ≤ 9223372036854775807) (hnn : -9223372036854775808 ≤ nn ∧ nn ≤ 9223372036854775807) (hdd : -9223372036854775808 ≤ dd ∧ dd ≤ 9223372036854775807) (hpl : -9223372036854775808 ≤ pl ∧ pl ≤ 9223372036854775807) :
    Calls Tryz.prog 3 #[.agg #[.string xn, .string xd], .agg #[.string yn, .string yd], .agg #[.int .i64 l0, .int .i64 l1, .int .i64 l2, .int .i64 l3], .agg #[.int .i64 m0, .int .i64 m1, .int .i64 m2, .int .i64 m3], .agg #[.int .i64 s0, .int .i64 s1], .int .i64 nn, .int .i64 dd, .int .i64 pl] w fun e w' => e = .returned (.bool true) ∧ Below w.heap.size w w' := by
  have HSA := Lib.hid (fun W => sane_any W)
  have HL1 := Lib.hid (fun W => rlong_any l0 l1 l2 l3 W hl0 hl1 hl2 hl3); have HL2 := Lib.hid (fun W => rlong_any m0 m1 m2 m3 W hm0 hm1 hm2 hm3); have HSM := Lib.hid (fun W => rsmall_any s0 s1 W hs0 hs1)
  have HC1 := Lib.hid (fun W => cut_any xn xd W); have HC2 := Lib.hid (fun W => cut_any yn yd W)
  have t1 := cutN_size 210 xn; have t2 := cutN_size 210 xd; have t3 := cutN_size 210 yn; have t4 := cutN_size 210 yd
  obtain ⟨a, ha⟩ : ∃ x, x = cutN 210 xn := ⟨_, rfl⟩
  obtain ⟨b, hb⟩ : ∃ x, x = cutN 210 xd := ⟨_, rfl⟩
  obtain ⟨c, hc⟩ : ∃ x, x = cutN 210 yn := ⟨_, rfl⟩
  obtain ⟨d, hd⟩ : ∃ x, x = cutN 210 yd := ⟨_, rfl⟩
  rw [← ha] at t1 HC1; rw [← hb] at t2 HC1; rw [← hc] at t3 HC2; rw [← hd] at t4 HC2
  have TT := Lib.hid (And.intro t1 (And.intro t2 (And.intro t3 t4)))
  have HOF := Lib.hid (of4_any nn dd hnn hdd)
  have HPK := Lib.hid (fun W => pick_any pl 32 W hpl (by omega)); have HPL := Lib.hid hpl
  have X_0 : Hid (Blk (((((w.alloc (.cells #[.string xn, .string xd] 23)).alloc (.cells #[.string yn, .string yd] 23)).alloc (.cells #[.int .i64 l0, .int .i64 l1, .int .i64 l2, .int .i64 l3] 24)).alloc (.cells #[.int .i64 m0, .int .i64 m1, .int .i64 m2, .int .i64 m3] 24)).alloc (.cells #[.int .i64 s0, .int .i64 s1] 25)) w.heap.size 23 #[.string xn, .string xd]) := allocs_blk [(#[.string xn, .string xd], 23), (#[.string yn, .string yd], 23), (#[.int .i64 l0, .int .i64 l1, .int .i64 l2, .int .i64 l3], 24), (#[.int .i64 m0, .int .i64 m1, .int .i64 m2, .int .i64 m3], 24), (#[.int .i64 s0, .int .i64 s1], 25)] w 0 _ rfl
  have Y_0 : Hid (Blk (((((w.alloc (.cells #[.string xn, .string xd] 23)).alloc (.cells #[.string yn, .string yd] 23)).alloc (.cells #[.int .i64 l0, .int .i64 l1, .int .i64 l2, .int .i64 l3] 24)).alloc (.cells #[.int .i64 m0, .int .i64 m1, .int .i64 m2, .int .i64 m3] 24)).alloc (.cells #[.int .i64 s0, .int .i64 s1] 25)) (w.heap.size + 1) 23 #[.string yn, .string yd]) := allocs_blk [(#[.string xn, .string xd], 23), (#[.string yn, .string yd], 23), (#[.int .i64 l0, .int .i64 l1, .int .i64 l2, .int .i64 l3], 24), (#[.int .i64 m0, .int .i64 m1, .int .i64 m2, .int .i64 m3], 24), (#[.int .i64 s0, .int .i64 s1], 25)] w 1 _ rfl
  have L_0 : Hid (Blk (((((w.alloc (.cells #[.string xn, .string xd] 23)).alloc (.cells #[.string yn, .string yd] 23)).alloc (.cells #[.int .i64 l0, .int .i64 l1, .int .i64 l2, .int .i64 l3] 24)).alloc (.cells #[.int .i64 m0, .int .i64 m1, .int .i64 m2, .int .i64 m3] 24)).alloc (.cells #[.int .i64 s0, .int .i64 s1] 25)) (w.heap.size + 2) 24 #[.int .i64 l0, .int .i64 l1, .int .i64 l2, .int .i64 l3]) := allocs_blk [(#[.string xn, .string xd], 23), (#[.string yn, .string yd], 23), (#[.int .i64 l0, .int .i64 l1, .int .i64 l2, .int .i64 l3], 24), (#[.int .i64 m0, .int .i64 m1, .int .i64 m2, .int .i64 m3], 24), (#[.int .i64 s0, .int .i64 s1], 25)] w 2 _ rfl
  have M_0 : Hid (Blk (((((w.alloc (.cells #[.string xn, .string xd] 23)).alloc (.cells #[.string yn, .string yd] 23)).alloc (.cells #[.int .i64 l0, .int .i64 l1, .int .i64 l2, .int .i64 l3] 24)).alloc (.cells #[.int .i64 m0, .int .i64 m1, .int .i64 m2, .int .i64 m3] 24)).alloc (.cells #[.int .i64 s0, .int .i64 s1] 25)) (w.heap.size + 3) 24 #[.int .i64 m0, .int .i64 m1, .int .i64 m2, .int .i64 m3]) := allocs_blk [(#[.string xn, .string xd], 23), (#[.string yn, .string yd], 23), (#[.int .i64 l0, .int .i64 l1, .int .i64 l2, .int .i64 l3], 24), (#[.int .i64 m0, .int .i64 m1, .int .i64 m2, .int .i64 m3], 24), (#[.int .i64 s0, .int .i64 s1], 25)] w 3 _ rfl
  have S_0 : Hid (Blk (((((w.alloc (.cells #[.string xn, .string xd] 23)).alloc (.cells #[.string yn, .string yd] 23)).alloc (.cells #[.int .i64 l0, .int .i64 l1, .int .i64 l2, .int .i64 l3] 24)).alloc (.cells #[.int .i64 m0, .int .i64 m1, .int .i64 m2, .int .i64 m3] 24)).alloc (.cells #[.int .i64 s0, .int .i64 s1] 25)) (w.heap.size + 4) 25 #[.int .i64 s0, .int .i64 s1]) := allocs_blk [(#[.string xn, .string xd], 23), (#[.string yn, .string yd], 23), (#[.int .i64 l0, .int .i64 l1, .int .i64 l2, .int .i64 l3], 24), (#[.int .i64 m0, .int .i64 m1, .int .i64 m2, .int .i64 m3], 24), (#[.int .i64 s0, .int .i64 s1], 25)] w 4 _ rfl
  have HB_0 : Hid (Below w.heap.size w (((((w.alloc (.cells #[.string xn, .string xd] 23)).alloc (.cells #[.string yn, .string yd] 23)).alloc (.cells #[.int .i64 l0, .int .i64 l1, .int .i64 l2, .int .i64 l3] 24)).alloc (.cells #[.int .i64 m0, .int .i64 m1, .int .i64 m2, .int .i64 m3] 24)).alloc (.cells #[.int .i64 s0, .int .i64 s1] 25))) := allocs_below [(#[.string xn, .string xd], 23), (#[.string yn, .string yd], 23), (#[.int .i64 l0, .int .i64 l1, .int .i64 l2, .int .i64 l3], 24), (#[.int .i64 m0, .int .i64 m1, .int .i64 m2, .int .i64 m3], 24), (#[.int .i64 s0, .int .i64 s1], 25)] w (Below.refl w.heap.size w) (Nat.le_refl _)
  clear t1 t2 t3 t4 ha hb hc hd hl0 hl1 hl2 hl3 hm0 hm1 hm2 hm3 hs0 hs1 hnn hdd hpl
  have NE_X_Y : Hid (w.heap.size ≠ (w.heap.size + 1)) := by show _ ≠ _; omega
  have NE_X_L : Hid (w.heap.size ≠ (w.heap.size + 2)) := by show _ ≠ _; omega
  have NE_X_M : Hid (w.heap.size ≠ (w.heap.size + 3)) := by show _ ≠ _; omega
  have NE_X_S : Hid (w.heap.size ≠ (w.heap.size + 4)) := by show _ ≠ _; omega
  have NE_Y_L : Hid ((w.heap.size + 1) ≠ (w.heap.size + 2)) := by show _ ≠ _; omega
  have NE_Y_M : Hid ((w.heap.size + 1) ≠ (w.heap.size + 3)) := by show _ ≠ _; omega
  have NE_Y_S : Hid ((w.heap.size + 1) ≠ (w.heap.size + 4)) := by show _ ≠ _; omega
  have NE_L_M : Hid ((w.heap.size + 2) ≠ (w.heap.size + 3)) := by show _ ≠ _; omega
  have NE_L_S : Hid ((w.heap.size + 2) ≠ (w.heap.size + 4)) := by show _ ≠ _; omega
  have NE_M_S : Hid ((w.heap.size + 3) ≠ (w.heap.size + 4)) := by show _ ≠ _; omega
  have SZ_X : Hid (w.heap.size ≤ w.heap.size) := by show _ ≤ _; omega
  have SZ_Y : Hid (w.heap.size ≤ (w.heap.size + 1)) := by show _ ≤ _; omega
  go_enter Tryz.func3, Tryz.ntmps3
  go_wp2_with fail
  refine (HSA.out _).mono ?_
  rintro e v0 ⟨rfl, hb⟩
  have X_1 : Hid (Blk v0 w.heap.size 23 #[.string xn, .string xd]) := Lib.hid (X_0.out.below hb X_0.out.lt)
  have Y_1 : Hid (Blk v0 (w.heap.size + 1) 23 #[.string yn, .string yd]) := Lib.hid (Y_0.out.below hb Y_0.out.lt)
  have L_1 : Hid (Blk v0 (w.heap.size + 2) 24 #[.int .i64 l0, .int .i64 l1, .int .i64 l2, .int .i64 l3]) := Lib.hid (L_0.out.below hb L_0.out.lt)
  have M_1 : Hid (Blk v0 (w.heap.size + 3) 24 #[.int .i64 m0, .int .i64 m1, .int .i64 m2, .int .i64 m3]) := Lib.hid (M_0.out.below hb M_0.out.lt)
  have S_1 : Hid (Blk v0 (w.heap.size + 4) 25 #[.int .i64 s0, .int .i64 s1]) := Lib.hid (S_0.out.below hb S_0.out.lt)
  have HB_1 : Hid (Below w.heap.size w v0) := Lib.hid (HB_0.out.trans (hb.mono HB_0.out.size))
  clear hb X_0 Y_0 L_0 M_0 S_0 HB_0
  have yy0 := X_1.out.cell (i := 0) (v := .string xn) rfl; have yy1 := X_1.out.cell (i := 1) (v := .string xd) rfl
  go_wp2_with fail
  refine (HC1.out _).mono ?_
  rintro e v1 ⟨rfl, hb⟩
  clear yy0 yy1
  have X_2 : Hid (Blk v1 w.heap.size 23 #[.string xn, .string xd]) := Lib.hid (X_1.out.below hb X_1.out.lt)
  have Y_2 : Hid (Blk v1 (w.heap.size + 1) 23 #[.string yn, .string yd]) := Lib.hid (Y_1.out.below hb Y_1.out.lt)
  have L_2 : Hid (Blk v1 (w.heap.size + 2) 24 #[.int .i64 l0, .int .i64 l1, .int .i64 l2, .int .i64 l3]) := Lib.hid (L_1.out.below hb L_1.out.lt)
  have M_2 : Hid (Blk v1 (w.heap.size + 3) 24 #[.int .i64 m0, .int .i64 m1, .int .i64 m2, .int .i64 m3]) := Lib.hid (M_1.out.below hb M_1.out.lt)
  have S_2 : Hid (Blk v1 (w.heap.size + 4) 25 #[.int .i64 s0, .int .i64 s1]) := Lib.hid (S_1.out.below hb S_1.out.lt)
  have HB_2 : Hid (Below w.heap.size w v1) := Lib.hid (HB_1.out.trans (hb.mono HB_1.out.size))
  clear hb X_1 Y_1 L_1 M_1 S_1 HB_1
  have yy0 := X_2.out.cell (i := 0) (v := .string xn) rfl
  have yy1 := X_2.out.frozen 0
  have yy2 := X_2.out.cell (i := 1) (v := .string xd) rfl
  have yy3 := X_2.out.frozen 1
  have Y_3 : Hid (Blk ((v1.setCell ⟨w.heap.size, 0, none⟩ (.string a)).setCell ⟨w.heap.size, 1, none⟩ (.string b)) (w.heap.size + 1) 23 #[.string yn, .string yd]) := Lib.hid (Y_2.out.far_two (Ne.symm NE_X_Y.out) (.string a) (.string b))
  have L_3 : Hid (Blk ((v1.setCell ⟨w.heap.size, 0, none⟩ (.string a)).setCell ⟨w.heap.size, 1, none⟩ (.string b)) (w.heap.size + 2) 24 #[.int .i64 l0, .int .i64 l1, .int .i64 l2, .int .i64 l3]) := Lib.hid (L_2.out.far_two (Ne.symm NE_X_L.out) (.string a) (.string b))
  have M_3 : Hid (Blk ((v1.setCell ⟨w.heap.size, 0, none⟩ (.string a)).setCell ⟨w.heap.size, 1, none⟩ (.string b)) (w.heap.size + 3) 24 #[.int .i64 m0, .int .i64 m1, .int .i64 m2, .int .i64 m3]) := Lib.hid (M_2.out.far_two (Ne.symm NE_X_M.out) (.string a) (.string b))
  have S_3 : Hid (Blk ((v1.setCell ⟨w.heap.size, 0, none⟩ (.string a)).setCell ⟨w.heap.size, 1, none⟩ (.string b)) (w.heap.size + 4) 25 #[.int .i64 s0, .int .i64 s1]) := Lib.hid (S_2.out.far_two (Ne.symm NE_X_S.out) (.string a) (.string b))
  have X_3 : Hid (Blk ((v1.setCell ⟨w.heap.size, 0, none⟩ (.string a)).setCell ⟨w.heap.size, 1, none⟩ (.string b)) w.heap.size 23 #[.string a, .string b]) := Lib.hid ((X_2.out.set 0 (.string a)).set 1 (.string b))
  have HB_3 : Hid (Below w.heap.size w ((v1.setCell ⟨w.heap.size, 0, none⟩ (.string a)).setCell ⟨w.heap.size, 1, none⟩ (.string b))) := Lib.hid ((HB_2.out.setCell (p := ⟨w.heap.size, 0, none⟩) SZ_X.out (.string a)).setCell (p := ⟨w.heap.size, 1, none⟩) SZ_X.out (.string b))
  clear HB_2 X_2 Y_2 L_2 M_2 S_2
  have yy4 := Y_3.out.cell (i := 0) (v := .string yn) rfl; have yy5 := Y_3.out.cell (i := 1) (v := .string yd) rfl
  go_wp2_with fail
  refine (HC2.out _).mono ?_
  rintro e v3 ⟨rfl, hb⟩
  clear yy0 yy1 yy2 yy3 yy4 yy5
  have X_4 : Hid (Blk v3 w.heap.size 23 #[.string a, .string b]) := Lib.hid (X_3.out.below hb X_3.out.lt)
  have Y_4 : Hid (Blk v3 (w.heap.size + 1) 23 #[.string yn, .string yd]) := Lib.hid (Y_3.out.below hb Y_3.out.lt)
  have L_4 : Hid (Blk v3 (w.heap.size + 2) 24 #[.int .i64 l0, .int .i64 l1, .int .i64 l2, .int .i64 l3]) := Lib.hid (L_3.out.below hb L_3.out.lt)
  have M_4 : Hid (Blk v3 (w.heap.size + 3) 24 #[.int .i64 m0, .int .i64 m1, .int .i64 m2, .int .i64 m3]) := Lib.hid (M_3.out.below hb M_3.out.lt)
  have S_4 : Hid (Blk v3 (w.heap.size + 4) 25 #[.int .i64 s0, .int .i64 s1]) := Lib.hid (S_3.out.below hb S_3.out.lt)
  have HB_4 : Hid (Below w.heap.size w v3) := Lib.hid (HB_3.out.trans (hb.mono HB_3.out.size))
  clear hb X_3 Y_3 L_3 M_3 S_3 HB_3
  have yy0 := Y_4.out.cell (i := 0) (v := .string yn) rfl
  have yy1 := Y_4.out.frozen 0
  have yy2 := Y_4.out.cell (i := 1) (v := .string yd) rfl
  have yy3 := Y_4.out.frozen 1
  have X_5 : Hid (Blk ((v3.setCell ⟨(w.heap.size + 1), 0, none⟩ (.string c)).setCell ⟨(w.heap.size + 1), 1, none⟩ (.string d)) w.heap.size 23 #[.string a, .string b]) := Lib.hid (X_4.out.far_two NE_X_Y.out (.string c) (.string d))
  have L_5 : Hid (Blk ((v3.setCell ⟨(w.heap.size + 1), 0, none⟩ (.string c)).setCell ⟨(w.heap.size + 1), 1, none⟩ (.string d)) (w.heap.size + 2) 24 #[.int .i64 l0, .int .i64 l1, .int .i64 l2, .int .i64 l3]) := Lib.hid (L_4.out.far_two (Ne.symm NE_Y_L.out) (.string c) (.string d))
  have M_5 : Hid (Blk ((v3.setCell ⟨(w.heap.size + 1), 0, none⟩ (.string c)).setCell ⟨(w.heap.size + 1), 1, none⟩ (.string d)) (w.heap.size + 3) 24 #[.int .i64 m0, .int .i64 m1, .int .i64 m2, .int .i64 m3]) := Lib.hid (M_4.out.far_two (Ne.symm NE_Y_M.out) (.string c) (.string d))
  have S_5 : Hid (Blk ((v3.setCell ⟨(w.heap.size + 1), 0, none⟩ (.string c)).setCell ⟨(w.heap.size + 1), 1, none⟩ (.string d)) (w.heap.size + 4) 25 #[.int .i64 s0, .int .i64 s1]) := Lib.hid (S_4.out.far_two (Ne.symm NE_Y_S.out) (.string c) (.string d))
  have Y_5 : Hid (Blk ((v3.setCell ⟨(w.heap.size + 1), 0, none⟩ (.string c)).setCell ⟨(w.heap.size + 1), 1, none⟩ (.string d)) (w.heap.size + 1) 23 #[.string c, .string d]) := Lib.hid ((Y_4.out.set 0 (.string c)).set 1 (.string d))
  have HB_5 : Hid (Below w.heap.size w ((v3.setCell ⟨(w.heap.size + 1), 0, none⟩ (.string c)).setCell ⟨(w.heap.size + 1), 1, none⟩ (.string d))) := Lib.hid ((HB_4.out.setCell (p := ⟨(w.heap.size + 1), 0, none⟩) SZ_Y.out (.string c)).setCell (p := ⟨(w.heap.size + 1), 1, none⟩) SZ_Y.out (.string d))
  clear HB_4 X_4 Y_4 L_4 M_4 S_4
  go_upto_region 4 with fail
  clear yy0 yy1 yy2 yy3
  go_cut [18] from 50 to 58 (fun s wx => ∃ (g : Nat) (Ls : List (ByteArray × ByteArray)), s = .slice (some ⟨g, 0, none⟩) 5 5 ∧ Below ((v3.setCell ⟨(w.heap.size + 1), 0, none⟩ (.string c)).setCell ⟨(w.heap.size + 1), 1, none⟩ (.string d)).heap.size ((v3.setCell ⟨(w.heap.size + 1), 0, none⟩ (.string c)).setCell ⟨(w.heap.size + 1), 1, none⟩ (.string d)) wx ∧ Ls.length = 5 ∧ (∀ q ∈ Ls, q.1.size ≤ 9000000000000000000 ∧ q.2.size ≤ 9000000000000000000) ∧ Blk wx g 23 (frCells Ls).toArray)
  case first =>
    have HK : Hid (∀ w', Below ((v3.setCell ⟨(w.heap.size + 1), 0, none⟩ (.string c)).setCell ⟨(w.heap.size + 1), 1, none⟩ (.string d)).heap.size ((v3.setCell ⟨(w.heap.size + 1), 0, none⟩ (.string c)).setCell ⟨(w.heap.size + 1), 1, none⟩ (.string d)) w' → w'.cell? ⟨w.heap.size, 0, none⟩ = some (.string a) ∧ w'.cell? ⟨w.heap.size, 1, none⟩ = some (.string b) ∧ w'.cell? ⟨(w.heap.size + 1), 0, none⟩ = some (.string c) ∧ w'.cell? ⟨(w.heap.size + 1), 1, none⟩ = some (.string d) ∧ w'.cell? ⟨(w.heap.size + 2), 0, none⟩ = some (.int .i64 l0) ∧ w'.cell? ⟨(w.heap.size + 2), 1, none⟩ = some (.int .i64 l1) ∧ w'.cell? ⟨(w.heap.size + 2), 2, none⟩ = some (.int .i64 l2) ∧ w'.cell? ⟨(w.heap.size + 2), 3, none⟩ = some (.int .i64 l3) ∧ w'.cell? ⟨(w.heap.size + 3), 0, none⟩ = some (.int .i64 m0) ∧ w'.cell? ⟨(w.heap.size + 3), 1, none⟩ = some (.int .i64 m1) ∧ w'.cell? ⟨(w.heap.size + 3), 2, none⟩ = some (.int .i64 m2) ∧ w'.cell? ⟨(w.heap.size + 3), 3, none⟩ = some (.int .i64 m3) ∧ w'.cell? ⟨(w.heap.size + 4), 0, none⟩ = some (.int .i64 s0) ∧ w'.cell? ⟨(w.heap.size + 4), 1, none⟩ = some (.int .i64 s1)) := fun W hW => ⟨(X_5.out.below hW X_5.out.lt).cell (i := 0) rfl, (X_5.out.below hW X_5.out.lt).cell (i := 1) rfl, (Y_5.out.below hW Y_5.out.lt).cell (i := 0) rfl, (Y_5.out.below hW Y_5.out.lt).cell (i := 1) rfl, (L_5.out.below hW L_5.out.lt).cell (i := 0) rfl, (L_5.out.below hW L_5.out.lt).cell (i := 1) rfl, (L_5.out.below hW L_5.out.lt).cell (i := 2) rfl, (L_5.out.below hW L_5.out.lt).cell (i := 3) rfl, (M_5.out.below hW M_5.out.lt).cell (i := 0) rfl, (M_5.out.below hW M_5.out.lt).cell (i := 1) rfl, (M_5.out.below hW M_5.out.lt).cell (i := 2) rfl, (M_5.out.below hW M_5.out.lt).cell (i := 3) rfl, (S_5.out.below hW S_5.out.lt).cell (i := 0) rfl, (S_5.out.below hW S_5.out.lt).cell (i := 1) rfl⟩
    have HY : Hid (Below ((v3.setCell ⟨(w.heap.size + 1), 0, none⟩ (.string c)).setCell ⟨(w.heap.size + 1), 1, none⟩ (.string d)).heap.size ((v3.setCell ⟨(w.heap.size + 1), 0, none⟩ (.string c)).setCell ⟨(w.heap.size + 1), 1, none⟩ (.string d)) ((v3.setCell ⟨(w.heap.size + 1), 0, none⟩ (.string c)).setCell ⟨(w.heap.size + 1), 1, none⟩ (.string d)).drew) := (Below.refl _ _).drew
    have hk0 := HK.out _ HY.out
    go_region_held3 (fun w' => w'.cell? ⟨w.heap.size, 0, none⟩ = some (.string a) ∧ w'.cell? ⟨w.heap.size, 1, none⟩ = some (.string b) ∧ w'.cell? ⟨(w.heap.size + 1), 0, none⟩ = some (.string c) ∧ w'.cell? ⟨(w.heap.size + 1), 1, none⟩ = some (.string d) ∧ w'.cell? ⟨(w.heap.size + 2), 0, none⟩ = some (.int .i64 l0) ∧ w'.cell? ⟨(w.heap.size + 2), 1, none⟩ = some (.int .i64 l1) ∧ w'.cell? ⟨(w.heap.size + 2), 2, none⟩ = some (.int .i64 l2) ∧ w'.cell? ⟨(w.heap.size + 2), 3, none⟩ = some (.int .i64 l3) ∧ w'.cell? ⟨(w.heap.size + 3), 0, none⟩ = some (.int .i64 m0) ∧ w'.cell? ⟨(w.heap.size + 3), 1, none⟩ = some (.int .i64 m1) ∧ w'.cell? ⟨(w.heap.size + 3), 2, none⟩ = some (.int .i64 m2) ∧ w'.cell? ⟨(w.heap.size + 3), 3, none⟩ = some (.int .i64 m3) ∧ w'.cell? ⟨(w.heap.size + 4), 0, none⟩ = some (.int .i64 s0) ∧ w'.cell? ⟨(w.heap.size + 4), 1, none⟩ = some (.int .i64 s1)) (first | exact HK.out _ HY.out | exact HK.out _ (HY.out.alloc HY.out.size _) | exact hk0 | go_keep)
      (first | (go_at_call 6; (with_reducible refine (HL1.out _).mono ?_); rintro e v ⟨n1, d1, hl1, hn1, hd1, rfl, h9⟩; have HY := Lib.hid (HY.out.trans (h9.mono HY.out.size)); clear h9; have S1 := Lib.hid (And.intro hn1 hd1); clear hl1 hn1 hd1) | (go_at_call 6; (with_reducible refine (HL2.out _).mono ?_); rintro e v ⟨n2, d2, hl2, hn2, hd2, rfl, h9⟩; have HY := Lib.hid (HY.out.trans (h9.mono HY.out.size)); clear h9; have S2 := Lib.hid (And.intro hn2 hd2); clear hl2 hn2 hd2) | (go_at_call 7; (with_reducible refine (HSM.out _).mono ?_); rintro e v ⟨n3, d3, hl3, hn3, hd3, rfl, h9⟩; have HY := Lib.hid (HY.out.trans (h9.mono HY.out.size)); clear h9; have S3 := Lib.hid (And.intro hn3 hd3); clear hl3 hn3 hd3))
    all_goals
      go_wp2_with fail
      go_meet
      refine ⟨_, [(a, b), (c, d), (zS n1, zS d1), (zS n2, zS d2), (zS n3, zS d3)], rfl, HY.out.alloc HY.out.size _, rfl, ?_, Blk.new _ _ _⟩
      obtain ⟨t1, t2, t3, t4⟩ := TT.out
      have u1 := zs n1 d1 (lt200 S1.out.1 (by omega)) (lt200 S1.out.2 (by omega)); have u2 := zs n2 d2 (lt200 S2.out.1 (by omega)) (lt200 S2.out.2 (by omega)); have u3 := zs n3 d3 (lt200 S3.out.1 (by omega)) (lt200 S3.out.2 (by omega))
      intro q hq
      simp only [List.mem_cons, List.not_mem_nil, or_false] at hq
      rcases hq with rfl | rfl | rfl | rfl | rfl
      · exact ⟨by show a.size ≤ _; omega, by show b.size ≤ _; omega⟩
      · exact ⟨by show c.size ≤ _; omega, by show d.size ≤ _; omega⟩
      · exact u1
      · exact u2
      · exact u3
  case rest =>
    obtain ⟨g, Ls, rfl, hcb, hlen, hsz, hG⟩ := hcut
    have HB_6 := Lib.hid (HB_5.out.trans (hcb.mono HB_5.out.size))
    have G_6 := Lib.hid hG; have HLEN := Lib.hid hlen; have HSZ := Lib.hid hsz
    clear hcb hlen hsz hG HB_5 HL1 HL2 HSM HC1 HC2 TT X_5 Y_5 L_5 M_5 S_5
    go_wp2_with fail
    go_loopw [19] (fun ii wr => ∃ i : Nat, ii = .int .i64 i ∧ i ≤ 5 ∧ Below w.heap.size w wr ∧ Blk wr g 23 (frCells Ls).toArray) (fun ii _ => 5 - (intOf ii).toNat)
    case atStart => exact ⟨0, rfl, Nat.zero_le _, HB_6.out, G_6.out⟩
    case round =>
      clear HB_6 G_6
      obtain ⟨i, rfl, hi, hb, hG⟩ := hrel
      have HB_7 := Lib.hid hb; have G_7 := Lib.hid hG; clear hb hG
      by_cases hlt : i < 5
      case neg =>
        obtain ⟨mn, md, me, k1, k2⟩ := HOF.out
        have C1 := Lib.hid k1; have C2 := Lib.hid k2
        obtain rfl : i = 5 := by omega
        clear k1 k2 hi hlt HPK HPL HLEN HSZ
        go_wp2_with fail
        refine (C1.out _).mono ?_
        rintro e v7 ⟨rfl, hb⟩
        have HB_8 : Hid (Below w.heap.size w (v7.alloc (.cells #[.string mn, .string md] 23))) := Lib.hid (allocs_below [(#[.string mn, .string md], 23)] _ (HB_7.out.trans (hb.mono HB_7.out.size)) (HB_7.out.trans (hb.mono HB_7.out.size)).size)
        have U_8 : Hid (Blk (v7.alloc (.cells #[.string mn, .string md] 23)) v7.heap.size 23 #[.string mn, .string md]) := Lib.hid (allocs_blk [(#[.string mn, .string md], 23)] v7 0 _ rfl)
        clear hb HB_7
        go_wp2_with fail
        refine (C2.out _).mono ?_
        rintro e v8 ⟨rfl, hb⟩
        have U_9 : Hid (Blk (v8.alloc (.cells #[.string mn, .string md] 23)) v7.heap.size 23 #[.string mn, .string md]) := Lib.hid (allocs_keep [(#[.string mn, .string md], 23)] _ (U_8.out.below hb U_8.out.lt))
        have HB_9 : Hid (Below w.heap.size w (v8.alloc (.cells #[.string mn, .string md] 23))) := Lib.hid (allocs_below [(#[.string mn, .string md], 23)] _ (HB_8.out.trans (hb.mono HB_8.out.size)) (HB_8.out.trans (hb.mono HB_8.out.size)).size)
        have V_9 : Hid (Blk (v8.alloc (.cells #[.string mn, .string md] 23)) v8.heap.size 23 #[.string mn, .string md]) := Lib.hid (allocs_blk [(#[.string mn, .string md], 23)] v8 0 _ rfl)
        clear hb U_8 HB_8
        have yy0 := U_9.out.cell (i := 0) (v := .string mn) rfl; have yy1 := U_9.out.cell (i := 1) (v := .string md) rfl
        have yy2 := V_9.out.cell (i := 0) (v := .string mn) rfl; have yy3 := V_9.out.cell (i := 1) (v := .string md) rfl
        go_wp2_with fail
        go_ret
        exact ⟨rfl, HB_9.out⟩
      case pos =>
        have q1 : (0 : Int) ≤ (i : Int) := by omega
        have q2 : (i : Int) < (5 : Int) := by omega
        have hil : i < Ls.length := by rw [HLEN.out]; exact hlt
        obtain ⟨f1, f2⟩ := frCells_at Ls i hil
        have s12 := HSZ.out Ls[i] (List.getElem_mem _)
        obtain ⟨u, hu⟩ : ∃ u, u = Ls[i].1 := ⟨_, rfl⟩
        obtain ⟨v, hv⟩ : ∃ v, v = Ls[i].2 := ⟨_, rfl⟩
        rw [← hu] at f1 s12; rw [← hv] at f2 s12
        have GI : Hid (∀ W, Blk W g 23 (frCells Ls).toArray → W.cell? ⟨g, i * 2, none⟩ = some (.string u) ∧ W.cell? ⟨g, i * 2 + 1, none⟩ = some (.string v)) := fun W h => ⟨h.cell (by simpa using f1), h.cell (by simpa using f2)⟩
        have S12 := Lib.hid s12
        clear f1 f2 s12 hu hv hil hi
        go_upto_block 2 with (fail)
        with_reducible refine inner_then _ _ _ ?hc g Ls i u v w wr _ _ _ _ _ _ _ _ _ _ _ _ _ _ _ _ _ _ _ _ _ _ _ _ _ _ _ _ _ _ _ _ _ _ _ _ _ _ _ _ _ _ _ _ _ _ _ _ _ _ _ _ _ _ _ _ _ _ _ _ _ _ _ _ _ _ _ _ _ _ _ _ _ _ _ _ _ _ _ _ _ _ _ _ _ _ _ _ _ _ _ _ _ _ _ _ _ _ _ _ _ _ _ _ _ _ _ _ _ _ _ _ _ _ _ _ _ _ _ _ _ _ _ _ _ _ _ _ _ _ _ _ _ _ _ _ _ _ _ _ _ _ _ _ _ _ _ _ _ _ _ _ _ _ _ _ _ _ _ _ _ _ _ _ _ _ _ _ _ _ _ _ _ _ _ _ _ _ _ _ _ _ _ _ _ _ _ _ _ _ _ _ _ _ _ _ _ _ _ _ _ _ _ _ _ _ _ _ _ _ _ _ _ _ _ _ _ _ _ _ _ _ _ _ _ _ _ _ _ _ _ _ _ _ _ _ _ _ _ _ _ _ _ _ _ _ _ _ _ _ _ _ _ _ _ _ _ _ _ _ _ _ _ _ _ HLEN HSZ GI S12 q1 q2 HB_7 G_7 ?rest
        case hc => kernel_rfl
        case rest =>
          intro wA hb hG
          intros
          have HB_8 := Lib.hid hb; have G_8 := Lib.hid hG; clear hb hG HB_7 G_7
          go_wp2_with fail
          refine (HPK.out _).mono ?_
          rintro e wp ⟨pk, hpk, rfl, rfl⟩
          have HPK2 : Hid (-9223372036854775808 ≤ (pk : Int) ∧ (pk : Int) ≤ 9223372036854775807) := by show _ ∧ _; omega
          clear hpk
          go_upto_block 4 with (fail)
          have P_9 : Hid (Blk (wA.alloc (.cells #[.int .i64 pl, .int .i64 (pk : Nat)] 3)) wA.heap.size 3 #[.int .i64 pl, .int .i64 (pk : Nat)]) := Lib.hid (Blk.new _ _ _)
          have G_9 : Hid (Blk (wA.alloc (.cells #[.int .i64 pl, .int .i64 (pk : Nat)] 3)) g 23 (frCells Ls).toArray) := Lib.hid (G_8.out.alloc _)
          have HB_9 : Hid (Below w.heap.size w (wA.alloc (.cells #[.int .i64 pl, .int .i64 (pk : Nat)] 3))) := Lib.hid (HB_8.out.alloc HB_8.out.size _)
          clear HB_8 G_8
          go_cut [] from 139 to 197 (fun wx => Below w.heap.size w wx ∧ Blk wx g 23 (frCells Ls).toArray)
          case first =>
            go_wp2_with fail
            go_loopw [139] (fun ii wr => ∃ j : Int, ii = .int .i64 j ∧ (j = 0 ∨ j = 1 ∨ j = 2) ∧ Below w.heap.size w wr ∧ Blk wr g 23 (frCells Ls).toArray ∧ Blk wr wA.heap.size 3 #[.int .i64 pl, .int .i64 (pk : Nat)]) (fun ii _ => 2 - (intOf ii).toNat)
            case atStart => exact ⟨0, rfl, .inl rfl, HB_9.out, G_9.out, P_9.out⟩
            case round =>
              clear HB_9 G_9 P_9
              obtain ⟨j, rfl, hj, hb, hG, hP⟩ := hrel
              have HB_10 := Lib.hid hb; have G_10 := Lib.hid hG; have P_10 := Lib.hid hP; clear hb hG hP
              rcases hj with rfl | rfl | rfl
              · obtain ⟨dn, de2, un, ue2, ez, uz, k1, k2, k3, k4⟩ := grid4_any u v pl S12.out HPL.out
                have C1 := Lib.hid k1; have C2 := Lib.hid k2; have C3 := Lib.hid k3; have C4 := Lib.hid k4; clear k1 k2 k3 k4
                have yy0 := P_10.out.cell (i := 0) (v := .int .i64 pl) rfl
                obtain ⟨gg1, gg2⟩ := GI.out _ G_10.out
                go_wp2_with fail
                refine (C1.out _).mono ?_
                rintro e a10 ⟨rfl, hb⟩
                clear yy0 gg1 gg2
                have G_11 : Hid (Blk (a10.alloc (.cells #[.string dn, .string de2] 23)) g 23 (frCells Ls).toArray) := Lib.hid (allocs_keep [(#[.string dn, .string de2], 23)] _ (G_10.out.below hb G_10.out.lt))
                have P_11 : Hid (Blk (a10.alloc (.cells #[.string dn, .string de2] 23)) wA.heap.size 3 #[.int .i64 pl, .int .i64 (pk : Nat)]) := Lib.hid (allocs_keep [(#[.string dn, .string de2], 23)] _ (P_10.out.below hb P_10.out.lt))
                have HB_11 : Hid (Below w.heap.size w (a10.alloc (.cells #[.string dn, .string de2] 23))) := Lib.hid (allocs_below [(#[.string dn, .string de2], 23)] _ (HB_10.out.trans (hb.mono HB_10.out.size)) (HB_10.out.trans (hb.mono HB_10.out.size)).size)
                have D1_11 : Hid (Blk (a10.alloc (.cells #[.string dn, .string de2] 23)) a10.heap.size 23 #[.string dn, .string de2]) := Lib.hid (allocs_blk [(#[.string dn, .string de2], 23)] a10 0 _ rfl)
                clear hb P_10 HB_10
                clear G_10
                obtain ⟨gg0, gg1⟩ := GI.out _ G_11.out
                go_wp2_with fail
                refine (C2.out _).mono ?_
                rintro e a11 ⟨rfl, hb⟩
                clear gg0 gg1
                have G_12 : Hid (Blk (a11.alloc (.cells #[.string dn, .string de2] 23)) g 23 (frCells Ls).toArray) := Lib.hid (allocs_keep [(#[.string dn, .string de2], 23)] _ (G_11.out.below hb G_11.out.lt))
                have P_12 : Hid (Blk (a11.alloc (.cells #[.string dn, .string de2] 23)) wA.heap.size 3 #[.int .i64 pl, .int .i64 (pk : Nat)]) := Lib.hid (allocs_keep [(#[.string dn, .string de2], 23)] _ (P_11.out.below hb P_11.out.lt))
                have D1_12 : Hid (Blk (a11.alloc (.cells #[.string dn, .string de2] 23)) a10.heap.size 23 #[.string dn, .string de2]) := Lib.hid (allocs_keep [(#[.string dn, .string de2], 23)] _ (D1_11.out.below hb D1_11.out.lt))
                have HB_12 : Hid (Below w.heap.size w (a11.alloc (.cells #[.string dn, .string de2] 23))) := Lib.hid (allocs_below [(#[.string dn, .string de2], 23)] _ (HB_11.out.trans (hb.mono HB_11.out.size)) (HB_11.out.trans (hb.mono HB_11.out.size)).size)
                have D2_12 : Hid (Blk (a11.alloc (.cells #[.string dn, .string de2] 23)) a11.heap.size 23 #[.string dn, .string de2]) := Lib.hid (allocs_blk [(#[.string dn, .string de2], 23)] a11 0 _ rfl)
                clear hb P_11 D1_11 HB_11
                clear G_11
                obtain ⟨gg0, gg1⟩ := GI.out _ G_12.out
                go_wp2_with fail
                refine (C3.out _).mono ?_
                rintro e a12 ⟨rfl, hb⟩
                clear gg0 gg1
                have G_13 : Hid (Blk (a12.alloc (.cells #[.string un, .string ue2] 23)) g 23 (frCells Ls).toArray) := Lib.hid (allocs_keep [(#[.string un, .string ue2], 23)] _ (G_12.out.below hb G_12.out.lt))
                have P_13 : Hid (Blk (a12.alloc (.cells #[.string un, .string ue2] 23)) wA.heap.size 3 #[.int .i64 pl, .int .i64 (pk : Nat)]) := Lib.hid (allocs_keep [(#[.string un, .string ue2], 23)] _ (P_12.out.below hb P_12.out.lt))
                have D1_13 : Hid (Blk (a12.alloc (.cells #[.string un, .string ue2] 23)) a10.heap.size 23 #[.string dn, .string de2]) := Lib.hid (allocs_keep [(#[.string un, .string ue2], 23)] _ (D1_12.out.below hb D1_12.out.lt))
                have D2_13 : Hid (Blk (a12.alloc (.cells #[.string un, .string ue2] 23)) a11.heap.size 23 #[.string dn, .string de2]) := Lib.hid (allocs_keep [(#[.string un, .string ue2], 23)] _ (D2_12.out.below hb D2_12.out.lt))
                have HB_13 : Hid (Below w.heap.size w (a12.alloc (.cells #[.string un, .string ue2] 23))) := Lib.hid (allocs_below [(#[.string un, .string ue2], 23)] _ (HB_12.out.trans (hb.mono HB_12.out.size)) (HB_12.out.trans (hb.mono HB_12.out.size)).size)
                have U1_13 : Hid (Blk (a12.alloc (.cells #[.string un, .string ue2] 23)) a12.heap.size 23 #[.string un, .string ue2]) := Lib.hid (allocs_blk [(#[.string un, .string ue2], 23)] a12 0 _ rfl)
                clear hb P_12 D1_12 D2_12 HB_12
                clear G_12
                obtain ⟨gg0, gg1⟩ := GI.out _ G_13.out
                go_wp2_with fail
                refine (C4.out _).mono ?_
                rintro e a13 ⟨rfl, hb⟩
                clear gg0 gg1
                have G_14 : Hid (Blk (a13.alloc (.cells #[.string un, .string ue2] 23)) g 23 (frCells Ls).toArray) := Lib.hid (allocs_keep [(#[.string un, .string ue2], 23)] _ (G_13.out.below hb G_13.out.lt))
                have P_14 : Hid (Blk (a13.alloc (.cells #[.string un, .string ue2] 23)) wA.heap.size 3 #[.int .i64 pl, .int .i64 (pk : Nat)]) := Lib.hid (allocs_keep [(#[.string un, .string ue2], 23)] _ (P_13.out.below hb P_13.out.lt))
                have D1_14 : Hid (Blk (a13.alloc (.cells #[.string un, .string ue2] 23)) a10.heap.size 23 #[.string dn, .string de2]) := Lib.hid (allocs_keep [(#[.string un, .string ue2], 23)] _ (D1_13.out.below hb D1_13.out.lt))
                have D2_14 : Hid (Blk (a13.alloc (.cells #[.string un, .string ue2] 23)) a11.heap.size 23 #[.string dn, .string de2]) := Lib.hid (allocs_keep [(#[.string un, .string ue2], 23)] _ (D2_13.out.below hb D2_13.out.lt))
                have U1_14 : Hid (Blk (a13.alloc (.cells #[.string un, .string ue2] 23)) a12.heap.size 23 #[.string un, .string ue2]) := Lib.hid (allocs_keep [(#[.string un, .string ue2], 23)] _ (U1_13.out.below hb U1_13.out.lt))
                have HB_14 : Hid (Below w.heap.size w (a13.alloc (.cells #[.string un, .string ue2] 23))) := Lib.hid (allocs_below [(#[.string un, .string ue2], 23)] _ (HB_13.out.trans (hb.mono HB_13.out.size)) (HB_13.out.trans (hb.mono HB_13.out.size)).size)
                have U2_14 : Hid (Blk (a13.alloc (.cells #[.string un, .string ue2] 23)) a13.heap.size 23 #[.string un, .string ue2]) := Lib.hid (allocs_blk [(#[.string un, .string ue2], 23)] a13 0 _ rfl)
                clear hb P_13 D1_13 D2_13 U1_13 HB_13
                clear G_13
                have yy0 := D1_14.out.cell (i := 0) (v := .string dn) rfl; have yy1 := D1_14.out.cell (i := 1) (v := .string de2) rfl
                have yy2 := D2_14.out.cell (i := 0) (v := .string dn) rfl; have yy3 := D2_14.out.cell (i := 1) (v := .string de2) rfl
                have yy4 := U1_14.out.cell (i := 0) (v := .string un) rfl; have yy5 := U1_14.out.cell (i := 1) (v := .string ue2) rfl
                have yy6 := U2_14.out.cell (i := 0) (v := .string un) rfl; have yy7 := U2_14.out.cell (i := 1) (v := .string ue2) rfl
                go_wp2_with fail
                go_roundw
                case rel => exact ⟨1, rfl, (by simp), HB_14.out, G_14.out, P_14.out⟩
                case measure => simp [intOf]
              · obtain ⟨dn, de2, un, ue2, ez, uz, k1, k2, k3, k4⟩ := grid4_any u v (pk : Int) S12.out HPK2.out
                have C1 := Lib.hid k1; have C2 := Lib.hid k2; have C3 := Lib.hid k3; have C4 := Lib.hid k4; clear k1 k2 k3 k4
                have yy0 := P_10.out.cell (i := 1) (v := .int .i64 (pk : Nat)) rfl
                obtain ⟨gg1, gg2⟩ := GI.out _ G_10.out
                go_wp2_with fail
                refine (C1.out _).mono ?_
                rintro e a10 ⟨rfl, hb⟩
                clear yy0 gg1 gg2
                have G_11 : Hid (Blk (a10.alloc (.cells #[.string dn, .string de2] 23)) g 23 (frCells Ls).toArray) := Lib.hid (allocs_keep [(#[.string dn, .string de2], 23)] _ (G_10.out.below hb G_10.out.lt))
                have P_11 : Hid (Blk (a10.alloc (.cells #[.string dn, .string de2] 23)) wA.heap.size 3 #[.int .i64 pl, .int .i64 (pk : Nat)]) := Lib.hid (allocs_keep [(#[.string dn, .string de2], 23)] _ (P_10.out.below hb P_10.out.lt))
                have HB_11 : Hid (Below w.heap.size w (a10.alloc (.cells #[.string dn, .string de2] 23))) := Lib.hid (allocs_below [(#[.string dn, .string de2], 23)] _ (HB_10.out.trans (hb.mono HB_10.out.size)) (HB_10.out.trans (hb.mono HB_10.out.size)).size)
                have D1_11 : Hid (Blk (a10.alloc (.cells #[.string dn, .string de2] 23)) a10.heap.size 23 #[.string dn, .string de2]) := Lib.hid (allocs_blk [(#[.string dn, .string de2], 23)] a10 0 _ rfl)
                clear hb P_10 HB_10
                clear G_10
                obtain ⟨gg0, gg1⟩ := GI.out _ G_11.out
                go_wp2_with fail
                refine (C2.out _).mono ?_
                rintro e a11 ⟨rfl, hb⟩
                clear gg0 gg1
                have G_12 : Hid (Blk (a11.alloc (.cells #[.string dn, .string de2] 23)) g 23 (frCells Ls).toArray) := Lib.hid (allocs_keep [(#[.string dn, .string de2], 23)] _ (G_11.out.below hb G_11.out.lt))
                have P_12 : Hid (Blk (a11.alloc (.cells #[.string dn, .string de2] 23)) wA.heap.size 3 #[.int .i64 pl, .int .i64 (pk : Nat)]) := Lib.hid (allocs_keep [(#[.string dn, .string de2], 23)] _ (P_11.out.below hb P_11.out.lt))
                have D1_12 : Hid (Blk (a11.alloc (.cells #[.string dn, .string de2] 23)) a10.heap.size 23 #[.string dn, .string de2]) := Lib.hid (allocs_keep [(#[.string dn, .string de2], 23)] _ (D1_11.out.below hb D1_11.out.lt))
                have HB_12 : Hid (Below w.heap.size w (a11.alloc (.cells #[.string dn, .string de2] 23))) := Lib.hid (allocs_below [(#[.string dn, .string de2], 23)] _ (HB_11.out.trans (hb.mono HB_11.out.size)) (HB_11.out.trans (hb.mono HB_11.out.size)).size)
                have D2_12 : Hid (Blk (a11.alloc (.cells #[.string dn, .string de2] 23)) a11.heap.size 23 #[.string dn, .string de2]) := Lib.hid (allocs_blk [(#[.string dn, .string de2], 23)] a11 0 _ rfl)
                clear hb P_11 D1_11 HB_11
                clear G_11
                obtain ⟨gg0, gg1⟩ := GI.out _ G_12.out
                go_wp2_with fail
                refine (C3.out _).mono ?_
                rintro e a12 ⟨rfl, hb⟩
                clear gg0 gg1
                have G_13 : Hid (Blk (a12.alloc (.cells #[.string un, .string ue2] 23)) g 23 (frCells Ls).toArray) := Lib.hid (allocs_keep [(#[.string un, .string ue2], 23)] _ (G_12.out.below hb G_12.out.lt))
                have P_13 : Hid (Blk (a12.alloc (.cells #[.string un, .string ue2] 23)) wA.heap.size 3 #[.int .i64 pl, .int .i64 (pk : Nat)]) := Lib.hid (allocs_keep [(#[.string un, .string ue2], 23)] _ (P_12.out.below hb P_12.out.lt))
                have D1_13 : Hid (Blk (a12.alloc (.cells #[.string un, .string ue2] 23)) a10.heap.size 23 #[.string dn, .string de2]) := Lib.hid (allocs_keep [(#[.string un, .string ue2], 23)] _ (D1_12.out.below hb D1_12.out.lt))
                have D2_13 : Hid (Blk (a12.alloc (.cells #[.string un, .string ue2] 23)) a11.heap.size 23 #[.string dn, .string de2]) := Lib.hid (allocs_keep [(#[.string un, .string ue2], 23)] _ (D2_12.out.below hb D2_12.out.lt))
                have HB_13 : Hid (Below w.heap.size w (a12.alloc (.cells #[.string un, .string ue2] 23))) := Lib.hid (allocs_below [(#[.string un, .string ue2], 23)] _ (HB_12.out.trans (hb.mono HB_12.out.size)) (HB_12.out.trans (hb.mono HB_12.out.size)).size)
                have U1_13 : Hid (Blk (a12.alloc (.cells #[.string un, .string ue2] 23)) a12.heap.size 23 #[.string un, .string ue2]) := Lib.hid (allocs_blk [(#[.string un, .string ue2], 23)] a12 0 _ rfl)
                clear hb P_12 D1_12 D2_12 HB_12
                clear G_12
                obtain ⟨gg0, gg1⟩ := GI.out _ G_13.out
                go_wp2_with fail
                refine (C4.out _).mono ?_
                rintro e a13 ⟨rfl, hb⟩
                clear gg0 gg1
                have G_14 : Hid (Blk (a13.alloc (.cells #[.string un, .string ue2] 23)) g 23 (frCells Ls).toArray) := Lib.hid (allocs_keep [(#[.string un, .string ue2], 23)] _ (G_13.out.below hb G_13.out.lt))
                have P_14 : Hid (Blk (a13.alloc (.cells #[.string un, .string ue2] 23)) wA.heap.size 3 #[.int .i64 pl, .int .i64 (pk : Nat)]) := Lib.hid (allocs_keep [(#[.string un, .string ue2], 23)] _ (P_13.out.below hb P_13.out.lt))
                have D1_14 : Hid (Blk (a13.alloc (.cells #[.string un, .string ue2] 23)) a10.heap.size 23 #[.string dn, .string de2]) := Lib.hid (allocs_keep [(#[.string un, .string ue2], 23)] _ (D1_13.out.below hb D1_13.out.lt))
                have D2_14 : Hid (Blk (a13.alloc (.cells #[.string un, .string ue2] 23)) a11.heap.size 23 #[.string dn, .string de2]) := Lib.hid (allocs_keep [(#[.string un, .string ue2], 23)] _ (D2_13.out.below hb D2_13.out.lt))
                have U1_14 : Hid (Blk (a13.alloc (.cells #[.string un, .string ue2] 23)) a12.heap.size 23 #[.string un, .string ue2]) := Lib.hid (allocs_keep [(#[.string un, .string ue2], 23)] _ (U1_13.out.below hb U1_13.out.lt))
                have HB_14 : Hid (Below w.heap.size w (a13.alloc (.cells #[.string un, .string ue2] 23))) := Lib.hid (allocs_below [(#[.string un, .string ue2], 23)] _ (HB_13.out.trans (hb.mono HB_13.out.size)) (HB_13.out.trans (hb.mono HB_13.out.size)).size)
                have U2_14 : Hid (Blk (a13.alloc (.cells #[.string un, .string ue2] 23)) a13.heap.size 23 #[.string un, .string ue2]) := Lib.hid (allocs_blk [(#[.string un, .string ue2], 23)] a13 0 _ rfl)
                clear hb P_13 D1_13 D2_13 U1_13 HB_13
                clear G_13
                have yy0 := D1_14.out.cell (i := 0) (v := .string dn) rfl; have yy1 := D1_14.out.cell (i := 1) (v := .string de2) rfl
                have yy2 := D2_14.out.cell (i := 0) (v := .string dn) rfl; have yy3 := D2_14.out.cell (i := 1) (v := .string de2) rfl
                have yy4 := U1_14.out.cell (i := 0) (v := .string un) rfl; have yy5 := U1_14.out.cell (i := 1) (v := .string ue2) rfl
                have yy6 := U2_14.out.cell (i := 0) (v := .string un) rfl; have yy7 := U2_14.out.cell (i := 1) (v := .string ue2) rfl
                go_wp2_with fail
                go_roundw
                case rel => exact ⟨2, rfl, (by simp), HB_14.out, G_14.out, P_14.out⟩
                case measure => simp [intOf]
              · go_wp2_with fail
                go_meet
                exact ⟨HB_10.out, G_10.out⟩
          case rest =>
            obtain ⟨hb, hG⟩ := hcut
            rename World => wB
            have HB_10 := Lib.hid hb; have G_10 := Lib.hid hG; clear hb hG HB_9 G_9 P_9
            have hil : 0 < Ls.length := by rw [HLEN.out]; omega
            obtain ⟨f1, f2⟩ := frCells_at Ls 0 hil
            have s56 := (HSZ.out Ls[0] (List.getElem_mem _)).2
            obtain ⟨dn0, hv⟩ : ∃ u, u = Ls[0].2 := ⟨_, rfl⟩
            rw [← hv] at f2 s56
            have G0 : Hid (∀ W, Blk W g 23 (frCells Ls).toArray → W.cell? ⟨g, 1, none⟩ = some (.string dn0)) := fun W h => h.cell (by simpa using f2)
            obtain ⟨mn, md, me, vb, k1, k2, k3, k4⟩ := make4_any u v dn0 S12.out s56
            have C1 := Lib.hid k1; have C2 := Lib.hid k2; have C3 := Lib.hid k3; have C4 := Lib.hid k4
            clear f1 f2 s56 hv hil k1 k2 k3 k4
            go_upto_region 32 with fail
            go_cut [37, 38] from 198 to 210 (fun p e wx => e = .int .i64 me ∧ Below wB.heap.size wB wx ∧ ∃ b, p = .pointer (some ⟨b, 0, none⟩) ∧ Blk wx b 23 #[.string mn, .string md])
            case first =>
              have HK : Hid (∀ w', Below wB.heap.size wB w' → w'.cell? ⟨g, i * 2, none⟩ = some (.string u) ∧ w'.cell? ⟨g, 1, none⟩ = some (.string dn0)) := fun W hW => ⟨(GI.out _ (G_10.out.below hW G_10.out.lt)).1, G0.out _ (G_10.out.below hW G_10.out.lt)⟩
              have hk0 := HK.out _ (Below.refl _ _).drew
              go_region_held3 (fun w' => w'.cell? ⟨g, i * 2, none⟩ = some (.string u) ∧ w'.cell? ⟨g, 1, none⟩ = some (.string dn0)) (first | exact HK.out _ ((x6a.setCell (Nat.le_refl _) _).setCell (Nat.le_refl _) _) | exact HK.out _ (x6a.alloc x6a.size _) | exact HK.out _ x6a | exact HK.out _ ((Below.refl _ _).alloc (Nat.le_refl _) _).drew | exact HK.out _ (Below.refl _ _).drew | exact hk0 | go_keep)
                (first
                  | (go_at_call 20; (with_reducible refine (C1.out _).mono ?_); rintro e v6 ⟨rfl, h6⟩; have x6a : Below wB.heap.size wB v6 := ((Below.refl _ _).drew.trans h6))
                  | (go_at_call 20; (with_reducible refine (C1.out _).mono ?_); rintro e v6 ⟨rfl, h6⟩; have x6a : Below wB.heap.size wB v6 := (((Below.refl _ _).alloc (Nat.le_refl _) _).drew.trans (h6.mono (by simp))); have hz := ((Blk.new wB 23 #[.string ⟨#[]⟩, .string ⟨#[]⟩]).drew).below h6 (by simp); have z0 := hz.cell (i := 0) rfl; have z1 := hz.cell (i := 1) rfl; have f0 := hz.frozen 0; have f1 := hz.frozen 1))
              all_goals
                go_wp2_with fail
                go_meet
                first
                  | exact ⟨rfl, (x6a.setCell (Nat.le_refl _) _).setCell (Nat.le_refl _) _, _, rfl, (hz.set 0 (.string mn)).set 1 (.string md)⟩
                  | exact ⟨rfl, x6a.alloc x6a.size _, _, rfl, Blk.new v6 _ _⟩
            case rest =>
              obtain ⟨rfl, hcb, q1b, rfl, hsm⟩ := hcut
              rename World => wC
              have G_11 := Lib.hid (G_10.out.below hcb G_10.out.lt)
              have HB_11 := Lib.hid (HB_10.out.trans (hcb.mono HB_10.out.size))
              have Q1_11 := Lib.hid hsm
              clear hcb hsm G_10 HB_10 
              go_upto_region 33 with fail
              go_cut [39, 40] from 211 to 223 (fun p e wx => e = .int .i64 me ∧ Below wC.heap.size wC wx ∧ ∃ b, p = .pointer (some ⟨b, 0, none⟩) ∧ Blk wx b 23 #[.string mn, .string md])
              case first =>
                have HK : Hid (∀ w', Below wC.heap.size wC w' → w'.cell? ⟨g, i * 2, none⟩ = some (.string u) ∧ w'.cell? ⟨g, 1, none⟩ = some (.string dn0)) := fun W hW => ⟨(GI.out _ (G_11.out.below hW G_11.out.lt)).1, G0.out _ (G_11.out.below hW G_11.out.lt)⟩
                have hk0 := HK.out _ (Below.refl _ _).drew
                go_region_held3 (fun w' => w'.cell? ⟨g, i * 2, none⟩ = some (.string u) ∧ w'.cell? ⟨g, 1, none⟩ = some (.string dn0)) (first | exact HK.out _ ((x6a.setCell (Nat.le_refl _) _).setCell (Nat.le_refl _) _) | exact HK.out _ (x6a.alloc x6a.size _) | exact HK.out _ x6a | exact HK.out _ ((Below.refl _ _).alloc (Nat.le_refl _) _).drew | exact HK.out _ (Below.refl _ _).drew | exact hk0 | go_keep)
                  (first
                    | (go_at_call 21; (with_reducible refine (C2.out _).mono ?_); rintro e v6 ⟨rfl, h6⟩; have x6a : Below wC.heap.size wC v6 := ((Below.refl _ _).drew.trans h6))
                    | (go_at_call 21; (with_reducible refine (C2.out _).mono ?_); rintro e v6 ⟨rfl, h6⟩; have x6a : Below wC.heap.size wC v6 := (((Below.refl _ _).alloc (Nat.le_refl _) _).drew.trans (h6.mono (by simp))); have hz := ((Blk.new wC 23 #[.string ⟨#[]⟩, .string ⟨#[]⟩]).drew).below h6 (by simp); have z0 := hz.cell (i := 0) rfl; have z1 := hz.cell (i := 1) rfl; have f0 := hz.frozen 0; have f1 := hz.frozen 1))
                all_goals
                  go_wp2_with fail
                  go_meet
                  first
                    | exact ⟨rfl, (x6a.setCell (Nat.le_refl _) _).setCell (Nat.le_refl _) _, _, rfl, (hz.set 0 (.string mn)).set 1 (.string md)⟩
                    | exact ⟨rfl, x6a.alloc x6a.size _, _, rfl, Blk.new v6 _ _⟩
              case rest =>
                obtain ⟨rfl, hcb, q2b, rfl, hsm⟩ := hcut
                rename World => wD
                have G_12 := Lib.hid (G_11.out.below hcb G_11.out.lt)
                have HB_12 := Lib.hid (HB_11.out.trans (hcb.mono HB_11.out.size))
                have Q1_12 := Lib.hid (Q1_11.out.below hcb Q1_11.out.lt)
                have Q2_12 := Lib.hid hsm
                clear hcb hsm G_11 HB_11 Q1_11
                go_upto_region 34 with fail
                go_cut [244] from 224 to 244 (fun b wx => b = .bool false ∧ Below wD.heap.size wD wx)
                case first =>
                  have HK : Hid (∀ w', Below wD.heap.size wD w' → (w'.cell? ⟨g, i * 2, none⟩ = some (.string u) ∧ w'.cell? ⟨g, i * 2 + 1, none⟩ = some (.string v)) ∧ w'.cell? ⟨q1b, 0, none⟩ = some (.string mn) ∧ w'.cell? ⟨q1b, 1, none⟩ = some (.string md) ∧ w'.cell? ⟨q2b, 0, none⟩ = some (.string mn) ∧ w'.cell? ⟨q2b, 1, none⟩ = some (.string md)) := fun W hW => ⟨GI.out _ (G_12.out.below hW G_12.out.lt), (Q1_12.out.below hW Q1_12.out.lt).cell (i := 0) rfl, (Q1_12.out.below hW Q1_12.out.lt).cell (i := 1) rfl, (Q2_12.out.below hW Q2_12.out.lt).cell (i := 0) rfl, (Q2_12.out.below hW Q2_12.out.lt).cell (i := 1) rfl⟩
                  have HY : Hid (Below wD.heap.size wD wD.drew) := (Below.refl _ _).drew
                  have hk0 := HK.out _ HY.out
                  go_region_held3 (fun w' => (w'.cell? ⟨g, i * 2, none⟩ = some (.string u) ∧ w'.cell? ⟨g, i * 2 + 1, none⟩ = some (.string v)) ∧ w'.cell? ⟨q1b, 0, none⟩ = some (.string mn) ∧ w'.cell? ⟨q1b, 1, none⟩ = some (.string md) ∧ w'.cell? ⟨q2b, 0, none⟩ = some (.string mn) ∧ w'.cell? ⟨q2b, 1, none⟩ = some (.string md)) (first | exact HK.out _ HY.out | exact hk0 | go_keep)
                    (first | (go_at_call 22; (with_reducible refine (C3.out _).mono ?_); rintro e v ⟨rfl, h9⟩; have HY := Lib.hid (HY.out.trans (h9.mono HY.out.size)); clear h9) | (go_at_call 23; (with_reducible refine (C4.out _).mono ?_); rintro e v ⟨rfl, h9⟩; have HY := Lib.hid (HY.out.trans (h9.mono HY.out.size)); clear h9))
                  all_goals
                    go_wp2_with fail
                    go_meet
                    exact ⟨rfl, HY.out⟩
                case rest =>
                  obtain ⟨rfl, hcb⟩ := hcut
                  have HZ := Lib.hid (HB_12.out.trans (hcb.mono HB_12.out.size)); have GZ := Lib.hid (G_12.out.below hcb G_12.out.lt)
                  clear hcb
                  go_wp2_with fail
                  go_roundw
                  case rel => exact ⟨i + 1, by go_num, by omega, HZ.out, GZ.out⟩
                  case measure => simp [intOf]; omega
end Go.Proofs.YtgokpdidhpogdaaGreat
