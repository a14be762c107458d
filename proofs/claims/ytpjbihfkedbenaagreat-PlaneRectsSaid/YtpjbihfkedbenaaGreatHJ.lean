/- The examples of the statements' package hold (sane). No conditions. -/
import Derived.Test.YtpjbihfkedbenaaGreatHH
import Derived.Test.YtpjbihfkedbenaaGreatHD
import Derived.Test.YtpjbihfkedbenaaGreatHC
import Derived.Test.YtpjbihfkedbenaaGreatHI
namespace Go.Proofs.YtpjbihfkedbenaaGreat
open Go.RowKit Go.Lib
def tri7 : List P7 := [⟨0, 0⟩, ⟨2, 0⟩, ⟨0, 2⟩]
def pen7 : List P7 := [⟨0, 0⟩, ⟨2, 0⟩, ⟨1, 1⟩, ⟨2, 2⟩, ⟨0, 2⟩]
def squ7 : List P7 := [⟨0, 0⟩, ⟨2, 0⟩, ⟨2, 2⟩, ⟨0, 2⟩]
theorem tri7_ls : Ls7 tri7 := by decide
theorem pen7_ls : Ls7 pen7 := by decide
theorem tri7_hul : hul7 fits7 tri7 = tri7 := by decide +kernel
theorem pen7_hul : hul7 fits7 pen7 = squ7 := by decide +kernel
theorem sn_d1 (W : World) : Yl 17 #[.agg #[.int .i64 0, .int .i64 2], .agg #[.int .i64 0, .int .i64 0], .agg #[.int .i64 2, .int .i64 2]] W (.tuple #[.agg #[.string (fn7 2 1), .string (fd7 2 1)], .int .i64 0]) := by
 have h := dist_yes ⟨0, 2⟩ ⟨0, 0⟩ ⟨2, 2⟩ W (by decide) (by decide) (by decide)
 rw [show dq7 ⟨0, 2⟩ ⟨0, 0⟩ ⟨2, 2⟩ = (16, 8) by decide] at h
 have e : red 16 8 = red 2 1 := by decide
 unfold fn7 fd7 at h ⊢
 rw [e] at h
 exact h
theorem sn_d2 (W : World) : Yl 17 #[.agg #[.int .i64 0, .int .i64 2], .agg #[.int .i64 2, .int .i64 0], .agg #[.int .i64 4, .int .i64 0]] W (.tuple #[.agg #[.string (fn7 8 1), .string (fd7 8 1)], .int .i64 0]) := by
 have h := dist_yes ⟨0, 2⟩ ⟨2, 0⟩ ⟨4, 0⟩ W (by decide) (by decide) (by decide)
 rw [show dq7 ⟨0, 2⟩ ⟨2, 0⟩ ⟨4, 0⟩ = (8, 1) by decide] at h
 exact h
theorem sn_c1 (W : World) (p : Nat) (h : Pz W (some ⟨p, 0, none⟩) tri7) : Yl 18 #[.slice (some ⟨p, 0, none⟩) 3 3, .agg #[.int .i64 0, .int .i64 0, .int .i64 1, .int .i64 1]] W (.tuple #[.agg #[.string (fn7 1 1), .string (fd7 1 1)], .int .i64 0]) := by
 have h2 := pcovered_yes tri7 (some ⟨p, 0, none⟩) 3 ⟨0, 0, 1, 1⟩ W h tri7_ls tri7_hul (by decide)
 rw [show cvq ⟨0, 0, 1, 1⟩ tri7 = some (red 1 1) by decide +kernel] at h2
 exact h2
theorem sn_c2 (W : World) (p : Nat) (h : Pz W (some ⟨p, 0, none⟩) tri7) : Yl 18 #[.slice (some ⟨p, 0, none⟩) 3 3, .agg #[.int .i64 0, .int .i64 0, .int .i64 2, .int .i64 1]] W (.tuple #[.agg #[.string (fn7 3 2), .string (fd7 3 2)], .int .i64 0]) := by
 have h2 := pcovered_yes tri7 (some ⟨p, 0, none⟩) 3 ⟨0, 0, 2, 1⟩ W h tri7_ls tri7_hul (by decide)
 rw [show cvq ⟨0, 0, 2, 1⟩ tri7 = some (red 3 2) by decide +kernel] at h2
 exact h2
theorem sn_a2 (W : World) (p : Nat) (h : Pz W (some ⟨p, 0, none⟩) tri7) : Yl 19 #[.slice (some ⟨p, 0, none⟩) 3 3] W (.tuple #[.int .i64 4, .int .i64 0]) := by
 have h2 := parea_yes tri7 (some ⟨p, 0, none⟩) 3 W h tri7_ls
 rw [show ar2 (egs tri7 tri7.length) = 4 by decide] at h2
 exact h2
theorem sn_ar (W : World) (p : Nat) (h : Pz W (some ⟨p, 0, none⟩) tri7) : Yl 14 #[.slice (some ⟨p, 0, none⟩) 3 3] W (.tuple #[.agg #[.int .i64 0, .int .i64 0, .int .i64 2, .int .i64 2], .int .i64 0]) := by
 have h2 := pAround_yes ⟨0, 0⟩ tri7 (some ⟨p, 0, none⟩) 3 W h tri7_ls rfl
 rw [show ar7 ⟨0, 0⟩ tri7 = ⟨0, 0, 2, 2⟩ by decide] at h2
 exact h2
theorem sn_hu (W : World) (p : Nat) (h : Pz W (some ⟨p, 0, none⟩) pen7) : Calls Tryz.prog 7 #[.slice (some ⟨p, 0, none⟩) 5 5] W fun e w' => (∃ A c, e = .returned (.tuple #[.slice A 4 c, .int .i64 0]) /\ Pz w' A squ7) /\ Below W.heap.size W w' := by
 have h2 := pHull_yes pen7 (some ⟨p, 0, none⟩) 5 W h pen7_ls
 rw [pen7_hul] at h2
 refine h2.mono ?_
 rintro e w' ⟨⟨v, rfl, ho⟩, hb⟩
 obtain ⟨A, c, rfl, hz, _⟩ := OwnL.read apP ho
 exact ⟨⟨A, c, rfl, hz⟩, hb⟩
theorem sn_sp (W : World) (A : Option Addr) (c p : Nat) (h1 : Pz W A squ7) (h2 : Pz W (some ⟨p, 0, none⟩) squ7) : Yl 9 #[.slice A 4 c, .slice (some ⟨p, 0, none⟩) 4 4] W (.bool true) := samep_yes squ7 A (some ⟨p, 0, none⟩) c 4 W h1 h2 (by decide)
theorem sn_s (W : World) : Yl 10 #[.agg #[.int .i64 0, .int .i64 0], .agg #[.int .i64 2, .int .i64 0], .agg #[.int .i64 1, .int .i64 1]] W (.int .i64 1) := side_any ⟨0, 0⟩ ⟨2, 0⟩ ⟨1, 1⟩ W
theorem sn_x1 (W : World) : Yl 20 #[.agg #[.int .i64 0, .int .i64 0], .agg #[.int .i64 2, .int .i64 2], .agg #[.int .i64 0, .int .i64 2], .agg #[.int .i64 2, .int .i64 0]] W (.bool true) := (cross_any ⟨0, 0⟩ ⟨2, 2⟩ ⟨0, 2⟩ ⟨2, 0⟩ W).eq (by rw [show cr7 ⟨0, 0⟩ ⟨2, 2⟩ ⟨0, 2⟩ ⟨2, 0⟩ = true by decide])
theorem sn_x2 (W : World) : Yl 20 #[.agg #[.int .i64 0, .int .i64 0], .agg #[.int .i64 1, .int .i64 1], .agg #[.int .i64 2, .int .i64 2], .agg #[.int .i64 3, .int .i64 3]] W (.bool false) := (cross_any ⟨0, 0⟩ ⟨1, 1⟩ ⟨2, 2⟩ ⟨3, 3⟩ W).eq (by rw [show cr7 ⟨0, 0⟩ ⟨1, 1⟩ ⟨2, 2⟩ ⟨3, 3⟩ = false by decide])
theorem sn_v1 (W : World) : Yl 21 #[.agg #[.int .i64 0, .int .i64 0, .int .i64 2, .int .i64 2]] W (.bool true) := vrect_yes ⟨0, 0, 2, 2⟩ W (by decide)
theorem sn_v2 (W : World) : Yl 21 #[.agg #[.int .i64 4095, .int .i64 0, .int .i64 1, .int .i64 0]] W (.bool false) := vrect_no ⟨4095, 0, 1, 0⟩ W (by decide)
theorem sn_t1 (W : World) : Yl 13 #[.agg #[.int .i64 0, .int .i64 0, .int .i64 2, .int .i64 2], .agg #[.int .i64 2, .int .i64 0, .int .i64 3, .int .i64 1]] W (.bool true) := (touch_any ⟨0, 0, 2, 2⟩ ⟨2, 0, 3, 1⟩ W).eq (by rw [show tc7 ⟨0, 0, 2, 2⟩ ⟨2, 0, 3, 1⟩ = true by decide])
theorem sn_t2 (W : World) : Yl 13 #[.agg #[.int .i64 0, .int .i64 0, .int .i64 2, .int .i64 2], .agg #[.int .i64 3, .int .i64 0, .int .i64 0, .int .i64 0]] W (.bool false) := (touch_any ⟨0, 0, 2, 2⟩ ⟨3, 0, 0, 0⟩ W).eq (by rw [show tc7 ⟨0, 0, 2, 2⟩ ⟨3, 0, 0, 0⟩ = false by decide])
theorem sn_i1 (W : World) : Yl 12 #[.agg #[.int .i64 1, .int .i64 0, .int .i64 1, .int .i64 0], .agg #[.int .i64 0, .int .i64 0, .int .i64 2, .int .i64 2]] W (.bool true) := (inside_any ⟨1, 0, 1, 0⟩ ⟨0, 0, 2, 2⟩ W).eq (by rw [show in7 ⟨1, 0, 1, 0⟩ ⟨0, 0, 2, 2⟩ = true by decide])
theorem sn_i2 (W : World) : Yl 12 #[.agg #[.int .i64 0, .int .i64 0, .int .i64 2, .int .i64 2], .agg #[.int .i64 1, .int .i64 0, .int .i64 1, .int .i64 0]] W (.bool false) := (inside_any ⟨0, 0, 2, 2⟩ ⟨1, 0, 1, 0⟩ W).eq (by rw [show in7 ⟨0, 0, 2, 2⟩ ⟨1, 0, 1, 0⟩ = false by decide])
theorem sn_p1 (W : World) : Yl 23 #[.agg #[.int .i64 0, .int .i64 4095]] W (.bool true) := vplace_yes ⟨0, 4095⟩ W (by decide)
theorem sn_p2 (W : World) : Yl 23 #[.agg #[.int .i64 0, .int .i64 4096]] W (.bool false) := vplace_no ⟨0, 4096⟩ W (by decide)
set_option maxRecDepth 100000 in
set_option maxHeartbeats 32000000 in
theorem sane7_any (w : World) : Yl 5 #[] w (.bool true) := by
 have HB_0 : Hid (Below w.heap.size w w) := Below.refl _ _
 have HR1 := Lib.hid (fun W => ratio_yes 2 1 W (by decide) (by decide) (by decide)); have HR2 := Lib.hid (fun W => ratio_yes 8 1 W (by decide) (by decide) (by decide)); have HR3 := Lib.hid (fun W => ratio_yes 1 1 W (by decide) (by decide) (by decide)); have HR4 := Lib.hid (fun W => ratio_yes 3 2 W (by decide) (by decide) (by decide))
 have HD1 := Lib.hid sn_d1; have HD2 := Lib.hid sn_d2; have HC1 := Lib.hid sn_c1; have HC2 := Lib.hid sn_c2
 generalize fn7 2 1 = a1 at *
 generalize fd7 2 1 = a2 at *
 generalize fn7 8 1 = b1 at *
 generalize fd7 8 1 = b2 at *
 generalize fn7 1 1 = c1 at *
 generalize fd7 1 1 = c2 at *
 generalize fn7 3 2 = d1 at *
 generalize fd7 3 2 = d2 at *
 go_enter Tryz.func5, Tryz.ntmps5
 go_wp2_with fail
 refine (at_any 0 2 _).mono ?_
 rintro e v0 ⟨rfl, hb⟩
 have HB_1 : Hid (Below w.heap.size w v0) := Lib.hid (HB_0.out.trans (hb.mono HB_0.out.size))
 clear hb HB_0
 go_wp2_with fail
 refine (at_any 0 0 _).mono ?_
 rintro e v1 ⟨rfl, hb⟩
 have HB_2 : Hid (Below w.heap.size w v1) := Lib.hid (HB_1.out.trans (hb.mono HB_1.out.size))
 clear hb HB_1
 go_wp2_with fail
 refine (at_any 2 2 _).mono ?_
 rintro e v2 ⟨rfl, hb⟩
 have HB_3 : Hid (Below w.heap.size w v2) := Lib.hid (HB_2.out.trans (hb.mono HB_2.out.size))
 clear hb HB_2
 go_wp2_with fail
 refine (HD1.out _).mono ?_
 rintro e v3 ⟨rfl, hb⟩
 have HB_4 : Hid (Below w.heap.size w (v3.alloc (.cells #[.string a1, .string a2] 48))) := Lib.hid (allocs_below [(#[.string a1, .string a2], 48)] _ (HB_3.out.trans (hb.mono HB_3.out.size)) (HB_3.out.trans (hb.mono HB_3.out.size)).size)
 have A_4 : Hid (Blk (v3.alloc (.cells #[.string a1, .string a2] 48)) v3.heap.size 48 #[.string a1, .string a2]) := Lib.hid (allocs_blk [(#[.string a1, .string a2], 48)] v3 0 _ rfl)
 clear hb HB_3
 go_wp2_with fail
 refine (at_any 0 2 _).mono ?_
 rintro e v4 ⟨rfl, hb⟩
 have A_5 : Hid (Blk v4 v3.heap.size 48 #[.string a1, .string a2]) := Lib.hid (A_4.out.below hb A_4.out.lt)
 have HB_5 : Hid (Below w.heap.size w v4) := Lib.hid (HB_4.out.trans (hb.mono HB_4.out.size))
 clear hb A_4 HB_4
 go_wp2_with fail
 refine (at_any 2 0 _).mono ?_
 rintro e v5 ⟨rfl, hb⟩
 have A_6 : Hid (Blk v5 v3.heap.size 48 #[.string a1, .string a2]) := Lib.hid (A_5.out.below hb A_5.out.lt)
 have HB_6 : Hid (Below w.heap.size w v5) := Lib.hid (HB_5.out.trans (hb.mono HB_5.out.size))
 clear hb A_5 HB_5
 go_wp2_with fail
 refine (at_any 4 0 _).mono ?_
 rintro e v6 ⟨rfl, hb⟩
 have A_7 : Hid (Blk v6 v3.heap.size 48 #[.string a1, .string a2]) := Lib.hid (A_6.out.below hb A_6.out.lt)
 have HB_7 : Hid (Below w.heap.size w v6) := Lib.hid (HB_6.out.trans (hb.mono HB_6.out.size))
 clear hb A_6 HB_6
 go_wp2_with fail
 refine (HD2.out _).mono ?_
 rintro e v7 ⟨rfl, hb⟩
 have A_8 : Hid (Blk (v7.alloc (.cells #[.string b1, .string b2] 48)) v3.heap.size 48 #[.string a1, .string a2]) := Lib.hid (allocs_keep [(#[.string b1, .string b2], 48)] _ (A_7.out.below hb A_7.out.lt))
 have HB_8 : Hid (Below w.heap.size w (v7.alloc (.cells #[.string b1, .string b2] 48))) := Lib.hid (allocs_below [(#[.string b1, .string b2], 48)] _ (HB_7.out.trans (hb.mono HB_7.out.size)) (HB_7.out.trans (hb.mono HB_7.out.size)).size)
 have B_8 : Hid (Blk (v7.alloc (.cells #[.string b1, .string b2] 48)) v7.heap.size 48 #[.string b1, .string b2]) := Lib.hid (allocs_blk [(#[.string b1, .string b2], 48)] v7 0 _ rfl)
 clear hb A_7 HB_7
 go_wp2_with fail
 refine (at_any 0 0 _).mono ?_
 rintro e v8 ⟨rfl, hb⟩
 have A_9 : Hid (Blk v8 v3.heap.size 48 #[.string a1, .string a2]) := Lib.hid (A_8.out.below hb A_8.out.lt)
 have B_9 : Hid (Blk v8 v7.heap.size 48 #[.string b1, .string b2]) := Lib.hid (B_8.out.below hb B_8.out.lt)
 have HB_9 : Hid (Below w.heap.size w v8) := Lib.hid (HB_8.out.trans (hb.mono HB_8.out.size))
 clear hb A_8 B_8 HB_8
 go_wp2_with fail
 refine (at_any 2 0 _).mono ?_
 rintro e v9 ⟨rfl, hb⟩
 have A_10 : Hid (Blk v9 v3.heap.size 48 #[.string a1, .string a2]) := Lib.hid (A_9.out.below hb A_9.out.lt)
 have B_10 : Hid (Blk v9 v7.heap.size 48 #[.string b1, .string b2]) := Lib.hid (B_9.out.below hb B_9.out.lt)
 have HB_10 : Hid (Below w.heap.size w v9) := Lib.hid (HB_9.out.trans (hb.mono HB_9.out.size))
 clear hb A_9 B_9 HB_9
 go_wp2_with fail
 refine (at_any 1 1 _).mono ?_
 rintro e v10 ⟨rfl, hb⟩
 have A_11 : Hid (Blk v10 v3.heap.size 48 #[.string a1, .string a2]) := Lib.hid (A_10.out.below hb A_10.out.lt)
 have B_11 : Hid (Blk v10 v7.heap.size 48 #[.string b1, .string b2]) := Lib.hid (B_10.out.below hb B_10.out.lt)
 have HB_11 : Hid (Below w.heap.size w v10) := Lib.hid (HB_10.out.trans (hb.mono HB_10.out.size))
 clear hb A_10 B_10 HB_10
 go_wp2_with fail
 refine (at_any 2 2 _).mono ?_
 rintro e v11 ⟨rfl, hb⟩
 have A_12 : Hid (Blk v11 v3.heap.size 48 #[.string a1, .string a2]) := Lib.hid (A_11.out.below hb A_11.out.lt)
 have B_12 : Hid (Blk v11 v7.heap.size 48 #[.string b1, .string b2]) := Lib.hid (B_11.out.below hb B_11.out.lt)
 have HB_12 : Hid (Below w.heap.size w v11) := Lib.hid (HB_11.out.trans (hb.mono HB_11.out.size))
 clear hb A_11 B_11 HB_11
 go_wp2_with fail
 refine (at_any 0 2 _).mono ?_
 rintro e v12 ⟨rfl, hb⟩
 have A_13 : Hid (Blk v12 v3.heap.size 48 #[.string a1, .string a2]) := Lib.hid (A_12.out.below hb A_12.out.lt)
 have B_13 : Hid (Blk v12 v7.heap.size 48 #[.string b1, .string b2]) := Lib.hid (B_12.out.below hb B_12.out.lt)
 have HB_13 : Hid (Below w.heap.size w v12) := Lib.hid (HB_12.out.trans (hb.mono HB_12.out.size))
 clear hb A_12 B_12 HB_12
 have HN := Lib.hid (pz_of (l := pen7) (Blk.new v12 31 #[.int .i64 0, .int .i64 0, .int .i64 2, .int .i64 0, .int .i64 1, .int .i64 1, .int .i64 2, .int .i64 2, .int .i64 0, .int .i64 2]))
 go_wp2_with fail
 refine (sn_hu _ _ HN.out).mono ?_
 rintro e v13 ⟨⟨A1, cp1, rfl, hz⟩, hb1⟩
 have hb := ((Below.refl v12.heap.size v12).alloc (Nat.le_refl _) _).trans (hb1.mono (by simp)); clear hb1 HN
 have FH_13 := Lib.hid hz
 have FH_14 : Hid (Pz v13 A1 squ7) := Lib.hid FH_13.out
 clear FH_13
 have A_14 : Hid (Blk v13 v3.heap.size 48 #[.string a1, .string a2]) := Lib.hid (A_13.out.below hb A_13.out.lt)
 have B_14 : Hid (Blk v13 v7.heap.size 48 #[.string b1, .string b2]) := Lib.hid (B_13.out.below hb B_13.out.lt)
 have HB_14 : Hid (Below w.heap.size w v13) := Lib.hid (HB_13.out.trans (hb.mono HB_13.out.size))
 clear hb A_13 B_13 HB_13
 go_wp2_with fail
 refine (at_any 0 0 _).mono ?_
 rintro e v14 ⟨rfl, hb⟩
 have FH_15 : Hid (Pz v14 A1 squ7) := Lib.hid (FH_14.out.below hb (Nat.le_refl _))
 clear FH_14
 have A_15 : Hid (Blk v14 v3.heap.size 48 #[.string a1, .string a2]) := Lib.hid (A_14.out.below hb A_14.out.lt)
 have B_15 : Hid (Blk v14 v7.heap.size 48 #[.string b1, .string b2]) := Lib.hid (B_14.out.below hb B_14.out.lt)
 have HB_15 : Hid (Below w.heap.size w v14) := Lib.hid (HB_14.out.trans (hb.mono HB_14.out.size))
 clear hb A_14 B_14 HB_14
 go_wp2_with fail
 refine (at_any 2 0 _).mono ?_
 rintro e v15 ⟨rfl, hb⟩
 have FH_16 : Hid (Pz v15 A1 squ7) := Lib.hid (FH_15.out.below hb (Nat.le_refl _))
 clear FH_15
 have A_16 : Hid (Blk v15 v3.heap.size 48 #[.string a1, .string a2]) := Lib.hid (A_15.out.below hb A_15.out.lt)
 have B_16 : Hid (Blk v15 v7.heap.size 48 #[.string b1, .string b2]) := Lib.hid (B_15.out.below hb B_15.out.lt)
 have HB_16 : Hid (Below w.heap.size w v15) := Lib.hid (HB_15.out.trans (hb.mono HB_15.out.size))
 clear hb A_15 B_15 HB_15
 go_wp2_with fail
 refine (at_any 0 2 _).mono ?_
 rintro e v16 ⟨rfl, hb⟩
 have FH_17 : Hid (Pz (v16.alloc (.cells #[.int .i64 0, .int .i64 0, .int .i64 2, .int .i64 0, .int .i64 0, .int .i64 2] 31)) A1 squ7) := Lib.hid (FH_16.out.below (allocs_below [(#[.int .i64 0, .int .i64 0, .int .i64 2, .int .i64 0, .int .i64 0, .int .i64 2], 31)] _ hb hb.size) (Nat.le_refl _))
 clear FH_16
 have A_17 : Hid (Blk (v16.alloc (.cells #[.int .i64 0, .int .i64 0, .int .i64 2, .int .i64 0, .int .i64 0, .int .i64 2] 31)) v3.heap.size 48 #[.string a1, .string a2]) := Lib.hid (allocs_keep [(#[.int .i64 0, .int .i64 0, .int .i64 2, .int .i64 0, .int .i64 0, .int .i64 2], 31)] _ (A_16.out.below hb A_16.out.lt))
 have B_17 : Hid (Blk (v16.alloc (.cells #[.int .i64 0, .int .i64 0, .int .i64 2, .int .i64 0, .int .i64 0, .int .i64 2] 31)) v7.heap.size 48 #[.string b1, .string b2]) := Lib.hid (allocs_keep [(#[.int .i64 0, .int .i64 0, .int .i64 2, .int .i64 0, .int .i64 0, .int .i64 2], 31)] _ (B_16.out.below hb B_16.out.lt))
 have HB_17 : Hid (Below w.heap.size w (v16.alloc (.cells #[.int .i64 0, .int .i64 0, .int .i64 2, .int .i64 0, .int .i64 0, .int .i64 2] 31))) := Lib.hid (allocs_below [(#[.int .i64 0, .int .i64 0, .int .i64 2, .int .i64 0, .int .i64 0, .int .i64 2], 31)] _ (HB_16.out.trans (hb.mono HB_16.out.size)) (HB_16.out.trans (hb.mono HB_16.out.size)).size)
 have TR_17 : Hid (Blk (v16.alloc (.cells #[.int .i64 0, .int .i64 0, .int .i64 2, .int .i64 0, .int .i64 0, .int .i64 2] 31)) v16.heap.size 31 #[.int .i64 0, .int .i64 0, .int .i64 2, .int .i64 0, .int .i64 0, .int .i64 2]) := Lib.hid (allocs_blk [(#[.int .i64 0, .int .i64 0, .int .i64 2, .int .i64 0, .int .i64 0, .int .i64 2], 31)] v16 0 _ rfl)
 clear hb A_16 B_16 HB_16
 go_wp2_with fail
 refine (HC1.out _ v16.heap.size (pz_of (l := tri7) TR_17.out)).mono ?_
 rintro e v17 ⟨rfl, hb⟩
 have FH_18 : Hid (Pz (v17.alloc (.cells #[.string c1, .string c2] 48)) A1 squ7) := Lib.hid (FH_17.out.below (allocs_below [(#[.string c1, .string c2], 48)] _ hb hb.size) (Nat.le_refl _))
 clear FH_17
 have A_18 : Hid (Blk (v17.alloc (.cells #[.string c1, .string c2] 48)) v3.heap.size 48 #[.string a1, .string a2]) := Lib.hid (allocs_keep [(#[.string c1, .string c2], 48)] _ (A_17.out.below hb A_17.out.lt))
 have B_18 : Hid (Blk (v17.alloc (.cells #[.string c1, .string c2] 48)) v7.heap.size 48 #[.string b1, .string b2]) := Lib.hid (allocs_keep [(#[.string c1, .string c2], 48)] _ (B_17.out.below hb B_17.out.lt))
 have TR_18 : Hid (Blk (v17.alloc (.cells #[.string c1, .string c2] 48)) v16.heap.size 31 #[.int .i64 0, .int .i64 0, .int .i64 2, .int .i64 0, .int .i64 0, .int .i64 2]) := Lib.hid (allocs_keep [(#[.string c1, .string c2], 48)] _ (TR_17.out.below hb TR_17.out.lt))
 have HB_18 : Hid (Below w.heap.size w (v17.alloc (.cells #[.string c1, .string c2] 48))) := Lib.hid (allocs_below [(#[.string c1, .string c2], 48)] _ (HB_17.out.trans (hb.mono HB_17.out.size)) (HB_17.out.trans (hb.mono HB_17.out.size)).size)
 have C_18 : Hid (Blk (v17.alloc (.cells #[.string c1, .string c2] 48)) v17.heap.size 48 #[.string c1, .string c2]) := Lib.hid (allocs_blk [(#[.string c1, .string c2], 48)] v17 0 _ rfl)
 clear hb A_17 B_17 TR_17 HB_17
 go_wp2_with fail
 refine (HC2.out _ v16.heap.size (pz_of (l := tri7) TR_18.out)).mono ?_
 rintro e v18 ⟨rfl, hb⟩
 have FH_19 : Hid (Pz (v18.alloc (.cells #[.string d1, .string d2] 48)) A1 squ7) := Lib.hid (FH_18.out.below (allocs_below [(#[.string d1, .string d2], 48)] _ hb hb.size) (Nat.le_refl _))
 clear FH_18
 have A_19 : Hid (Blk (v18.alloc (.cells #[.string d1, .string d2] 48)) v3.heap.size 48 #[.string a1, .string a2]) := Lib.hid (allocs_keep [(#[.string d1, .string d2], 48)] _ (A_18.out.below hb A_18.out.lt))
 have B_19 : Hid (Blk (v18.alloc (.cells #[.string d1, .string d2] 48)) v7.heap.size 48 #[.string b1, .string b2]) := Lib.hid (allocs_keep [(#[.string d1, .string d2], 48)] _ (B_18.out.below hb B_18.out.lt))
 have TR_19 : Hid (Blk (v18.alloc (.cells #[.string d1, .string d2] 48)) v16.heap.size 31 #[.int .i64 0, .int .i64 0, .int .i64 2, .int .i64 0, .int .i64 0, .int .i64 2]) := Lib.hid (allocs_keep [(#[.string d1, .string d2], 48)] _ (TR_18.out.below hb TR_18.out.lt))
 have C_19 : Hid (Blk (v18.alloc (.cells #[.string d1, .string d2] 48)) v17.heap.size 48 #[.string c1, .string c2]) := Lib.hid (allocs_keep [(#[.string d1, .string d2], 48)] _ (C_18.out.below hb C_18.out.lt))
 have HB_19 : Hid (Below w.heap.size w (v18.alloc (.cells #[.string d1, .string d2] 48))) := Lib.hid (allocs_below [(#[.string d1, .string d2], 48)] _ (HB_18.out.trans (hb.mono HB_18.out.size)) (HB_18.out.trans (hb.mono HB_18.out.size)).size)
 have D_19 : Hid (Blk (v18.alloc (.cells #[.string d1, .string d2] 48)) v18.heap.size 48 #[.string d1, .string d2]) := Lib.hid (allocs_blk [(#[.string d1, .string d2], 48)] v18 0 _ rfl)
 clear hb A_18 B_18 TR_18 C_18 HB_18
 go_wp2_with fail
 refine (sn_a2 _ v16.heap.size (pz_of (l := tri7) TR_19.out)).mono ?_
 rintro e v19 ⟨rfl, hb⟩
 have FH_20 : Hid (Pz v19 A1 squ7) := Lib.hid (FH_19.out.below hb (Nat.le_refl _))
 clear FH_19
 have A_20 : Hid (Blk v19 v3.heap.size 48 #[.string a1, .string a2]) := Lib.hid (A_19.out.below hb A_19.out.lt)
 have B_20 : Hid (Blk v19 v7.heap.size 48 #[.string b1, .string b2]) := Lib.hid (B_19.out.below hb B_19.out.lt)
 have TR_20 : Hid (Blk v19 v16.heap.size 31 #[.int .i64 0, .int .i64 0, .int .i64 2, .int .i64 0, .int .i64 0, .int .i64 2]) := Lib.hid (TR_19.out.below hb TR_19.out.lt)
 have C_20 : Hid (Blk v19 v17.heap.size 48 #[.string c1, .string c2]) := Lib.hid (C_19.out.below hb C_19.out.lt)
 have D_20 : Hid (Blk v19 v18.heap.size 48 #[.string d1, .string d2]) := Lib.hid (D_19.out.below hb D_19.out.lt)
 have HB_20 : Hid (Below w.heap.size w v19) := Lib.hid (HB_19.out.trans (hb.mono HB_19.out.size))
 clear hb A_19 B_19 TR_19 C_19 D_19 HB_19
 go_wp2_with fail
 refine (sn_ar _ v16.heap.size (pz_of (l := tri7) TR_20.out)).mono ?_
 rintro e v20 ⟨rfl, hb⟩
 have FH_21 : Hid (Pz (v20.alloc (.cells #[.int .i64 0, .int .i64 0, .int .i64 2, .int .i64 2] 39)) A1 squ7) := Lib.hid (FH_20.out.below (allocs_below [(#[.int .i64 0, .int .i64 0, .int .i64 2, .int .i64 2], 39)] _ hb hb.size) (Nat.le_refl _))
 clear FH_20
 have A_21 : Hid (Blk (v20.alloc (.cells #[.int .i64 0, .int .i64 0, .int .i64 2, .int .i64 2] 39)) v3.heap.size 48 #[.string a1, .string a2]) := Lib.hid (allocs_keep [(#[.int .i64 0, .int .i64 0, .int .i64 2, .int .i64 2], 39)] _ (A_20.out.below hb A_20.out.lt))
 have B_21 : Hid (Blk (v20.alloc (.cells #[.int .i64 0, .int .i64 0, .int .i64 2, .int .i64 2] 39)) v7.heap.size 48 #[.string b1, .string b2]) := Lib.hid (allocs_keep [(#[.int .i64 0, .int .i64 0, .int .i64 2, .int .i64 2], 39)] _ (B_20.out.below hb B_20.out.lt))
 have TR_21 : Hid (Blk (v20.alloc (.cells #[.int .i64 0, .int .i64 0, .int .i64 2, .int .i64 2] 39)) v16.heap.size 31 #[.int .i64 0, .int .i64 0, .int .i64 2, .int .i64 0, .int .i64 0, .int .i64 2]) := Lib.hid (allocs_keep [(#[.int .i64 0, .int .i64 0, .int .i64 2, .int .i64 2], 39)] _ (TR_20.out.below hb TR_20.out.lt))
 have C_21 : Hid (Blk (v20.alloc (.cells #[.int .i64 0, .int .i64 0, .int .i64 2, .int .i64 2] 39)) v17.heap.size 48 #[.string c1, .string c2]) := Lib.hid (allocs_keep [(#[.int .i64 0, .int .i64 0, .int .i64 2, .int .i64 2], 39)] _ (C_20.out.below hb C_20.out.lt))
 have D_21 : Hid (Blk (v20.alloc (.cells #[.int .i64 0, .int .i64 0, .int .i64 2, .int .i64 2] 39)) v18.heap.size 48 #[.string d1, .string d2]) := Lib.hid (allocs_keep [(#[.int .i64 0, .int .i64 0, .int .i64 2, .int .i64 2], 39)] _ (D_20.out.below hb D_20.out.lt))
 have HB_21 : Hid (Below w.heap.size w (v20.alloc (.cells #[.int .i64 0, .int .i64 0, .int .i64 2, .int .i64 2] 39))) := Lib.hid (allocs_below [(#[.int .i64 0, .int .i64 0, .int .i64 2, .int .i64 2], 39)] _ (HB_20.out.trans (hb.mono HB_20.out.size)) (HB_20.out.trans (hb.mono HB_20.out.size)).size)
 have R_21 : Hid (Blk (v20.alloc (.cells #[.int .i64 0, .int .i64 0, .int .i64 2, .int .i64 2] 39)) v20.heap.size 39 #[.int .i64 0, .int .i64 0, .int .i64 2, .int .i64 2]) := Lib.hid (allocs_blk [(#[.int .i64 0, .int .i64 0, .int .i64 2, .int .i64 2], 39)] v20 0 _ rfl)
 clear hb A_20 B_20 TR_20 C_20 D_20 HB_20
 have yy0 := R_21.out.cell (i := 0) (v := .int .i64 0) rfl; have yy1 := R_21.out.cell (i := 1) (v := .int .i64 0) rfl; have yy2 := R_21.out.cell (i := 2) (v := .int .i64 2) rfl; have yy3 := R_21.out.cell (i := 3) (v := .int .i64 2) rfl
 go_wp2_with fail
 refine (pHull_nil _).mono ?_
 rintro e v21 ⟨rfl, hb⟩
 clear yy0 yy1 yy2 yy3
 have FH_22 : Hid (Pz v21 A1 squ7) := Lib.hid (FH_21.out.below hb (Nat.le_refl _))
 clear FH_21
 have A_22 : Hid (Blk v21 v3.heap.size 48 #[.string a1, .string a2]) := Lib.hid (A_21.out.below hb A_21.out.lt)
 have B_22 : Hid (Blk v21 v7.heap.size 48 #[.string b1, .string b2]) := Lib.hid (B_21.out.below hb B_21.out.lt)
 have TR_22 : Hid (Blk v21 v16.heap.size 31 #[.int .i64 0, .int .i64 0, .int .i64 2, .int .i64 0, .int .i64 0, .int .i64 2]) := Lib.hid (TR_21.out.below hb TR_21.out.lt)
 have C_22 : Hid (Blk v21 v17.heap.size 48 #[.string c1, .string c2]) := Lib.hid (C_21.out.below hb C_21.out.lt)
 have D_22 : Hid (Blk v21 v18.heap.size 48 #[.string d1, .string d2]) := Lib.hid (D_21.out.below hb D_21.out.lt)
 have R_22 : Hid (Blk v21 v20.heap.size 39 #[.int .i64 0, .int .i64 0, .int .i64 2, .int .i64 2]) := Lib.hid (R_21.out.below hb R_21.out.lt)
 have HB_22 : Hid (Below w.heap.size w v21) := Lib.hid (HB_21.out.trans (hb.mono HB_21.out.size))
 clear hb A_21 B_21 TR_21 C_21 D_21 R_21 HB_21
 have yy0 := R_22.out.cell (i := 0) (v := .int .i64 0) rfl; have yy1 := R_22.out.cell (i := 1) (v := .int .i64 0) rfl; have yy2 := R_22.out.cell (i := 2) (v := .int .i64 2) rfl; have yy3 := R_22.out.cell (i := 3) (v := .int .i64 2) rfl
 go_wp2_with fail
 refine (at_any 0 0 _).mono ?_
 rintro e v22 ⟨rfl, hb⟩
 clear yy0 yy1 yy2 yy3
 have FH_23 : Hid (Pz v22 A1 squ7) := Lib.hid (FH_22.out.below hb (Nat.le_refl _))
 clear FH_22
 have A_23 : Hid (Blk v22 v3.heap.size 48 #[.string a1, .string a2]) := Lib.hid (A_22.out.below hb A_22.out.lt)
 have B_23 : Hid (Blk v22 v7.heap.size 48 #[.string b1, .string b2]) := Lib.hid (B_22.out.below hb B_22.out.lt)
 have TR_23 : Hid (Blk v22 v16.heap.size 31 #[.int .i64 0, .int .i64 0, .int .i64 2, .int .i64 0, .int .i64 0, .int .i64 2]) := Lib.hid (TR_22.out.below hb TR_22.out.lt)
 have C_23 : Hid (Blk v22 v17.heap.size 48 #[.string c1, .string c2]) := Lib.hid (C_22.out.below hb C_22.out.lt)
 have D_23 : Hid (Blk v22 v18.heap.size 48 #[.string d1, .string d2]) := Lib.hid (D_22.out.below hb D_22.out.lt)
 have R_23 : Hid (Blk v22 v20.heap.size 39 #[.int .i64 0, .int .i64 0, .int .i64 2, .int .i64 2]) := Lib.hid (R_22.out.below hb R_22.out.lt)
 have HB_23 : Hid (Below w.heap.size w v22) := Lib.hid (HB_22.out.trans (hb.mono HB_22.out.size))
 clear hb A_22 B_22 TR_22 C_22 D_22 R_22 HB_22
 go_wp2_with fail
 refine (at_any 2 0 _).mono ?_
 rintro e v23 ⟨rfl, hb⟩
 have FH_24 : Hid (Pz v23 A1 squ7) := Lib.hid (FH_23.out.below hb (Nat.le_refl _))
 clear FH_23
 have A_24 : Hid (Blk v23 v3.heap.size 48 #[.string a1, .string a2]) := Lib.hid (A_23.out.below hb A_23.out.lt)
 have B_24 : Hid (Blk v23 v7.heap.size 48 #[.string b1, .string b2]) := Lib.hid (B_23.out.below hb B_23.out.lt)
 have TR_24 : Hid (Blk v23 v16.heap.size 31 #[.int .i64 0, .int .i64 0, .int .i64 2, .int .i64 0, .int .i64 0, .int .i64 2]) := Lib.hid (TR_23.out.below hb TR_23.out.lt)
 have C_24 : Hid (Blk v23 v17.heap.size 48 #[.string c1, .string c2]) := Lib.hid (C_23.out.below hb C_23.out.lt)
 have D_24 : Hid (Blk v23 v18.heap.size 48 #[.string d1, .string d2]) := Lib.hid (D_23.out.below hb D_23.out.lt)
 have R_24 : Hid (Blk v23 v20.heap.size 39 #[.int .i64 0, .int .i64 0, .int .i64 2, .int .i64 2]) := Lib.hid (R_23.out.below hb R_23.out.lt)
 have HB_24 : Hid (Below w.heap.size w v23) := Lib.hid (HB_23.out.trans (hb.mono HB_23.out.size))
 clear hb A_23 B_23 TR_23 C_23 D_23 R_23 HB_23
 go_wp2_with fail
 refine (at_any 1 1 _).mono ?_
 rintro e v24 ⟨rfl, hb⟩
 have FH_25 : Hid (Pz v24 A1 squ7) := Lib.hid (FH_24.out.below hb (Nat.le_refl _))
 clear FH_24
 have A_25 : Hid (Blk v24 v3.heap.size 48 #[.string a1, .string a2]) := Lib.hid (A_24.out.below hb A_24.out.lt)
 have B_25 : Hid (Blk v24 v7.heap.size 48 #[.string b1, .string b2]) := Lib.hid (B_24.out.below hb B_24.out.lt)
 have TR_25 : Hid (Blk v24 v16.heap.size 31 #[.int .i64 0, .int .i64 0, .int .i64 2, .int .i64 0, .int .i64 0, .int .i64 2]) := Lib.hid (TR_24.out.below hb TR_24.out.lt)
 have C_25 : Hid (Blk v24 v17.heap.size 48 #[.string c1, .string c2]) := Lib.hid (C_24.out.below hb C_24.out.lt)
 have D_25 : Hid (Blk v24 v18.heap.size 48 #[.string d1, .string d2]) := Lib.hid (D_24.out.below hb D_24.out.lt)
 have R_25 : Hid (Blk v24 v20.heap.size 39 #[.int .i64 0, .int .i64 0, .int .i64 2, .int .i64 2]) := Lib.hid (R_24.out.below hb R_24.out.lt)
 have HB_25 : Hid (Below w.heap.size w v24) := Lib.hid (HB_24.out.trans (hb.mono HB_24.out.size))
 clear hb A_24 B_24 TR_24 C_24 D_24 R_24 HB_24
 go_wp2_with fail
 refine (sn_s _).mono ?_
 rintro e v25 ⟨rfl, hb⟩
 have FH_26 : Hid (Pz v25 A1 squ7) := Lib.hid (FH_25.out.below hb (Nat.le_refl _))
 clear FH_25
 have A_26 : Hid (Blk v25 v3.heap.size 48 #[.string a1, .string a2]) := Lib.hid (A_25.out.below hb A_25.out.lt)
 have B_26 : Hid (Blk v25 v7.heap.size 48 #[.string b1, .string b2]) := Lib.hid (B_25.out.below hb B_25.out.lt)
 have TR_26 : Hid (Blk v25 v16.heap.size 31 #[.int .i64 0, .int .i64 0, .int .i64 2, .int .i64 0, .int .i64 0, .int .i64 2]) := Lib.hid (TR_25.out.below hb TR_25.out.lt)
 have C_26 : Hid (Blk v25 v17.heap.size 48 #[.string c1, .string c2]) := Lib.hid (C_25.out.below hb C_25.out.lt)
 have D_26 : Hid (Blk v25 v18.heap.size 48 #[.string d1, .string d2]) := Lib.hid (D_25.out.below hb D_25.out.lt)
 have R_26 : Hid (Blk v25 v20.heap.size 39 #[.int .i64 0, .int .i64 0, .int .i64 2, .int .i64 2]) := Lib.hid (R_25.out.below hb R_25.out.lt)
 have HB_26 : Hid (Below w.heap.size w v25) := Lib.hid (HB_25.out.trans (hb.mono HB_25.out.size))
 clear hb A_25 B_25 TR_25 C_25 D_25 R_25 HB_25
 go_wp2_with fail
 refine (at_any 0 0 _).mono ?_
 rintro e v26 ⟨rfl, hb⟩
 have FH_27 : Hid (Pz v26 A1 squ7) := Lib.hid (FH_26.out.below hb (Nat.le_refl _))
 clear FH_26
 have A_27 : Hid (Blk v26 v3.heap.size 48 #[.string a1, .string a2]) := Lib.hid (A_26.out.below hb A_26.out.lt)
 have B_27 : Hid (Blk v26 v7.heap.size 48 #[.string b1, .string b2]) := Lib.hid (B_26.out.below hb B_26.out.lt)
 have TR_27 : Hid (Blk v26 v16.heap.size 31 #[.int .i64 0, .int .i64 0, .int .i64 2, .int .i64 0, .int .i64 0, .int .i64 2]) := Lib.hid (TR_26.out.below hb TR_26.out.lt)
 have C_27 : Hid (Blk v26 v17.heap.size 48 #[.string c1, .string c2]) := Lib.hid (C_26.out.below hb C_26.out.lt)
 have D_27 : Hid (Blk v26 v18.heap.size 48 #[.string d1, .string d2]) := Lib.hid (D_26.out.below hb D_26.out.lt)
 have R_27 : Hid (Blk v26 v20.heap.size 39 #[.int .i64 0, .int .i64 0, .int .i64 2, .int .i64 2]) := Lib.hid (R_26.out.below hb R_26.out.lt)
 have HB_27 : Hid (Below w.heap.size w v26) := Lib.hid (HB_26.out.trans (hb.mono HB_26.out.size))
 clear hb A_26 B_26 TR_26 C_26 D_26 R_26 HB_26
 go_wp2_with fail
 refine (at_any 2 2 _).mono ?_
 rintro e v27 ⟨rfl, hb⟩
 have FH_28 : Hid (Pz v27 A1 squ7) := Lib.hid (FH_27.out.below hb (Nat.le_refl _))
 clear FH_27
 have A_28 : Hid (Blk v27 v3.heap.size 48 #[.string a1, .string a2]) := Lib.hid (A_27.out.below hb A_27.out.lt)
 have B_28 : Hid (Blk v27 v7.heap.size 48 #[.string b1, .string b2]) := Lib.hid (B_27.out.below hb B_27.out.lt)
 have TR_28 : Hid (Blk v27 v16.heap.size 31 #[.int .i64 0, .int .i64 0, .int .i64 2, .int .i64 0, .int .i64 0, .int .i64 2]) := Lib.hid (TR_27.out.below hb TR_27.out.lt)
 have C_28 : Hid (Blk v27 v17.heap.size 48 #[.string c1, .string c2]) := Lib.hid (C_27.out.below hb C_27.out.lt)
 have D_28 : Hid (Blk v27 v18.heap.size 48 #[.string d1, .string d2]) := Lib.hid (D_27.out.below hb D_27.out.lt)
 have R_28 : Hid (Blk v27 v20.heap.size 39 #[.int .i64 0, .int .i64 0, .int .i64 2, .int .i64 2]) := Lib.hid (R_27.out.below hb R_27.out.lt)
 have HB_28 : Hid (Below w.heap.size w v27) := Lib.hid (HB_27.out.trans (hb.mono HB_27.out.size))
 clear hb A_27 B_27 TR_27 C_27 D_27 R_27 HB_27
 go_wp2_with fail
 refine (at_any 0 2 _).mono ?_
 rintro e v28 ⟨rfl, hb⟩
 have FH_29 : Hid (Pz v28 A1 squ7) := Lib.hid (FH_28.out.below hb (Nat.le_refl _))
 clear FH_28
 have A_29 : Hid (Blk v28 v3.heap.size 48 #[.string a1, .string a2]) := Lib.hid (A_28.out.below hb A_28.out.lt)
 have B_29 : Hid (Blk v28 v7.heap.size 48 #[.string b1, .string b2]) := Lib.hid (B_28.out.below hb B_28.out.lt)
 have TR_29 : Hid (Blk v28 v16.heap.size 31 #[.int .i64 0, .int .i64 0, .int .i64 2, .int .i64 0, .int .i64 0, .int .i64 2]) := Lib.hid (TR_28.out.below hb TR_28.out.lt)
 have C_29 : Hid (Blk v28 v17.heap.size 48 #[.string c1, .string c2]) := Lib.hid (C_28.out.below hb C_28.out.lt)
 have D_29 : Hid (Blk v28 v18.heap.size 48 #[.string d1, .string d2]) := Lib.hid (D_28.out.below hb D_28.out.lt)
 have R_29 : Hid (Blk v28 v20.heap.size 39 #[.int .i64 0, .int .i64 0, .int .i64 2, .int .i64 2]) := Lib.hid (R_28.out.below hb R_28.out.lt)
 have HB_29 : Hid (Below w.heap.size w v28) := Lib.hid (HB_28.out.trans (hb.mono HB_28.out.size))
 clear hb A_28 B_28 TR_28 C_28 D_28 R_28 HB_28
 go_wp2_with fail
 refine (at_any 2 0 _).mono ?_
 rintro e v29 ⟨rfl, hb⟩
 have FH_30 : Hid (Pz v29 A1 squ7) := Lib.hid (FH_29.out.below hb (Nat.le_refl _))
 clear FH_29
 have A_30 : Hid (Blk v29 v3.heap.size 48 #[.string a1, .string a2]) := Lib.hid (A_29.out.below hb A_29.out.lt)
 have B_30 : Hid (Blk v29 v7.heap.size 48 #[.string b1, .string b2]) := Lib.hid (B_29.out.below hb B_29.out.lt)
 have TR_30 : Hid (Blk v29 v16.heap.size 31 #[.int .i64 0, .int .i64 0, .int .i64 2, .int .i64 0, .int .i64 0, .int .i64 2]) := Lib.hid (TR_29.out.below hb TR_29.out.lt)
 have C_30 : Hid (Blk v29 v17.heap.size 48 #[.string c1, .string c2]) := Lib.hid (C_29.out.below hb C_29.out.lt)
 have D_30 : Hid (Blk v29 v18.heap.size 48 #[.string d1, .string d2]) := Lib.hid (D_29.out.below hb D_29.out.lt)
 have R_30 : Hid (Blk v29 v20.heap.size 39 #[.int .i64 0, .int .i64 0, .int .i64 2, .int .i64 2]) := Lib.hid (R_29.out.below hb R_29.out.lt)
 have HB_30 : Hid (Below w.heap.size w v29) := Lib.hid (HB_29.out.trans (hb.mono HB_29.out.size))
 clear hb A_29 B_29 TR_29 C_29 D_29 R_29 HB_29
 go_wp2_with fail
 refine (sn_x1 _).mono ?_
 rintro e v30 ⟨rfl, hb⟩
 have FH_31 : Hid (Pz v30 A1 squ7) := Lib.hid (FH_30.out.below hb (Nat.le_refl _))
 clear FH_30
 have A_31 : Hid (Blk v30 v3.heap.size 48 #[.string a1, .string a2]) := Lib.hid (A_30.out.below hb A_30.out.lt)
 have B_31 : Hid (Blk v30 v7.heap.size 48 #[.string b1, .string b2]) := Lib.hid (B_30.out.below hb B_30.out.lt)
 have TR_31 : Hid (Blk v30 v16.heap.size 31 #[.int .i64 0, .int .i64 0, .int .i64 2, .int .i64 0, .int .i64 0, .int .i64 2]) := Lib.hid (TR_30.out.below hb TR_30.out.lt)
 have C_31 : Hid (Blk v30 v17.heap.size 48 #[.string c1, .string c2]) := Lib.hid (C_30.out.below hb C_30.out.lt)
 have D_31 : Hid (Blk v30 v18.heap.size 48 #[.string d1, .string d2]) := Lib.hid (D_30.out.below hb D_30.out.lt)
 have R_31 : Hid (Blk v30 v20.heap.size 39 #[.int .i64 0, .int .i64 0, .int .i64 2, .int .i64 2]) := Lib.hid (R_30.out.below hb R_30.out.lt)
 have HB_31 : Hid (Below w.heap.size w v30) := Lib.hid (HB_30.out.trans (hb.mono HB_30.out.size))
 clear hb A_30 B_30 TR_30 C_30 D_30 R_30 HB_30
 go_wp2_with fail
 refine (at_any 0 0 _).mono ?_
 rintro e v31 ⟨rfl, hb⟩
 have FH_32 : Hid (Pz v31 A1 squ7) := Lib.hid (FH_31.out.below hb (Nat.le_refl _))
 clear FH_31
 have A_32 : Hid (Blk v31 v3.heap.size 48 #[.string a1, .string a2]) := Lib.hid (A_31.out.below hb A_31.out.lt)
 have B_32 : Hid (Blk v31 v7.heap.size 48 #[.string b1, .string b2]) := Lib.hid (B_31.out.below hb B_31.out.lt)
 have TR_32 : Hid (Blk v31 v16.heap.size 31 #[.int .i64 0, .int .i64 0, .int .i64 2, .int .i64 0, .int .i64 0, .int .i64 2]) := Lib.hid (TR_31.out.below hb TR_31.out.lt)
 have C_32 : Hid (Blk v31 v17.heap.size 48 #[.string c1, .string c2]) := Lib.hid (C_31.out.below hb C_31.out.lt)
 have D_32 : Hid (Blk v31 v18.heap.size 48 #[.string d1, .string d2]) := Lib.hid (D_31.out.below hb D_31.out.lt)
 have R_32 : Hid (Blk v31 v20.heap.size 39 #[.int .i64 0, .int .i64 0, .int .i64 2, .int .i64 2]) := Lib.hid (R_31.out.below hb R_31.out.lt)
 have HB_32 : Hid (Below w.heap.size w v31) := Lib.hid (HB_31.out.trans (hb.mono HB_31.out.size))
 clear hb A_31 B_31 TR_31 C_31 D_31 R_31 HB_31
 go_wp2_with fail
 refine (at_any 1 1 _).mono ?_
 rintro e v32 ⟨rfl, hb⟩
 have FH_33 : Hid (Pz v32 A1 squ7) := Lib.hid (FH_32.out.below hb (Nat.le_refl _))
 clear FH_32
 have A_33 : Hid (Blk v32 v3.heap.size 48 #[.string a1, .string a2]) := Lib.hid (A_32.out.below hb A_32.out.lt)
 have B_33 : Hid (Blk v32 v7.heap.size 48 #[.string b1, .string b2]) := Lib.hid (B_32.out.below hb B_32.out.lt)
 have TR_33 : Hid (Blk v32 v16.heap.size 31 #[.int .i64 0, .int .i64 0, .int .i64 2, .int .i64 0, .int .i64 0, .int .i64 2]) := Lib.hid (TR_32.out.below hb TR_32.out.lt)
 have C_33 : Hid (Blk v32 v17.heap.size 48 #[.string c1, .string c2]) := Lib.hid (C_32.out.below hb C_32.out.lt)
 have D_33 : Hid (Blk v32 v18.heap.size 48 #[.string d1, .string d2]) := Lib.hid (D_32.out.below hb D_32.out.lt)
 have R_33 : Hid (Blk v32 v20.heap.size 39 #[.int .i64 0, .int .i64 0, .int .i64 2, .int .i64 2]) := Lib.hid (R_32.out.below hb R_32.out.lt)
 have HB_33 : Hid (Below w.heap.size w v32) := Lib.hid (HB_32.out.trans (hb.mono HB_32.out.size))
 clear hb A_32 B_32 TR_32 C_32 D_32 R_32 HB_32
 go_wp2_with fail
 refine (at_any 2 2 _).mono ?_
 rintro e v33 ⟨rfl, hb⟩
 have FH_34 : Hid (Pz v33 A1 squ7) := Lib.hid (FH_33.out.below hb (Nat.le_refl _))
 clear FH_33
 have A_34 : Hid (Blk v33 v3.heap.size 48 #[.string a1, .string a2]) := Lib.hid (A_33.out.below hb A_33.out.lt)
 have B_34 : Hid (Blk v33 v7.heap.size 48 #[.string b1, .string b2]) := Lib.hid (B_33.out.below hb B_33.out.lt)
 have TR_34 : Hid (Blk v33 v16.heap.size 31 #[.int .i64 0, .int .i64 0, .int .i64 2, .int .i64 0, .int .i64 0, .int .i64 2]) := Lib.hid (TR_33.out.below hb TR_33.out.lt)
 have C_34 : Hid (Blk v33 v17.heap.size 48 #[.string c1, .string c2]) := Lib.hid (C_33.out.below hb C_33.out.lt)
 have D_34 : Hid (Blk v33 v18.heap.size 48 #[.string d1, .string d2]) := Lib.hid (D_33.out.below hb D_33.out.lt)
 have R_34 : Hid (Blk v33 v20.heap.size 39 #[.int .i64 0, .int .i64 0, .int .i64 2, .int .i64 2]) := Lib.hid (R_33.out.below hb R_33.out.lt)
 have HB_34 : Hid (Below w.heap.size w v33) := Lib.hid (HB_33.out.trans (hb.mono HB_33.out.size))
 clear hb A_33 B_33 TR_33 C_33 D_33 R_33 HB_33
 go_wp2_with fail
 refine (at_any 3 3 _).mono ?_
 rintro e v34 ⟨rfl, hb⟩
 have FH_35 : Hid (Pz v34 A1 squ7) := Lib.hid (FH_34.out.below hb (Nat.le_refl _))
 clear FH_34
 have A_35 : Hid (Blk v34 v3.heap.size 48 #[.string a1, .string a2]) := Lib.hid (A_34.out.below hb A_34.out.lt)
 have B_35 : Hid (Blk v34 v7.heap.size 48 #[.string b1, .string b2]) := Lib.hid (B_34.out.below hb B_34.out.lt)
 have TR_35 : Hid (Blk v34 v16.heap.size 31 #[.int .i64 0, .int .i64 0, .int .i64 2, .int .i64 0, .int .i64 0, .int .i64 2]) := Lib.hid (TR_34.out.below hb TR_34.out.lt)
 have C_35 : Hid (Blk v34 v17.heap.size 48 #[.string c1, .string c2]) := Lib.hid (C_34.out.below hb C_34.out.lt)
 have D_35 : Hid (Blk v34 v18.heap.size 48 #[.string d1, .string d2]) := Lib.hid (D_34.out.below hb D_34.out.lt)
 have R_35 : Hid (Blk v34 v20.heap.size 39 #[.int .i64 0, .int .i64 0, .int .i64 2, .int .i64 2]) := Lib.hid (R_34.out.below hb R_34.out.lt)
 have HB_35 : Hid (Below w.heap.size w v34) := Lib.hid (HB_34.out.trans (hb.mono HB_34.out.size))
 clear hb A_34 B_34 TR_34 C_34 D_34 R_34 HB_34
 have yy0 := R_35.out.cell (i := 0) (v := .int .i64 0) rfl; have yy1 := R_35.out.cell (i := 1) (v := .int .i64 0) rfl; have yy2 := R_35.out.cell (i := 2) (v := .int .i64 2) rfl; have yy3 := R_35.out.cell (i := 3) (v := .int .i64 2) rfl
 go_wp2_with fail
 refine (sn_x2 _).mono ?_
 rintro e v35 ⟨rfl, hb⟩
 clear yy0 yy1 yy2 yy3
 have FH_36 : Hid (Pz v35 A1 squ7) := Lib.hid (FH_35.out.below hb (Nat.le_refl _))
 clear FH_35
 have A_36 : Hid (Blk v35 v3.heap.size 48 #[.string a1, .string a2]) := Lib.hid (A_35.out.below hb A_35.out.lt)
 have B_36 : Hid (Blk v35 v7.heap.size 48 #[.string b1, .string b2]) := Lib.hid (B_35.out.below hb B_35.out.lt)
 have TR_36 : Hid (Blk v35 v16.heap.size 31 #[.int .i64 0, .int .i64 0, .int .i64 2, .int .i64 0, .int .i64 0, .int .i64 2]) := Lib.hid (TR_35.out.below hb TR_35.out.lt)
 have C_36 : Hid (Blk v35 v17.heap.size 48 #[.string c1, .string c2]) := Lib.hid (C_35.out.below hb C_35.out.lt)
 have D_36 : Hid (Blk v35 v18.heap.size 48 #[.string d1, .string d2]) := Lib.hid (D_35.out.below hb D_35.out.lt)
 have R_36 : Hid (Blk v35 v20.heap.size 39 #[.int .i64 0, .int .i64 0, .int .i64 2, .int .i64 2]) := Lib.hid (R_35.out.below hb R_35.out.lt)
 have HB_36 : Hid (Below w.heap.size w v35) := Lib.hid (HB_35.out.trans (hb.mono HB_35.out.size))
 clear hb A_35 B_35 TR_35 C_35 D_35 R_35 HB_35
 have yy0 := R_36.out.cell (i := 0) (v := .int .i64 0) rfl; have yy1 := R_36.out.cell (i := 1) (v := .int .i64 0) rfl; have yy2 := R_36.out.cell (i := 2) (v := .int .i64 2) rfl; have yy3 := R_36.out.cell (i := 3) (v := .int .i64 2) rfl
 go_wp2_with fail
 refine (sn_v1 _).mono ?_
 rintro e v36 ⟨rfl, hb⟩
 clear yy0 yy1 yy2 yy3
 have FH_37 : Hid (Pz v36 A1 squ7) := Lib.hid (FH_36.out.below hb (Nat.le_refl _))
 clear FH_36
 have A_37 : Hid (Blk v36 v3.heap.size 48 #[.string a1, .string a2]) := Lib.hid (A_36.out.below hb A_36.out.lt)
 have B_37 : Hid (Blk v36 v7.heap.size 48 #[.string b1, .string b2]) := Lib.hid (B_36.out.below hb B_36.out.lt)
 have TR_37 : Hid (Blk v36 v16.heap.size 31 #[.int .i64 0, .int .i64 0, .int .i64 2, .int .i64 0, .int .i64 0, .int .i64 2]) := Lib.hid (TR_36.out.below hb TR_36.out.lt)
 have C_37 : Hid (Blk v36 v17.heap.size 48 #[.string c1, .string c2]) := Lib.hid (C_36.out.below hb C_36.out.lt)
 have D_37 : Hid (Blk v36 v18.heap.size 48 #[.string d1, .string d2]) := Lib.hid (D_36.out.below hb D_36.out.lt)
 have R_37 : Hid (Blk v36 v20.heap.size 39 #[.int .i64 0, .int .i64 0, .int .i64 2, .int .i64 2]) := Lib.hid (R_36.out.below hb R_36.out.lt)
 have HB_37 : Hid (Below w.heap.size w v36) := Lib.hid (HB_36.out.trans (hb.mono HB_36.out.size))
 clear hb A_36 B_36 TR_36 C_36 D_36 R_36 HB_36
 have yy0 := R_37.out.cell (i := 0) (v := .int .i64 0) rfl; have yy1 := R_37.out.cell (i := 1) (v := .int .i64 0) rfl; have yy2 := R_37.out.cell (i := 2) (v := .int .i64 2) rfl; have yy3 := R_37.out.cell (i := 3) (v := .int .i64 2) rfl
 go_wp2_with fail
 refine (sn_v2 _).mono ?_
 rintro e v37 ⟨rfl, hb⟩
 clear yy0 yy1 yy2 yy3
 have FH_38 : Hid (Pz v37 A1 squ7) := Lib.hid (FH_37.out.below hb (Nat.le_refl _))
 clear FH_37
 have A_38 : Hid (Blk v37 v3.heap.size 48 #[.string a1, .string a2]) := Lib.hid (A_37.out.below hb A_37.out.lt)
 have B_38 : Hid (Blk v37 v7.heap.size 48 #[.string b1, .string b2]) := Lib.hid (B_37.out.below hb B_37.out.lt)
 have TR_38 : Hid (Blk v37 v16.heap.size 31 #[.int .i64 0, .int .i64 0, .int .i64 2, .int .i64 0, .int .i64 0, .int .i64 2]) := Lib.hid (TR_37.out.below hb TR_37.out.lt)
 have C_38 : Hid (Blk v37 v17.heap.size 48 #[.string c1, .string c2]) := Lib.hid (C_37.out.below hb C_37.out.lt)
 have D_38 : Hid (Blk v37 v18.heap.size 48 #[.string d1, .string d2]) := Lib.hid (D_37.out.below hb D_37.out.lt)
 have R_38 : Hid (Blk v37 v20.heap.size 39 #[.int .i64 0, .int .i64 0, .int .i64 2, .int .i64 2]) := Lib.hid (R_37.out.below hb R_37.out.lt)
 have HB_38 : Hid (Below w.heap.size w v37) := Lib.hid (HB_37.out.trans (hb.mono HB_37.out.size))
 clear hb A_37 B_37 TR_37 C_37 D_37 R_37 HB_37
 have yy0 := R_38.out.cell (i := 0) (v := .int .i64 0) rfl; have yy1 := R_38.out.cell (i := 1) (v := .int .i64 0) rfl; have yy2 := R_38.out.cell (i := 2) (v := .int .i64 2) rfl; have yy3 := R_38.out.cell (i := 3) (v := .int .i64 2) rfl
 go_wp2_with fail
 refine (sn_t1 _).mono ?_
 rintro e v38 ⟨rfl, hb⟩
 clear yy0 yy1 yy2 yy3
 have FH_39 : Hid (Pz v38 A1 squ7) := Lib.hid (FH_38.out.below hb (Nat.le_refl _))
 clear FH_38
 have A_39 : Hid (Blk v38 v3.heap.size 48 #[.string a1, .string a2]) := Lib.hid (A_38.out.below hb A_38.out.lt)
 have B_39 : Hid (Blk v38 v7.heap.size 48 #[.string b1, .string b2]) := Lib.hid (B_38.out.below hb B_38.out.lt)
 have TR_39 : Hid (Blk v38 v16.heap.size 31 #[.int .i64 0, .int .i64 0, .int .i64 2, .int .i64 0, .int .i64 0, .int .i64 2]) := Lib.hid (TR_38.out.below hb TR_38.out.lt)
 have C_39 : Hid (Blk v38 v17.heap.size 48 #[.string c1, .string c2]) := Lib.hid (C_38.out.below hb C_38.out.lt)
 have D_39 : Hid (Blk v38 v18.heap.size 48 #[.string d1, .string d2]) := Lib.hid (D_38.out.below hb D_38.out.lt)
 have R_39 : Hid (Blk v38 v20.heap.size 39 #[.int .i64 0, .int .i64 0, .int .i64 2, .int .i64 2]) := Lib.hid (R_38.out.below hb R_38.out.lt)
 have HB_39 : Hid (Below w.heap.size w v38) := Lib.hid (HB_38.out.trans (hb.mono HB_38.out.size))
 clear hb A_38 B_38 TR_38 C_38 D_38 R_38 HB_38
 have yy0 := R_39.out.cell (i := 0) (v := .int .i64 0) rfl; have yy1 := R_39.out.cell (i := 1) (v := .int .i64 0) rfl; have yy2 := R_39.out.cell (i := 2) (v := .int .i64 2) rfl; have yy3 := R_39.out.cell (i := 3) (v := .int .i64 2) rfl
 go_wp2_with fail
 refine (sn_t2 _).mono ?_
 rintro e v39 ⟨rfl, hb⟩
 clear yy0 yy1 yy2 yy3
 have FH_40 : Hid (Pz v39 A1 squ7) := Lib.hid (FH_39.out.below hb (Nat.le_refl _))
 clear FH_39
 have A_40 : Hid (Blk v39 v3.heap.size 48 #[.string a1, .string a2]) := Lib.hid (A_39.out.below hb A_39.out.lt)
 have B_40 : Hid (Blk v39 v7.heap.size 48 #[.string b1, .string b2]) := Lib.hid (B_39.out.below hb B_39.out.lt)
 have TR_40 : Hid (Blk v39 v16.heap.size 31 #[.int .i64 0, .int .i64 0, .int .i64 2, .int .i64 0, .int .i64 0, .int .i64 2]) := Lib.hid (TR_39.out.below hb TR_39.out.lt)
 have C_40 : Hid (Blk v39 v17.heap.size 48 #[.string c1, .string c2]) := Lib.hid (C_39.out.below hb C_39.out.lt)
 have D_40 : Hid (Blk v39 v18.heap.size 48 #[.string d1, .string d2]) := Lib.hid (D_39.out.below hb D_39.out.lt)
 have R_40 : Hid (Blk v39 v20.heap.size 39 #[.int .i64 0, .int .i64 0, .int .i64 2, .int .i64 2]) := Lib.hid (R_39.out.below hb R_39.out.lt)
 have HB_40 : Hid (Below w.heap.size w v39) := Lib.hid (HB_39.out.trans (hb.mono HB_39.out.size))
 clear hb A_39 B_39 TR_39 C_39 D_39 R_39 HB_39
 have yy0 := R_40.out.cell (i := 0) (v := .int .i64 0) rfl; have yy1 := R_40.out.cell (i := 1) (v := .int .i64 0) rfl; have yy2 := R_40.out.cell (i := 2) (v := .int .i64 2) rfl; have yy3 := R_40.out.cell (i := 3) (v := .int .i64 2) rfl
 go_wp2_with fail
 refine (sn_i1 _).mono ?_
 rintro e v40 ⟨rfl, hb⟩
 clear yy0 yy1 yy2 yy3
 have FH_41 : Hid (Pz v40 A1 squ7) := Lib.hid (FH_40.out.below hb (Nat.le_refl _))
 clear FH_40
 have A_41 : Hid (Blk v40 v3.heap.size 48 #[.string a1, .string a2]) := Lib.hid (A_40.out.below hb A_40.out.lt)
 have B_41 : Hid (Blk v40 v7.heap.size 48 #[.string b1, .string b2]) := Lib.hid (B_40.out.below hb B_40.out.lt)
 have TR_41 : Hid (Blk v40 v16.heap.size 31 #[.int .i64 0, .int .i64 0, .int .i64 2, .int .i64 0, .int .i64 0, .int .i64 2]) := Lib.hid (TR_40.out.below hb TR_40.out.lt)
 have C_41 : Hid (Blk v40 v17.heap.size 48 #[.string c1, .string c2]) := Lib.hid (C_40.out.below hb C_40.out.lt)
 have D_41 : Hid (Blk v40 v18.heap.size 48 #[.string d1, .string d2]) := Lib.hid (D_40.out.below hb D_40.out.lt)
 have R_41 : Hid (Blk v40 v20.heap.size 39 #[.int .i64 0, .int .i64 0, .int .i64 2, .int .i64 2]) := Lib.hid (R_40.out.below hb R_40.out.lt)
 have HB_41 : Hid (Below w.heap.size w v40) := Lib.hid (HB_40.out.trans (hb.mono HB_40.out.size))
 clear hb A_40 B_40 TR_40 C_40 D_40 R_40 HB_40
 have yy0 := R_41.out.cell (i := 0) (v := .int .i64 0) rfl; have yy1 := R_41.out.cell (i := 1) (v := .int .i64 0) rfl; have yy2 := R_41.out.cell (i := 2) (v := .int .i64 2) rfl; have yy3 := R_41.out.cell (i := 3) (v := .int .i64 2) rfl
 go_wp2_with fail
 refine (sn_i2 _).mono ?_
 rintro e v41 ⟨rfl, hb⟩
 clear yy0 yy1 yy2 yy3
 have FH_42 : Hid (Pz v41 A1 squ7) := Lib.hid (FH_41.out.below hb (Nat.le_refl _))
 clear FH_41
 have A_42 : Hid (Blk v41 v3.heap.size 48 #[.string a1, .string a2]) := Lib.hid (A_41.out.below hb A_41.out.lt)
 have B_42 : Hid (Blk v41 v7.heap.size 48 #[.string b1, .string b2]) := Lib.hid (B_41.out.below hb B_41.out.lt)
 have TR_42 : Hid (Blk v41 v16.heap.size 31 #[.int .i64 0, .int .i64 0, .int .i64 2, .int .i64 0, .int .i64 0, .int .i64 2]) := Lib.hid (TR_41.out.below hb TR_41.out.lt)
 have C_42 : Hid (Blk v41 v17.heap.size 48 #[.string c1, .string c2]) := Lib.hid (C_41.out.below hb C_41.out.lt)
 have D_42 : Hid (Blk v41 v18.heap.size 48 #[.string d1, .string d2]) := Lib.hid (D_41.out.below hb D_41.out.lt)
 have R_42 : Hid (Blk v41 v20.heap.size 39 #[.int .i64 0, .int .i64 0, .int .i64 2, .int .i64 2]) := Lib.hid (R_41.out.below hb R_41.out.lt)
 have HB_42 : Hid (Below w.heap.size w v41) := Lib.hid (HB_41.out.trans (hb.mono HB_41.out.size))
 clear hb A_41 B_41 TR_41 C_41 D_41 R_41 HB_41
 go_wp2_with fail
 refine wp_region_grow (S := (fun w' => w'.cell? ⟨v3.heap.size, 0, none⟩ = some (.string a1) /\ w'.cell? ⟨v3.heap.size, 1, none⟩ = some (.string a2) /\ w'.cell? ⟨v7.heap.size, 0, none⟩ = some (.string b1) /\ w'.cell? ⟨v7.heap.size, 1, none⟩ = some (.string b2) /\ w'.cell? ⟨v17.heap.size, 0, none⟩ = some (.string c1) /\ w'.cell? ⟨v17.heap.size, 1, none⟩ = some (.string c2) /\ w'.cell? ⟨v18.heap.size, 0, none⟩ = some (.string d1) /\ w'.cell? ⟨v18.heap.size, 1, none⟩ = some (.string d2) /\ Pz w' A1 squ7)) ((fun w' => Below v41.heap.size v41 w')) (by kernel_rfl) (⟨fun w2 h2 => ⟨(A_42.out.below h2 A_42.out.lt).cell (i := 0) (v := .string a1) rfl, (A_42.out.below h2 A_42.out.lt).cell (i := 1) (v := .string a2) rfl, (B_42.out.below h2 B_42.out.lt).cell (i := 0) (v := .string b1) rfl, (B_42.out.below h2 B_42.out.lt).cell (i := 1) (v := .string b2) rfl, (C_42.out.below h2 C_42.out.lt).cell (i := 0) (v := .string c1) rfl, (C_42.out.below h2 C_42.out.lt).cell (i := 1) (v := .string c2) rfl, (D_42.out.below h2 D_42.out.lt).cell (i := 0) (v := .string d1) rfl, (D_42.out.below h2 D_42.out.lt).cell (i := 1) (v := .string d2) rfl, FH_42.out.below h2 (Nat.le_refl _)⟩, fun w2 w3 h2 hb2 => h2.trans (hb2.mono h2.size)⟩) ((Below.refl v41.heap.size v41).drew) (fun hCalm => ?_)
 refine grow_take 0 (some 158) ?_ rfl rfl (by kernel_rfl) (fun _ _ _ h => h) (by kernel_rfl) hCalm ?_ ?_
 rotate_left
 · intro wS hS; (try dsimp only at hS); go_simp <;> with_reducible rfl
 try simp only [Act.put, q8a, q8b, q8c]
 refine grow_take 1 (some 159) ?_ rfl rfl (by kernel_rfl) (fun _ _ _ h => h) (by kernel_rfl) hCalm ?_ ?_
 rotate_left
 · intro wS hS; (try dsimp only at hS); go_simp <;> with_reducible rfl
 try simp only [Act.put, q8a, q8b, q8c]
 refine grow_take 2 (some 160) ?_ rfl rfl (by kernel_rfl) (fun _ _ _ h => h) (by kernel_rfl) hCalm ?_ ?_
 rotate_left
 · intro wS hS; (try dsimp only at hS); go_simp <;> with_reducible rfl
 try simp only [Act.put, q8a, q8b, q8c]
 refine grow_take 3 (some 161) ?_ rfl rfl (by kernel_rfl) (fun _ _ _ h => h) (by kernel_rfl) hCalm ?_ ?_
 rotate_left
 · intro wS hS; (try dsimp only at hS); go_simp <;> with_reducible rfl
 try simp only [Act.put, q8a, q8b, q8c]
 refine grow_take 4 (some 162) ?_ rfl rfl (by kernel_rfl) (fun _ _ _ h => h) (by kernel_rfl) hCalm ?_ ?_
 rotate_left
 · intro wS hS; (try dsimp only at hS); go_simp <;> with_reducible rfl
 try simp only [Act.put, q8a, q8b, q8c]
 refine grow_take 5 (some 163) ?_ rfl rfl (by kernel_rfl) (fun _ _ _ h => h) (by kernel_rfl) hCalm ?_ ?_
 rotate_left
 · intro wS hS; (try dsimp only at hS); go_simp <;> with_reducible rfl
 try simp only [Act.put, q8a, q8b, q8c]
 refine grow_call 6 (some 164) (.agg #[.string a1, .string a2]) 22 [.const (Go.Value.int Go.IntKind.i64 2), .const (Go.Value.int Go.IntKind.i64 1)] #[3, 3] rfl rfl (by kernel_rfl) (fun _ _ _ h => h) (by kernel_rfl) hCalm rfl (enters_of Tryz.func22 (by kernel_rfl) rfl) (fun wz _ => HR1.out wz) (by kernel_rfl) ?_
 try simp only [Act.put, q8a, q8b, q8c]
 refine grow_take 7 (some 165) (.bool true) rfl rfl (by kernel_rfl) (fun _ _ _ h => h) (by kernel_rfl) hCalm ?_ ?_
 · intro wS hS; (try dsimp only at hS); go_simp
   all_goals simp
 try simp only [Act.put, q8a, q8b, q8c]
 refine grow_take 8 (some 166) ?_ rfl rfl (by kernel_rfl) (fun _ _ _ h => h) (by kernel_rfl) hCalm ?_ ?_
 rotate_left
 · intro wS hS; (try dsimp only at hS); go_simp <;> with_reducible rfl
 try simp only [Act.put, q8a, q8b, q8c]
 refine grow_take 9 (some 167) ?_ rfl rfl (by kernel_rfl) (fun _ _ _ h => h) (by kernel_rfl) hCalm ?_ ?_
 rotate_left
 · intro wS hS; (try dsimp only at hS); go_simp <;> with_reducible rfl
 try simp only [Act.put, q8a, q8b, q8c]
 refine grow_take 10 (some 168) ?_ rfl rfl (by kernel_rfl) (fun _ _ _ h => h) (by kernel_rfl) hCalm ?_ ?_
 rotate_left
 · intro wS hS; (try dsimp only at hS); go_simp <;> with_reducible rfl
 try simp only [Act.put, q8a, q8b, q8c]
 refine grow_call 11 (some 169) (.agg #[.string b1, .string b2]) 22 [.const (Go.Value.int Go.IntKind.i64 8), .const (Go.Value.int Go.IntKind.i64 1)] #[3, 3] rfl rfl (by kernel_rfl) (fun _ _ _ h => h) (by kernel_rfl) hCalm rfl (enters_of Tryz.func22 (by kernel_rfl) rfl) (fun wz _ => HR2.out wz) (by kernel_rfl) ?_
 try simp only [Act.put, q8a, q8b, q8c]
 refine grow_take 12 (some 170) (.bool true) rfl rfl (by kernel_rfl) (fun _ _ _ h => h) (by kernel_rfl) hCalm ?_ ?_
 · intro wS hS; (try dsimp only at hS); go_simp
   all_goals simp
 try simp only [Act.put, q8a, q8b, q8c]
 refine grow_take 13 (some 171) ?_ rfl rfl (by kernel_rfl) (fun _ _ _ h => h) (by kernel_rfl) hCalm ?_ ?_
 rotate_left
 · intro wS hS; (try dsimp only at hS); go_simp <;> with_reducible rfl
 try simp only [Act.put, q8a, q8b, q8c]
 refine grow_take 14 (some 172) ?_ rfl rfl (by kernel_rfl) (fun _ _ _ h => h) (by kernel_rfl) hCalm ?_ ?_
 rotate_left
 · intro wS hS; (try dsimp only at hS); go_simp <;> with_reducible rfl
 try simp only [Act.put, q8a, q8b, q8c]
 refine grow_take 15 (some 173) ?_ rfl rfl (by kernel_rfl) (fun _ _ _ h => h) (by kernel_rfl) hCalm ?_ ?_
 rotate_left
 · intro wS hS; (try dsimp only at hS); go_simp <;> with_reducible rfl
 try simp only [Act.put, q8a, q8b, q8c]
 refine grow_call 16 (some 174) (.agg #[.string c1, .string c2]) 22 [.const (Go.Value.int Go.IntKind.i64 1), .const (Go.Value.int Go.IntKind.i64 1)] #[3, 3] rfl rfl (by kernel_rfl) (fun _ _ _ h => h) (by kernel_rfl) hCalm rfl (enters_of Tryz.func22 (by kernel_rfl) rfl) (fun wz _ => HR3.out wz) (by kernel_rfl) ?_
 try simp only [Act.put, q8a, q8b, q8c]
 refine grow_take 17 (some 175) (.bool true) rfl rfl (by kernel_rfl) (fun _ _ _ h => h) (by kernel_rfl) hCalm ?_ ?_
 · intro wS hS; (try dsimp only at hS); go_simp
   all_goals simp
 try simp only [Act.put, q8a, q8b, q8c]
 refine grow_take 18 (some 176) ?_ rfl rfl (by kernel_rfl) (fun _ _ _ h => h) (by kernel_rfl) hCalm ?_ ?_
 rotate_left
 · intro wS hS; (try dsimp only at hS); go_simp <;> with_reducible rfl
 try simp only [Act.put, q8a, q8b, q8c]
 refine grow_take 19 (some 177) ?_ rfl rfl (by kernel_rfl) (fun _ _ _ h => h) (by kernel_rfl) hCalm ?_ ?_
 rotate_left
 · intro wS hS; (try dsimp only at hS); go_simp <;> with_reducible rfl
 try simp only [Act.put, q8a, q8b, q8c]
 refine grow_take 20 (some 178) ?_ rfl rfl (by kernel_rfl) (fun _ _ _ h => h) (by kernel_rfl) hCalm ?_ ?_
 rotate_left
 · intro wS hS; (try dsimp only at hS); go_simp <;> with_reducible rfl
 try simp only [Act.put, q8a, q8b, q8c]
 refine grow_call 21 (some 179) (.agg #[.string d1, .string d2]) 22 [.const (Go.Value.int Go.IntKind.i64 3), .const (Go.Value.int Go.IntKind.i64 2)] #[3, 3] rfl rfl (by kernel_rfl) (fun _ _ _ h => h) (by kernel_rfl) hCalm rfl (enters_of Tryz.func22 (by kernel_rfl) rfl) (fun wz _ => HR4.out wz) (by kernel_rfl) ?_
 try simp only [Act.put, q8a, q8b, q8c]
 refine grow_take 22 (some 180) (.bool true) rfl rfl (by kernel_rfl) (fun _ _ _ h => h) (by kernel_rfl) hCalm ?_ ?_
 · intro wS hS; (try dsimp only at hS); go_simp
   all_goals simp
 try simp only [Act.put, q8a, q8b, q8c]
 refine grow_take 23 (some 181) ?_ rfl rfl (by kernel_rfl) (fun _ _ _ h => h) (by kernel_rfl) hCalm ?_ ?_
 rotate_left
 · intro wS hS; (try dsimp only at hS); go_simp <;> with_reducible rfl
 try simp only [Act.put, q8a, q8b, q8c]
 refine grow_take 24 (some 182) ?_ rfl rfl (by kernel_rfl) (fun _ _ _ h => h) (by kernel_rfl) hCalm ?_ ?_
 rotate_left
 · intro wS hS; (try dsimp only at hS); go_simp <;> with_reducible rfl
 try simp only [Act.put, q8a, q8b, q8c]
 refine grow_take 25 (some 183) ?_ rfl rfl (by kernel_rfl) (fun _ _ _ h => h) (by kernel_rfl) hCalm ?_ ?_
 rotate_left
 · intro wS hS; (try dsimp only at hS); go_simp <;> with_reducible rfl
 try simp only [Act.put, q8a, q8b, q8c]
 refine grow_take 26 (some 184) (.bool true) rfl rfl (by kernel_rfl) (fun _ _ _ h => h) (by kernel_rfl) hCalm ?_ ?_
 · intro wS hS; (try dsimp only at hS); go_simp
 try simp only [Act.put, q8a, q8b, q8c]
 refine grow_take 27 (some 185) ?_ rfl rfl (by kernel_rfl) (fun _ _ _ h => h) (by kernel_rfl) hCalm ?_ ?_
 rotate_left
 · intro wS hS; (try dsimp only at hS); go_simp <;> with_reducible rfl
 try simp only [Act.put, q8a, q8b, q8c]
 refine grow_take 28 (some 186) ?_ rfl rfl (by kernel_rfl) (fun _ _ _ h => h) (by kernel_rfl) hCalm ?_ ?_
 rotate_left
 · intro wS hS; (try dsimp only at hS); go_simp <;> with_reducible rfl
 try simp only [Act.put, q8a, q8b, q8c]
 refine grow_take 29 (some 187) ?_ rfl rfl (by kernel_rfl) (fun _ _ _ h => h) (by kernel_rfl) hCalm ?_ ?_
 rotate_left
 · intro wS hS; (try dsimp only at hS); go_simp <;> with_reducible rfl
 try simp only [Act.put, q8a, q8b, q8c]
 refine grow_call 30 (some 188) (.agg #[.int .i64 0, .int .i64 0]) 16 [.const (Go.Value.int Go.IntKind.i64 0), .const (Go.Value.int Go.IntKind.i64 0)] #[3, 3] rfl rfl (by kernel_rfl) (fun _ _ _ h => h) (by kernel_rfl) hCalm rfl (enters_of Tryz.func16 (by kernel_rfl) rfl) (fun wz _ => at_any 0 0 wz) (by kernel_rfl) ?_
 try simp only [Act.put, q8a, q8b, q8c]
 refine grow_call 31 (some 189) (.agg #[.int .i64 2, .int .i64 0]) 16 [.const (Go.Value.int Go.IntKind.i64 2), .const (Go.Value.int Go.IntKind.i64 0)] #[3, 3] rfl rfl (by kernel_rfl) (fun _ _ _ h => h) (by kernel_rfl) hCalm rfl (enters_of Tryz.func16 (by kernel_rfl) rfl) (fun wz _ => at_any 2 0 wz) (by kernel_rfl) ?_
 try simp only [Act.put, q8a, q8b, q8c]
 refine grow_call 32 (some 190) (.agg #[.int .i64 2, .int .i64 2]) 16 [.const (Go.Value.int Go.IntKind.i64 2), .const (Go.Value.int Go.IntKind.i64 2)] #[3, 3] rfl rfl (by kernel_rfl) (fun _ _ _ h => h) (by kernel_rfl) hCalm rfl (enters_of Tryz.func16 (by kernel_rfl) rfl) (fun wz _ => at_any 2 2 wz) (by kernel_rfl) ?_
 try simp only [Act.put, q8a, q8b, q8c]
 refine grow_call 33 (some 191) (.agg #[.int .i64 0, .int .i64 2]) 16 [.const (Go.Value.int Go.IntKind.i64 0), .const (Go.Value.int Go.IntKind.i64 2)] #[3, 3] rfl rfl (by kernel_rfl) (fun _ _ _ h => h) (by kernel_rfl) hCalm rfl (enters_of Tryz.func16 (by kernel_rfl) rfl) (fun wz _ => at_any 0 2 wz) (by kernel_rfl) ?_
 try simp only [Act.put, q8a, q8b, q8c]
 refine grow_each [34] (by kernel_rfl) (by decide) ?_
 refine grow_cons 34 rfl (by kernel_rfl) (fun wA hA K hK => ?_) grow_nil
 obtain ⟨pX, hpX⟩ : ∃ b, b = wA.heap.size := ⟨_, rfl⟩
 have le_pX : v41.heap.size <= pX := by rw [hpX]; exact hA.size
 have hnew : Blk (wA.alloc (.cells #[.int .i64 0, .int .i64 0, .int .i64 2, .int .i64 0, .int .i64 2, .int .i64 2, .int .i64 0, .int .i64 2] 31)) pX 31 #[.int .i64 0, .int .i64 0, .int .i64 2, .int .i64 0, .int .i64 2, .int .i64 2, .int .i64 0, .int .i64 2] := by rw [hpX]; exact Blk.new wA _ _
 go_simp
 rw [<- hpX]
 refine grow_new hK hCalm hA hnew (fun h9 => ?_)
 clear hCalm hnew hpX hK K hA wA; have hCalm := h9; clear h9
 try simp only [Act.put, q8a, q8b, q8c]
 refine grow_more3 (fun w' => Pz w' (some ⟨pX, 0, none⟩) squ7) hCalm (fun wz hz => pz_of (l := squ7) hz.2) (fun h9 => ?_)
 clear hCalm; have hCalm := h9; clear h9
 refine grow_call 35 (some 193) (.bool true) 9 [.tmp 187, .tmp 192] #[24, 24] rfl rfl (by kernel_rfl) (fun _ _ _ h => h) (by kernel_rfl) hCalm rfl (enters_of Tryz.func9 (by kernel_rfl) rfl) (fun wz hS => sn_sp wz A1 cp1 _ hS.1.2.2.2.2.2.2.2.2 hS.2) (by kernel_rfl) ?_
 try simp only [Act.put, q8a, q8b, q8c]
 refine grow_take 36 (some 194) ?_ rfl rfl (by kernel_rfl) (fun _ _ _ h => h) (by kernel_rfl) hCalm ?_ ?_
 rotate_left
 · intro wS hS; (try dsimp only at hS); go_simp <;> with_reducible rfl
 try simp only [Act.put, q8a, q8b, q8c]
 refine grow_take 37 (some 195) ?_ rfl rfl (by kernel_rfl) (fun _ _ _ h => h) (by kernel_rfl) hCalm ?_ ?_
 rotate_left
 · intro wS hS; (try dsimp only at hS); go_simp <;> with_reducible rfl
 try simp only [Act.put, q8a, q8b, q8c]
 refine grow_call 38 (some 196) (.agg #[.int .i64 0, .int .i64 4095]) 16 [.const (Go.Value.int Go.IntKind.i64 0), .const (Go.Value.int Go.IntKind.i64 4095)] #[3, 3] rfl rfl (by kernel_rfl) (fun _ _ _ h => h) (by kernel_rfl) hCalm rfl (enters_of Tryz.func16 (by kernel_rfl) rfl) (fun wz _ => at_any 0 4095 wz) (by kernel_rfl) ?_
 try simp only [Act.put, q8a, q8b, q8c]
 refine grow_call 39 (some 197) (.bool true) 23 [.tmp 196] #[31] rfl rfl (by kernel_rfl) (fun _ _ _ h => h) (by kernel_rfl) hCalm rfl (enters_of Tryz.func23 (by kernel_rfl) rfl) (fun wz _ => sn_p1 wz) (by kernel_rfl) ?_
 try simp only [Act.put, q8a, q8b, q8c]
 refine grow_take 40 (some 198) ?_ rfl rfl (by kernel_rfl) (fun _ _ _ h => h) (by kernel_rfl) hCalm ?_ ?_
 rotate_left
 · intro wS hS; (try dsimp only at hS); go_simp <;> with_reducible rfl
 try simp only [Act.put, q8a, q8b, q8c]
 refine grow_take 41 (some 199) ?_ rfl rfl (by kernel_rfl) (fun _ _ _ h => h) (by kernel_rfl) hCalm ?_ ?_
 rotate_left
 · intro wS hS; (try dsimp only at hS); go_simp <;> with_reducible rfl
 try simp only [Act.put, q8a, q8b, q8c]
 refine grow_call 42 (some 200) (.agg #[.int .i64 0, .int .i64 4096]) 16 [.const (Go.Value.int Go.IntKind.i64 0), .const (Go.Value.int Go.IntKind.i64 4096)] #[3, 3] rfl rfl (by kernel_rfl) (fun _ _ _ h => h) (by kernel_rfl) hCalm rfl (enters_of Tryz.func16 (by kernel_rfl) rfl) (fun wz _ => at_any 0 4096 wz) (by kernel_rfl) ?_
 try simp only [Act.put, q8a, q8b, q8c]
 refine grow_call 43 (some 201) (.bool false) 23 [.tmp 200] #[31] rfl rfl (by kernel_rfl) (fun _ _ _ h => h) (by kernel_rfl) hCalm rfl (enters_of Tryz.func23 (by kernel_rfl) rfl) (fun wz _ => sn_p2 wz) (by kernel_rfl) ?_
 try simp only [Act.put, q8a, q8b, q8c]
 refine grow_take 44 (some 202) ?_ rfl rfl (by kernel_rfl) (fun _ _ _ h => h) (by kernel_rfl) hCalm ?_ ?_
 rotate_left
 · intro wS hS; (try dsimp only at hS); go_simp <;> with_reducible rfl
 try simp only [Act.put, q8a, q8b, q8c]
 refine grow_take 45 (some 203) ?_ rfl rfl (by kernel_rfl) (fun _ _ _ h => h) (by kernel_rfl) hCalm ?_ ?_
 rotate_left
 · intro wS hS; (try dsimp only at hS); go_simp <;> with_reducible rfl
 try simp only [Act.put, q8a, q8b, q8c]
 refine grow_take 46 (some 0) ?_ rfl rfl (by kernel_rfl) (fun _ _ _ h => h) (by kernel_rfl) hCalm ?_ ?_
 rotate_left
 · intro wS hS; (try dsimp only at hS); go_simp <;> with_reducible rfl
 try simp only [Act.put, List.setIfInBounds_toArray, List.set_cons_zero]
 refine grow_done (by kernel_rfl) (fun wA hA => ?_) _
 have HBE := Lib.hid (HB_42.out.trans (hA.1.mono HB_42.out.size))
 go_wp2_with fail
 go_ret
 exact ⟨rfl, HBE.out⟩
end Go.Proofs.YtpjbihfkedbenaaGreat
