/- The contracts of plane's Around and Distance2. Conditions: valid places. -/
import Derived.Test.YtpjbihfkedbenaaGreatHC
import Derived.Test.YtpjbihfkedbenaaGreatHB
import Derived.Test.YtpjbihfkedbenaaGreatGH
namespace Go.Proofs.YtpjbihfkedbenaaGreat
open Go.RowKit Go.Lib
abbrev fn7 (n d : Int) : ByteArray := zS (red n d).1
abbrev fd7 (n d : Int) : ByteArray := zS (red n d).2
theorem of_yes (n d : Int) (w : World) (h1 : -9223372036854775808 <= n /\ n <= 9223372036854775807) (h2 : -9223372036854775808 <= d /\ d <= 9223372036854775807) (h3 : d ≠ 0) : Yl 36 #[.int .i64 n, .int .i64 d] w (.tuple #[.agg #[.string (fn7 n d), .string (fd7 n d)], .int .i64 0]) := by
 have h := of_any n d w h1 h2
 rw [show ofR n d = some (red n d) from if_neg h3] at h
 exact h
set_option maxRecDepth 100000 in
set_option maxHeartbeats 8000000 in
theorem pAround_yes (p0 : P7) (l : List P7) (A : Option Addr) (c : Nat) (w : World) (hA : Pz w A l) (hl : Ls7 l) (h0 : l[0]? = some p0) : Yl 14 #[.slice A l.length c] w (.tuple #[r7v (ar7 p0 l), .int .i64 0]) := by
 have HC : Hid (∀ W, Below w.heap.size w W -> Yl 24 #[.slice A l.length c] W (.bool true)) := Lib.hid (fun W hW => islist_yes l A c W (hA.below hW (Nat.le_refl _)) hl)
 have HD : Hid (∀ W, Below w.heap.size w W -> Yl 34 #[.slice A l.length c] W (r7v (ar7 p0 l))) := Lib.hid (fun W hW => paround_any p0 l A c W (hA.below hW (Nat.le_refl _)) (by have := hl.1; omega) h0 (fun p hp => (hl.2 p hp).sm))
 clear hA hl h0
 have R_0 : Hid (Blk (w.alloc (.cells #[.int .i64 0, .int .i64 0, .int .i64 0, .int .i64 0] 39)) w.heap.size 39 #[.int .i64 0, .int .i64 0, .int .i64 0, .int .i64 0]) := allocs_blk [(#[.int .i64 0, .int .i64 0, .int .i64 0, .int .i64 0], 39)] w 0 _ rfl
 have HB_0 : Hid (Below w.heap.size w (w.alloc (.cells #[.int .i64 0, .int .i64 0, .int .i64 0, .int .i64 0] 39))) := allocs_below [(#[.int .i64 0, .int .i64 0, .int .i64 0, .int .i64 0], 39)] w (Below.refl w.heap.size w) (Nat.le_refl _)
 go_enter Tryz.func14, Tryz.ntmps14
 go_wp2_with fail
 refine (HC.out _ HB_0.out).mono ?_
 rintro e v0 ⟨rfl, hb⟩
 have R_1 : Hid (Blk v0 w.heap.size 39 #[.int .i64 0, .int .i64 0, .int .i64 0, .int .i64 0]) := Lib.hid (R_0.out.below hb R_0.out.lt)
 have HB_1 : Hid (Below w.heap.size w v0) := Lib.hid (HB_0.out.trans (hb.mono HB_0.out.size))
 clear hb R_0 HB_0
 go_wp2_with fail
 refine (HD.out _ HB_1.out).mono ?_
 rintro e v1 ⟨rfl, hb⟩
 obtain ⟨r, hr⟩ : ∃ r, r = ar7 p0 l := ⟨_, rfl⟩
 rw [<- hr]
 have HR := Lib.hid hr
 clear hr
 have R_2 : Hid (Blk v1 w.heap.size 39 #[.int .i64 0, .int .i64 0, .int .i64 0, .int .i64 0]) := Lib.hid (R_1.out.below hb R_1.out.lt)
 have HB_2 : Hid (Below w.heap.size w v1) := Lib.hid (HB_1.out.trans (hb.mono HB_1.out.size))
 clear hb R_1 HB_1
 have r0 := R_2.out.cell (i := 0) (v := .int .i64 0) rfl; have f0 := R_2.out.frozen 0
 have r1 := R_2.out.cell (i := 1) (v := .int .i64 0) rfl; have f1 := R_2.out.frozen 1
 have r2 := R_2.out.cell (i := 2) (v := .int .i64 0) rfl; have f2 := R_2.out.frozen 2
 have r3 := R_2.out.cell (i := 3) (v := .int .i64 0) rfl; have f3 := R_2.out.frozen 3
 go_wp2_with fail
 clear r0 f0 r1 f1 r2 f2 r3 f3
 have HFR := Lib.hid ((((R_2.out.set 0 (.int .i64 r.x)).set 1 (.int .i64 r.y)).set 2 (.int .i64 r.w)).set 3 (.int .i64 r.h))
 have rR0 := HFR.out.cell (i := 0) (v := .int .i64 r.x) rfl
 have rR1 := HFR.out.cell (i := 1) (v := .int .i64 r.y) rfl
 have rR2 := HFR.out.cell (i := 2) (v := .int .i64 r.w) rfl
 have rR3 := HFR.out.cell (i := 3) (v := .int .i64 r.h) rfl
 exact bodyPost_ret (v := .tuple #[.agg #[.int .i64 r.x, .int .i64 r.y, .int .i64 r.w, .int .i64 r.h], .int .i64 0]) (by simp [results, Tryz.results14, go_sem, rR0, rR1, rR2, rR3]) rfl ⟨by rw [<- HR.out], ((((HB_2.out.setCell (p := ⟨w.heap.size, 0, none⟩) (by show w.heap.size <= w.heap.size; omega) (.int .i64 r.x)).setCell (p := ⟨w.heap.size, 1, none⟩) (by show w.heap.size <= w.heap.size; omega) (.int .i64 r.y)).setCell (p := ⟨w.heap.size, 2, none⟩) (by show w.heap.size <= w.heap.size; omega) (.int .i64 r.w)).setCell (p := ⟨w.heap.size, 3, none⟩) (by show w.heap.size <= w.heap.size; omega) (.int .i64 r.h))⟩
theorem dot7_fit {a b : P7} (ha : a.sm) (hb : b.sm) : -9223372036854775808 <= dot7 a b /\ dot7 a b <= 9223372036854775807 := by
 have := dot7_small ha hb; unfold dot7; omega
theorem crs7_fit {a b c d : P7} (ha : a.ok) (hb : b.ok) (hc : c.ok) (hd : d.ok) : -40000000 <= crs7 (fr7 a b) (fr7 c d) /\ crs7 (fr7 a b) (fr7 c d) <= 40000000 := by
 unfold P7.ok at ha hb hc hd
 have h1 := mul_small (m := 4095) (n := 4095) (a := b.x - a.x) (b := d.y - c.y) (by omega) (by omega)
 have h2 := mul_small (m := 4095) (n := 4095) (a := b.y - a.y) (b := d.x - c.x) (by omega) (by omega)
 unfold crs7 fr7; simp only; omega
set_option maxRecDepth 100000 in
set_option maxHeartbeats 16000000 in
theorem dist_yes (p a b : P7) (w : World) (hp : p.ok) (ha : a.ok) (hb0 : b.ok) : Yl 17 #[p7v p, p7v a, p7v b] w (.tuple #[.agg #[.string (fn7 (dq7 p a b).1 (dq7 p a b).2), .string (fd7 (dq7 p a b).1 (dq7 p a b).2)], .int .i64 0]) := by
 have hv : p.ok /\ a.ok /\ b.ok := ⟨hp, ha, hb0⟩
 have HF1 := Lib.hid (fun W => pfr_any a b W ha.sm hb0.sm); have HF2 := Lib.hid (fun W => pfr_any a p W ha.sm hp.sm); have HF3 := Lib.hid (fun W => pfr_any b p W hb0.sm hp.sm)
 have k1 := fr7_sm ha hb0; have k2 := fr7_sm ha hp; have k3 := fr7_sm hb0 hp
 have HA1 := Lib.hid (fun W => along_any (fr7 a b) (fr7 a p) W k1 k2); have HA2 := Lib.hid (fun W => along_any (fr7 a p) (fr7 a p) W k2 k2); have HA3 := Lib.hid (fun W => along_any (fr7 a b) (fr7 b p) W k1 k3); have HA4 := Lib.hid (fun W => along_any (fr7 b p) (fr7 b p) W k3 k3); have HA5 := Lib.hid (fun W => along_any (fr7 a b) (fr7 a b) W k1 k1); have HX := Lib.hid (fun W => across_any (fr7 a b) (fr7 a p) W k1 k2)
 have g2 := dot7_fit k2 k2; have g4 := dot7_fit k3 k3; have g5 := dot7_fit k1 k1
 have gx := crs7_fit ha hb0 ha hp
 have HD := Lib.hid (dots7 p a b)
 have HQ : Hid (dq7 p a b = if dot7 (fr7 a b) (fr7 a p) <= 0 then (dot7 (fr7 a p) (fr7 a p), 1) else if 0 <= dot7 (fr7 a b) (fr7 b p) then (dot7 (fr7 b p) (fr7 b p), 1) else (crs7 (fr7 a b) (fr7 a p) * crs7 (fr7 a b) (fr7 a p), dot7 (fr7 a b) (fr7 a b))) := Lib.hid rfl
 obtain ⟨l, hl⟩ : ∃ l, l = fr7 a b := ⟨_, rfl⟩
 obtain ⟨u, hu⟩ : ∃ u, u = fr7 a p := ⟨_, rfl⟩
 obtain ⟨v, hv2⟩ : ∃ v, v = fr7 b p := ⟨_, rfl⟩
 rw [<- hl] at HF1 HA1 HA3 HA5 HX HD HQ g5 gx
 rw [<- hu] at HF2 HA1 HA2 HX HD HQ g2 gx
 rw [<- hv2] at HF3 HA3 HA4 HD HQ g4
 obtain ⟨d1, hd1⟩ : ∃ d, d = dot7 l u := ⟨_, rfl⟩
 obtain ⟨d2, hd2⟩ : ∃ d, d = dot7 u u := ⟨_, rfl⟩
 obtain ⟨d3, hd3⟩ : ∃ d, d = dot7 l v := ⟨_, rfl⟩
 obtain ⟨d4, hd4⟩ : ∃ d, d = dot7 v v := ⟨_, rfl⟩
 obtain ⟨d5, hd5⟩ : ∃ d, d = dot7 l l := ⟨_, rfl⟩
 obtain ⟨x, hx⟩ : ∃ x, x = crs7 l u := ⟨_, rfl⟩
 rw [<- hd1] at HA1 HD HQ; rw [<- hd2] at HA2 HQ g2; rw [<- hd3] at HA3 HD HQ; rw [<- hd4] at HA4 HQ g4; rw [<- hd5] at HA5 HD HQ g5; rw [<- hx] at HX HQ gx
 have gxx := mul_small (m := 40000000) (n := 40000000) gx gx
 have exx : IntKind.i64.wrap (x * x) = x * x := IntWalk.i64_in _ (by omega)
 have HO1 := Lib.hid (fun W => of_yes d2 1 W g2 (by omega) (by omega)); have HO2 := Lib.hid (fun W => of_yes d4 1 W g4 (by omega) (by omega))
 have HO3 : Hid (¬ d1 <= 0 -> ¬ 0 <= d3 -> ∀ W, Yl 36 #[.int .i64 (x * x), .int .i64 d5] W (.tuple #[.agg #[.string (fn7 (x * x) d5), .string (fd7 (x * x) d5)], .int .i64 0])) := Lib.hid (fun h1 h2 W => of_yes (x * x) d5 W (by omega) g5 (by have := HD.out; omega))
 clear k1 k2 k3 g2 g4 g5 gx gxx hl hu hv2 hd1 hd2 hd3 hd4 hd5 hx hp ha hb0 HD
 have S_0 : Hid (Blk ((((w.alloc (.cells #[.int .i64 p.x, .int .i64 p.y] 31)).alloc (.cells #[.int .i64 a.x, .int .i64 a.y] 31)).alloc (.cells #[.int .i64 b.x, .int .i64 b.y] 31)).alloc (.cells #[.string ⟨#[]⟩, .string ⟨#[]⟩] 48)) w.heap.size 31 #[.int .i64 p.x, .int .i64 p.y]) := allocs_blk [(#[.int .i64 p.x, .int .i64 p.y], 31), (#[.int .i64 a.x, .int .i64 a.y], 31), (#[.int .i64 b.x, .int .i64 b.y], 31), (#[.string ⟨#[]⟩, .string ⟨#[]⟩], 48)] w 0 _ rfl
 have T_0 : Hid (Blk ((((w.alloc (.cells #[.int .i64 p.x, .int .i64 p.y] 31)).alloc (.cells #[.int .i64 a.x, .int .i64 a.y] 31)).alloc (.cells #[.int .i64 b.x, .int .i64 b.y] 31)).alloc (.cells #[.string ⟨#[]⟩, .string ⟨#[]⟩] 48)) (w.heap.size + 1) 31 #[.int .i64 a.x, .int .i64 a.y]) := allocs_blk [(#[.int .i64 p.x, .int .i64 p.y], 31), (#[.int .i64 a.x, .int .i64 a.y], 31), (#[.int .i64 b.x, .int .i64 b.y], 31), (#[.string ⟨#[]⟩, .string ⟨#[]⟩], 48)] w 1 _ rfl
 have U_0 : Hid (Blk ((((w.alloc (.cells #[.int .i64 p.x, .int .i64 p.y] 31)).alloc (.cells #[.int .i64 a.x, .int .i64 a.y] 31)).alloc (.cells #[.int .i64 b.x, .int .i64 b.y] 31)).alloc (.cells #[.string ⟨#[]⟩, .string ⟨#[]⟩] 48)) (w.heap.size + 2) 31 #[.int .i64 b.x, .int .i64 b.y]) := allocs_blk [(#[.int .i64 p.x, .int .i64 p.y], 31), (#[.int .i64 a.x, .int .i64 a.y], 31), (#[.int .i64 b.x, .int .i64 b.y], 31), (#[.string ⟨#[]⟩, .string ⟨#[]⟩], 48)] w 2 _ rfl
 have R_0 : Hid (Blk ((((w.alloc (.cells #[.int .i64 p.x, .int .i64 p.y] 31)).alloc (.cells #[.int .i64 a.x, .int .i64 a.y] 31)).alloc (.cells #[.int .i64 b.x, .int .i64 b.y] 31)).alloc (.cells #[.string ⟨#[]⟩, .string ⟨#[]⟩] 48)) (w.heap.size + 3) 48 #[.string ⟨#[]⟩, .string ⟨#[]⟩]) := allocs_blk [(#[.int .i64 p.x, .int .i64 p.y], 31), (#[.int .i64 a.x, .int .i64 a.y], 31), (#[.int .i64 b.x, .int .i64 b.y], 31), (#[.string ⟨#[]⟩, .string ⟨#[]⟩], 48)] w 3 _ rfl
 have HB_0 : Hid (Below w.heap.size w ((((w.alloc (.cells #[.int .i64 p.x, .int .i64 p.y] 31)).alloc (.cells #[.int .i64 a.x, .int .i64 a.y] 31)).alloc (.cells #[.int .i64 b.x, .int .i64 b.y] 31)).alloc (.cells #[.string ⟨#[]⟩, .string ⟨#[]⟩] 48))) := allocs_below [(#[.int .i64 p.x, .int .i64 p.y], 31), (#[.int .i64 a.x, .int .i64 a.y], 31), (#[.int .i64 b.x, .int .i64 b.y], 31), (#[.string ⟨#[]⟩, .string ⟨#[]⟩], 48)] w (Below.refl w.heap.size w) (Nat.le_refl _)
 go_enter Tryz.func17, Tryz.ntmps17
 have yy0 := S_0.out.cell (i := 0) (v := .int .i64 p.x) rfl; have yy1 := S_0.out.cell (i := 1) (v := .int .i64 p.y) rfl
 have yy2 := T_0.out.cell (i := 0) (v := .int .i64 a.x) rfl; have yy3 := T_0.out.cell (i := 1) (v := .int .i64 a.y) rfl
 have yy4 := U_0.out.cell (i := 0) (v := .int .i64 b.x) rfl; have yy5 := U_0.out.cell (i := 1) (v := .int .i64 b.y) rfl
 have HN : Hid (Pz (((((w.alloc (.cells #[.int .i64 p.x, .int .i64 p.y] 31)).alloc (.cells #[.int .i64 a.x, .int .i64 a.y] 31)).alloc (.cells #[.int .i64 b.x, .int .i64 b.y] 31)).alloc (.cells #[.string ⟨#[]⟩, .string ⟨#[]⟩] 48)).alloc (.cells #[.int .i64 p.x, .int .i64 p.y, .int .i64 a.x, .int .i64 a.y, .int .i64 b.x, .int .i64 b.y] 31)) (some ⟨w.heap.size + 4, 0, none⟩) [p, a, b]) := Lib.hid (pz_of (l := [p, a, b]) (allocs_blk [(#[.int .i64 p.x, .int .i64 p.y], 31), (#[.int .i64 a.x, .int .i64 a.y], 31), (#[.int .i64 b.x, .int .i64 b.y], 31), (#[.string ⟨#[]⟩, .string ⟨#[]⟩], 48), (#[.int .i64 p.x, .int .i64 p.y, .int .i64 a.x, .int .i64 a.y, .int .i64 b.x, .int .i64 b.y], 31)] w 4 _ rfl))
 go_wp2_with fail
 refine (arevalid_three p a b _ _ HN.out true (decide_eq_true hv)).mono ?_
 rintro e v0 ⟨rfl, hb1⟩
 have hb := ((Below.refl ((((w.alloc (.cells #[.int .i64 p.x, .int .i64 p.y] 31)).alloc (.cells #[.int .i64 a.x, .int .i64 a.y] 31)).alloc (.cells #[.int .i64 b.x, .int .i64 b.y] 31)).alloc (.cells #[.string ⟨#[]⟩, .string ⟨#[]⟩] 48)).heap.size ((((w.alloc (.cells #[.int .i64 p.x, .int .i64 p.y] 31)).alloc (.cells #[.int .i64 a.x, .int .i64 a.y] 31)).alloc (.cells #[.int .i64 b.x, .int .i64 b.y] 31)).alloc (.cells #[.string ⟨#[]⟩, .string ⟨#[]⟩] 48))).alloc (Nat.le_refl _) _).trans (hb1.mono (by simp)); clear hb1 HN hv
 clear yy0 yy1 yy2 yy3 yy4 yy5
 have S_1 : Hid (Blk v0 w.heap.size 31 #[.int .i64 p.x, .int .i64 p.y]) := Lib.hid (S_0.out.below hb S_0.out.lt)
 have T_1 : Hid (Blk v0 (w.heap.size + 1) 31 #[.int .i64 a.x, .int .i64 a.y]) := Lib.hid (T_0.out.below hb T_0.out.lt)
 have U_1 : Hid (Blk v0 (w.heap.size + 2) 31 #[.int .i64 b.x, .int .i64 b.y]) := Lib.hid (U_0.out.below hb U_0.out.lt)
 have R_1 : Hid (Blk v0 (w.heap.size + 3) 48 #[.string ⟨#[]⟩, .string ⟨#[]⟩]) := Lib.hid (R_0.out.below hb R_0.out.lt)
 have HB_1 : Hid (Below w.heap.size w v0) := Lib.hid (HB_0.out.trans (hb.mono HB_0.out.size))
 clear hb S_0 T_0 U_0 R_0 HB_0
 go_upto_region 3 with fail
 go_cut [8, 9, 10] from 19 to 27 (fun v8 v9 v10 wx => ∃ q8 q9 q10 : Nat, v8 = .pointer (some ⟨q8, 0, none⟩) /\ v9 = .pointer (some ⟨q9, 0, none⟩) /\ v10 = .pointer (some ⟨q10, 0, none⟩) /\ Blk wx q8 31 #[.int .i64 l.x, .int .i64 l.y] /\ Blk wx q9 31 #[.int .i64 u.x, .int .i64 u.y] /\ Blk wx q10 31 #[.int .i64 v.x, .int .i64 v.y] /\ Below v0.heap.size v0 wx)
 case first =>
   refine wp_region_grow (S := (fun w' => w'.cell? ⟨w.heap.size, 0, none⟩ = some (.int .i64 p.x) /\ w'.cell? ⟨w.heap.size, 1, none⟩ = some (.int .i64 p.y) /\ w'.cell? ⟨(w.heap.size + 1), 0, none⟩ = some (.int .i64 a.x) /\ w'.cell? ⟨(w.heap.size + 1), 1, none⟩ = some (.int .i64 a.y) /\ w'.cell? ⟨(w.heap.size + 2), 0, none⟩ = some (.int .i64 b.x) /\ w'.cell? ⟨(w.heap.size + 2), 1, none⟩ = some (.int .i64 b.y))) ((fun w' => Below v0.heap.size v0 w')) (by kernel_rfl) (⟨fun w2 h2 => ⟨(S_1.out.below h2 S_1.out.lt).cell (i := 0) (v := .int .i64 p.x) rfl, (S_1.out.below h2 S_1.out.lt).cell (i := 1) (v := .int .i64 p.y) rfl, (T_1.out.below h2 T_1.out.lt).cell (i := 0) (v := .int .i64 a.x) rfl, (T_1.out.below h2 T_1.out.lt).cell (i := 1) (v := .int .i64 a.y) rfl, (U_1.out.below h2 U_1.out.lt).cell (i := 0) (v := .int .i64 b.x) rfl, (U_1.out.below h2 U_1.out.lt).cell (i := 1) (v := .int .i64 b.y) rfl⟩, fun w2 w3 h2 hb2 => h2.trans (hb2.mono h2.size)⟩) ((Below.refl v0.heap.size v0).drew) (fun hCalm => ?_)
   refine grow_take 0 (some 19) ?_ rfl rfl (by kernel_rfl) (fun _ _ _ h => h) (by kernel_rfl) hCalm ?_ ?_
   rotate_left
   · intro wS hS; (try dsimp only at hS); go_simp <;> with_reducible rfl
   try simp only [Act.put, q8a, q8b, q8c]
   refine grow_take 1 (some 20) ?_ rfl rfl (by kernel_rfl) (fun _ _ _ h => h) (by kernel_rfl) hCalm ?_ ?_
   rotate_left
   · intro wS hS; (try dsimp only at hS); go_simp <;> with_reducible rfl
   try simp only [Act.put, q8a, q8b, q8c]
   refine grow_take 3 (some 22) ?_ rfl rfl (by kernel_rfl) (fun _ _ _ h => h) (by kernel_rfl) hCalm ?_ ?_
   rotate_left
   · intro wS hS; (try dsimp only at hS); go_simp <;> with_reducible rfl
   try simp only [Act.put, q8a, q8b, q8c]
   refine grow_take 4 (some 23) ?_ rfl rfl (by kernel_rfl) (fun _ _ _ h => h) (by kernel_rfl) hCalm ?_ ?_
   rotate_left
   · intro wS hS; (try dsimp only at hS); go_simp <;> with_reducible rfl
   try simp only [Act.put, q8a, q8b, q8c]
   refine grow_take 6 (some 25) ?_ rfl rfl (by kernel_rfl) (fun _ _ _ h => h) (by kernel_rfl) hCalm ?_ ?_
   rotate_left
   · intro wS hS; (try dsimp only at hS); go_simp <;> with_reducible rfl
   try simp only [Act.put, q8a, q8b, q8c]
   refine grow_take 7 (some 26) ?_ rfl rfl (by kernel_rfl) (fun _ _ _ h => h) (by kernel_rfl) hCalm ?_ ?_
   rotate_left
   · intro wS hS; (try dsimp only at hS); go_simp <;> with_reducible rfl
   try simp only [Act.put, q8a, q8b, q8c]
   refine grow_call 2 (some 21) (p7v l) 29 [.tmp 19, .tmp 20] #[31, 31] rfl rfl (by kernel_rfl) (fun _ _ _ h => h) (by kernel_rfl) hCalm rfl (enters_of Tryz.func29 (by kernel_rfl) rfl) (fun wz _ => HF1.out wz) (by kernel_rfl) ?_
   try simp only [Act.put, q8a, q8b, q8c]
   refine grow_call 5 (some 24) (p7v u) 29 [.tmp 22, .tmp 23] #[31, 31] rfl rfl (by kernel_rfl) (fun _ _ _ h => h) (by kernel_rfl) hCalm rfl (enters_of Tryz.func29 (by kernel_rfl) rfl) (fun wz _ => HF2.out wz) (by kernel_rfl) ?_
   try simp only [Act.put, q8a, q8b, q8c]
   refine grow_call 8 (some 27) (p7v v) 29 [.tmp 25, .tmp 26] #[31, 31] rfl rfl (by kernel_rfl) (fun _ _ _ h => h) (by kernel_rfl) hCalm rfl (enters_of Tryz.func29 (by kernel_rfl) rfl) (fun wz _ => HF3.out wz) (by kernel_rfl) ?_
   try simp only [Act.put, q8a, q8b, q8c]
   refine grow_each [9, 10, 11] (by kernel_rfl) (by decide) ?_
   refine grow_cons 9 rfl (by kernel_rfl) (fun wA hA K hK => ?_) ?_
   case _ =>
    obtain ⟨pX, hpX⟩ : ∃ b, b = wA.heap.size := ⟨_, rfl⟩
    have le_pX : v0.heap.size <= pX := by rw [hpX]; exact hA.size
    have hnew : Blk (wA.alloc (.cells #[.int .i64 0, .int .i64 0] 31)) pX 31 #[.int .i64 0, .int .i64 0] := by rw [hpX]; exact Blk.new wA _ _
    go_simp
    rw [<- hpX]
    refine grow_new hK hCalm hA hnew (fun h9 => ?_)
    clear hCalm hnew hpX hK K hA wA; have hCalm := h9; clear h9
    try simp only [Act.put, q8a, q8b, q8c]
    refine grow_each [10, 11] (by kernel_rfl) (by decide) ?_
    refine grow_cons 10 rfl (by kernel_rfl) (fun wA hA K hK => ?_) ?_
    case _ =>
     obtain ⟨pY, hpY⟩ : ∃ b, b = wA.heap.size := ⟨_, rfl⟩
     have le_pY : v0.heap.size <= pY := by rw [hpY]; exact hA.1.size
     have lt_X_pY : pX < pY := by rw [hpY]; exact hA.2.lt
     have hnew : Blk (wA.alloc (.cells #[.int .i64 0, .int .i64 0] 31)) pY 31 #[.int .i64 0, .int .i64 0] := by rw [hpY]; exact Blk.new wA _ _
     go_simp
     rw [<- hpY]
     refine grow_new hK hCalm hA hnew (fun h9 => ?_)
     clear hCalm hnew hpY hK K hA wA; have hCalm := h9; clear h9
     try simp only [Act.put, q8a, q8b, q8c]
     refine grow_each [11] (by kernel_rfl) (by decide) ?_
     refine grow_cons 11 rfl (by kernel_rfl) (fun wA hA K hK => ?_) grow_nil
     obtain ⟨pZ, hpZ⟩ : ∃ b, b = wA.heap.size := ⟨_, rfl⟩
     have le_pZ : v0.heap.size <= pZ := by rw [hpZ]; exact hA.1.1.size
     have lt_X_pZ : pX < pZ := by rw [hpZ]; exact hA.1.2.lt
     have lt_Y_pZ : pY < pZ := by rw [hpZ]; exact hA.2.lt
     have hnew : Blk (wA.alloc (.cells #[.int .i64 0, .int .i64 0] 31)) pZ 31 #[.int .i64 0, .int .i64 0] := by rw [hpZ]; exact Blk.new wA _ _
     go_simp
     rw [<- hpZ]
     refine grow_new hK hCalm hA hnew (fun h9 => ?_)
     clear hCalm hnew hpZ hK K hA wA; have hCalm := h9; clear h9
     try simp only [Act.put, q8a, q8b, q8c]
     refine grow_each [12] (by kernel_rfl) (by decide) ?_
     refine grow_cons 12 rfl (by kernel_rfl) (fun wA hA K hK => ?_) grow_nil
     have z0 := hA.1.1.2.cell (i := 0) (v := .int .i64 0) rfl; have f0 := hA.1.1.2.frozen 0
     have z1 := hA.1.1.2.cell (i := 1) (v := .int .i64 0) rfl; have f1 := hA.1.1.2.frozen 1
     go_simp
     clear hCalm; refine grow_put hK (fun w' => (((Below v0.heap.size v0 w') /\ Blk w' pX 31 #[(.int .i64 l.x), (.int .i64 l.y)]) /\ Blk w' pY 31 #[.int .i64 0, .int .i64 0]) /\ Blk w' pZ 31 #[.int .i64 0, .int .i64 0]) ⟨fun w2 h2 => ⟨(S_1.out.below h2.1.1.1 S_1.out.lt).cell (i := 0) (v := .int .i64 p.x) rfl, (S_1.out.below h2.1.1.1 S_1.out.lt).cell (i := 1) (v := .int .i64 p.y) rfl, (T_1.out.below h2.1.1.1 T_1.out.lt).cell (i := 0) (v := .int .i64 a.x) rfl, (T_1.out.below h2.1.1.1 T_1.out.lt).cell (i := 1) (v := .int .i64 a.y) rfl, (U_1.out.below h2.1.1.1 U_1.out.lt).cell (i := 0) (v := .int .i64 b.x) rfl, (U_1.out.below h2.1.1.1 U_1.out.lt).cell (i := 1) (v := .int .i64 b.y) rfl⟩, fun w2 w3 h2 hb2 => ⟨⟨⟨h2.1.1.1.trans (hb2.mono h2.1.1.1.size), h2.1.1.2.below hb2 h2.1.1.2.lt⟩, h2.1.2.below hb2 h2.1.2.lt⟩, h2.2.below hb2 h2.2.lt⟩⟩ ⟨⟨⟨((hA.1.1.1.setCell (p := ⟨pX, 0, none⟩) (by show v0.heap.size <= pX; omega) _).setCell (p := ⟨pX, 1, none⟩) (by show v0.heap.size <= pX; omega) _), ((hA.1.1.2.set 0 _).set 1 _)⟩, ((hA.1.2.far (p := ⟨pX, 0, none⟩) (by show pY ≠ pX; omega) _).far (p := ⟨pX, 1, none⟩) (by show pY ≠ pX; omega) _)⟩, ((hA.2.far (p := ⟨pX, 0, none⟩) (by show pZ ≠ pX; omega) _).far (p := ⟨pX, 1, none⟩) (by show pZ ≠ pX; omega) _)⟩ (fun hCalm => ?_)
     clear z0 f0 z1 f1 hK K hA wA
     try simp only [Act.put]
     refine grow_each [13] (by kernel_rfl) (by decide) ?_
     refine grow_cons 13 rfl (by kernel_rfl) (fun wA hA K hK => ?_) grow_nil
     have z0 := hA.1.2.cell (i := 0) (v := .int .i64 0) rfl; have f0 := hA.1.2.frozen 0
     have z1 := hA.1.2.cell (i := 1) (v := .int .i64 0) rfl; have f1 := hA.1.2.frozen 1
     go_simp
     clear hCalm; refine grow_put hK (fun w' => (((Below v0.heap.size v0 w') /\ Blk w' pX 31 #[(.int .i64 l.x), (.int .i64 l.y)]) /\ Blk w' pY 31 #[(.int .i64 u.x), (.int .i64 u.y)]) /\ Blk w' pZ 31 #[.int .i64 0, .int .i64 0]) ⟨fun w2 h2 => ⟨(S_1.out.below h2.1.1.1 S_1.out.lt).cell (i := 0) (v := .int .i64 p.x) rfl, (S_1.out.below h2.1.1.1 S_1.out.lt).cell (i := 1) (v := .int .i64 p.y) rfl, (T_1.out.below h2.1.1.1 T_1.out.lt).cell (i := 0) (v := .int .i64 a.x) rfl, (T_1.out.below h2.1.1.1 T_1.out.lt).cell (i := 1) (v := .int .i64 a.y) rfl, (U_1.out.below h2.1.1.1 U_1.out.lt).cell (i := 0) (v := .int .i64 b.x) rfl, (U_1.out.below h2.1.1.1 U_1.out.lt).cell (i := 1) (v := .int .i64 b.y) rfl⟩, fun w2 w3 h2 hb2 => ⟨⟨⟨h2.1.1.1.trans (hb2.mono h2.1.1.1.size), h2.1.1.2.below hb2 h2.1.1.2.lt⟩, h2.1.2.below hb2 h2.1.2.lt⟩, h2.2.below hb2 h2.2.lt⟩⟩ ⟨⟨⟨((hA.1.1.1.setCell (p := ⟨pY, 0, none⟩) (by show v0.heap.size <= pY; omega) _).setCell (p := ⟨pY, 1, none⟩) (by show v0.heap.size <= pY; omega) _), ((hA.1.1.2.far (p := ⟨pY, 0, none⟩) (by show pX ≠ pY; omega) _).far (p := ⟨pY, 1, none⟩) (by show pX ≠ pY; omega) _)⟩, ((hA.1.2.set 0 _).set 1 _)⟩, ((hA.2.far (p := ⟨pY, 0, none⟩) (by show pZ ≠ pY; omega) _).far (p := ⟨pY, 1, none⟩) (by show pZ ≠ pY; omega) _)⟩ (fun hCalm => ?_)
     clear z0 f0 z1 f1 hK K hA wA
     try simp only [Act.put]
     refine grow_each [14] (by kernel_rfl) (by decide) ?_
     refine grow_cons 14 rfl (by kernel_rfl) (fun wA hA K hK => ?_) grow_nil
     have z0 := hA.2.cell (i := 0) (v := .int .i64 0) rfl; have f0 := hA.2.frozen 0
     have z1 := hA.2.cell (i := 1) (v := .int .i64 0) rfl; have f1 := hA.2.frozen 1
     go_simp
     clear hCalm; refine grow_put hK (fun w' => (((Below v0.heap.size v0 w') /\ Blk w' pX 31 #[(.int .i64 l.x), (.int .i64 l.y)]) /\ Blk w' pY 31 #[(.int .i64 u.x), (.int .i64 u.y)]) /\ Blk w' pZ 31 #[(.int .i64 v.x), (.int .i64 v.y)]) ⟨fun w2 h2 => ⟨(S_1.out.below h2.1.1.1 S_1.out.lt).cell (i := 0) (v := .int .i64 p.x) rfl, (S_1.out.below h2.1.1.1 S_1.out.lt).cell (i := 1) (v := .int .i64 p.y) rfl, (T_1.out.below h2.1.1.1 T_1.out.lt).cell (i := 0) (v := .int .i64 a.x) rfl, (T_1.out.below h2.1.1.1 T_1.out.lt).cell (i := 1) (v := .int .i64 a.y) rfl, (U_1.out.below h2.1.1.1 U_1.out.lt).cell (i := 0) (v := .int .i64 b.x) rfl, (U_1.out.below h2.1.1.1 U_1.out.lt).cell (i := 1) (v := .int .i64 b.y) rfl⟩, fun w2 w3 h2 hb2 => ⟨⟨⟨h2.1.1.1.trans (hb2.mono h2.1.1.1.size), h2.1.1.2.below hb2 h2.1.1.2.lt⟩, h2.1.2.below hb2 h2.1.2.lt⟩, h2.2.below hb2 h2.2.lt⟩⟩ ⟨⟨⟨((hA.1.1.1.setCell (p := ⟨pZ, 0, none⟩) (by show v0.heap.size <= pZ; omega) _).setCell (p := ⟨pZ, 1, none⟩) (by show v0.heap.size <= pZ; omega) _), ((hA.1.1.2.far (p := ⟨pZ, 0, none⟩) (by show pX ≠ pZ; omega) _).far (p := ⟨pZ, 1, none⟩) (by show pX ≠ pZ; omega) _)⟩, ((hA.1.2.far (p := ⟨pZ, 0, none⟩) (by show pY ≠ pZ; omega) _).far (p := ⟨pZ, 1, none⟩) (by show pY ≠ pZ; omega) _)⟩, ((hA.2.set 0 _).set 1 _)⟩ (fun hCalm => ?_)
     clear z0 f0 z1 f1 hK K hA wA
     try simp only [Act.put]
     refine grow_done (by kernel_rfl) (fun wA hA => ?_) _
     go_wp2_with fail
     go_meet
     exact ⟨pX, pY, pZ, rfl, rfl, rfl, hA.1.1.2, hA.1.2, hA.2, hA.1.1.1⟩
    refine grow_cons 11 rfl (by kernel_rfl) (fun wA hA K hK => ?_) ?_
    case _ =>
     obtain ⟨pZ, hpZ⟩ : ∃ b, b = wA.heap.size := ⟨_, rfl⟩
     have le_pZ : v0.heap.size <= pZ := by rw [hpZ]; exact hA.1.size
     have lt_X_pZ : pX < pZ := by rw [hpZ]; exact hA.2.lt
     have hnew : Blk (wA.alloc (.cells #[.int .i64 0, .int .i64 0] 31)) pZ 31 #[.int .i64 0, .int .i64 0] := by rw [hpZ]; exact Blk.new wA _ _
     go_simp
     rw [<- hpZ]
     refine grow_new hK hCalm hA hnew (fun h9 => ?_)
     clear hCalm hnew hpZ hK K hA wA; have hCalm := h9; clear h9
     try simp only [Act.put, q8a, q8b, q8c]
     refine grow_each [10] (by kernel_rfl) (by decide) ?_
     refine grow_cons 10 rfl (by kernel_rfl) (fun wA hA K hK => ?_) grow_nil
     obtain ⟨pY, hpY⟩ : ∃ b, b = wA.heap.size := ⟨_, rfl⟩
     have le_pY : v0.heap.size <= pY := by rw [hpY]; exact hA.1.1.size
     have lt_X_pY : pX < pY := by rw [hpY]; exact hA.1.2.lt
     have lt_Z_pY : pZ < pY := by rw [hpY]; exact hA.2.lt
     have hnew : Blk (wA.alloc (.cells #[.int .i64 0, .int .i64 0] 31)) pY 31 #[.int .i64 0, .int .i64 0] := by rw [hpY]; exact Blk.new wA _ _
     go_simp
     rw [<- hpY]
     refine grow_new hK hCalm hA hnew (fun h9 => ?_)
     clear hCalm hnew hpY hK K hA wA; have hCalm := h9; clear h9
     try simp only [Act.put, q8a, q8b, q8c]
     refine grow_each [12] (by kernel_rfl) (by decide) ?_
     refine grow_cons 12 rfl (by kernel_rfl) (fun wA hA K hK => ?_) grow_nil
     have z0 := hA.1.1.2.cell (i := 0) (v := .int .i64 0) rfl; have f0 := hA.1.1.2.frozen 0
     have z1 := hA.1.1.2.cell (i := 1) (v := .int .i64 0) rfl; have f1 := hA.1.1.2.frozen 1
     go_simp
     clear hCalm; refine grow_put hK (fun w' => (((Below v0.heap.size v0 w') /\ Blk w' pX 31 #[(.int .i64 l.x), (.int .i64 l.y)]) /\ Blk w' pZ 31 #[.int .i64 0, .int .i64 0]) /\ Blk w' pY 31 #[.int .i64 0, .int .i64 0]) ⟨fun w2 h2 => ⟨(S_1.out.below h2.1.1.1 S_1.out.lt).cell (i := 0) (v := .int .i64 p.x) rfl, (S_1.out.below h2.1.1.1 S_1.out.lt).cell (i := 1) (v := .int .i64 p.y) rfl, (T_1.out.below h2.1.1.1 T_1.out.lt).cell (i := 0) (v := .int .i64 a.x) rfl, (T_1.out.below h2.1.1.1 T_1.out.lt).cell (i := 1) (v := .int .i64 a.y) rfl, (U_1.out.below h2.1.1.1 U_1.out.lt).cell (i := 0) (v := .int .i64 b.x) rfl, (U_1.out.below h2.1.1.1 U_1.out.lt).cell (i := 1) (v := .int .i64 b.y) rfl⟩, fun w2 w3 h2 hb2 => ⟨⟨⟨h2.1.1.1.trans (hb2.mono h2.1.1.1.size), h2.1.1.2.below hb2 h2.1.1.2.lt⟩, h2.1.2.below hb2 h2.1.2.lt⟩, h2.2.below hb2 h2.2.lt⟩⟩ ⟨⟨⟨((hA.1.1.1.setCell (p := ⟨pX, 0, none⟩) (by show v0.heap.size <= pX; omega) _).setCell (p := ⟨pX, 1, none⟩) (by show v0.heap.size <= pX; omega) _), ((hA.1.1.2.set 0 _).set 1 _)⟩, ((hA.1.2.far (p := ⟨pX, 0, none⟩) (by show pZ ≠ pX; omega) _).far (p := ⟨pX, 1, none⟩) (by show pZ ≠ pX; omega) _)⟩, ((hA.2.far (p := ⟨pX, 0, none⟩) (by show pY ≠ pX; omega) _).far (p := ⟨pX, 1, none⟩) (by show pY ≠ pX; omega) _)⟩ (fun hCalm => ?_)
     clear z0 f0 z1 f1 hK K hA wA
     try simp only [Act.put]
     refine grow_each [13] (by kernel_rfl) (by decide) ?_
     refine grow_cons 13 rfl (by kernel_rfl) (fun wA hA K hK => ?_) grow_nil
     have z0 := hA.2.cell (i := 0) (v := .int .i64 0) rfl; have f0 := hA.2.frozen 0
     have z1 := hA.2.cell (i := 1) (v := .int .i64 0) rfl; have f1 := hA.2.frozen 1
     go_simp
     clear hCalm; refine grow_put hK (fun w' => (((Below v0.heap.size v0 w') /\ Blk w' pX 31 #[(.int .i64 l.x), (.int .i64 l.y)]) /\ Blk w' pZ 31 #[.int .i64 0, .int .i64 0]) /\ Blk w' pY 31 #[(.int .i64 u.x), (.int .i64 u.y)]) ⟨fun w2 h2 => ⟨(S_1.out.below h2.1.1.1 S_1.out.lt).cell (i := 0) (v := .int .i64 p.x) rfl, (S_1.out.below h2.1.1.1 S_1.out.lt).cell (i := 1) (v := .int .i64 p.y) rfl, (T_1.out.below h2.1.1.1 T_1.out.lt).cell (i := 0) (v := .int .i64 a.x) rfl, (T_1.out.below h2.1.1.1 T_1.out.lt).cell (i := 1) (v := .int .i64 a.y) rfl, (U_1.out.below h2.1.1.1 U_1.out.lt).cell (i := 0) (v := .int .i64 b.x) rfl, (U_1.out.below h2.1.1.1 U_1.out.lt).cell (i := 1) (v := .int .i64 b.y) rfl⟩, fun w2 w3 h2 hb2 => ⟨⟨⟨h2.1.1.1.trans (hb2.mono h2.1.1.1.size), h2.1.1.2.below hb2 h2.1.1.2.lt⟩, h2.1.2.below hb2 h2.1.2.lt⟩, h2.2.below hb2 h2.2.lt⟩⟩ ⟨⟨⟨((hA.1.1.1.setCell (p := ⟨pY, 0, none⟩) (by show v0.heap.size <= pY; omega) _).setCell (p := ⟨pY, 1, none⟩) (by show v0.heap.size <= pY; omega) _), ((hA.1.1.2.far (p := ⟨pY, 0, none⟩) (by show pX ≠ pY; omega) _).far (p := ⟨pY, 1, none⟩) (by show pX ≠ pY; omega) _)⟩, ((hA.1.2.far (p := ⟨pY, 0, none⟩) (by show pZ ≠ pY; omega) _).far (p := ⟨pY, 1, none⟩) (by show pZ ≠ pY; omega) _)⟩, ((hA.2.set 0 _).set 1 _)⟩ (fun hCalm => ?_)
     clear z0 f0 z1 f1 hK K hA wA
     try simp only [Act.put]
     refine grow_each [14] (by kernel_rfl) (by decide) ?_
     refine grow_cons 14 rfl (by kernel_rfl) (fun wA hA K hK => ?_) grow_nil
     have z0 := hA.1.2.cell (i := 0) (v := .int .i64 0) rfl; have f0 := hA.1.2.frozen 0
     have z1 := hA.1.2.cell (i := 1) (v := .int .i64 0) rfl; have f1 := hA.1.2.frozen 1
     go_simp
     clear hCalm; refine grow_put hK (fun w' => (((Below v0.heap.size v0 w') /\ Blk w' pX 31 #[(.int .i64 l.x), (.int .i64 l.y)]) /\ Blk w' pZ 31 #[(.int .i64 v.x), (.int .i64 v.y)]) /\ Blk w' pY 31 #[(.int .i64 u.x), (.int .i64 u.y)]) ⟨fun w2 h2 => ⟨(S_1.out.below h2.1.1.1 S_1.out.lt).cell (i := 0) (v := .int .i64 p.x) rfl, (S_1.out.below h2.1.1.1 S_1.out.lt).cell (i := 1) (v := .int .i64 p.y) rfl, (T_1.out.below h2.1.1.1 T_1.out.lt).cell (i := 0) (v := .int .i64 a.x) rfl, (T_1.out.below h2.1.1.1 T_1.out.lt).cell (i := 1) (v := .int .i64 a.y) rfl, (U_1.out.below h2.1.1.1 U_1.out.lt).cell (i := 0) (v := .int .i64 b.x) rfl, (U_1.out.below h2.1.1.1 U_1.out.lt).cell (i := 1) (v := .int .i64 b.y) rfl⟩, fun w2 w3 h2 hb2 => ⟨⟨⟨h2.1.1.1.trans (hb2.mono h2.1.1.1.size), h2.1.1.2.below hb2 h2.1.1.2.lt⟩, h2.1.2.below hb2 h2.1.2.lt⟩, h2.2.below hb2 h2.2.lt⟩⟩ ⟨⟨⟨((hA.1.1.1.setCell (p := ⟨pZ, 0, none⟩) (by show v0.heap.size <= pZ; omega) _).setCell (p := ⟨pZ, 1, none⟩) (by show v0.heap.size <= pZ; omega) _), ((hA.1.1.2.far (p := ⟨pZ, 0, none⟩) (by show pX ≠ pZ; omega) _).far (p := ⟨pZ, 1, none⟩) (by show pX ≠ pZ; omega) _)⟩, ((hA.1.2.set 0 _).set 1 _)⟩, ((hA.2.far (p := ⟨pZ, 0, none⟩) (by show pY ≠ pZ; omega) _).far (p := ⟨pZ, 1, none⟩) (by show pY ≠ pZ; omega) _)⟩ (fun hCalm => ?_)
     clear z0 f0 z1 f1 hK K hA wA
     try simp only [Act.put]
     refine grow_done (by kernel_rfl) (fun wA hA => ?_) _
     go_wp2_with fail
     go_meet
     exact ⟨pX, pY, pZ, rfl, rfl, rfl, hA.1.1.2, hA.2, hA.1.2, hA.1.1.1⟩
    exact grow_nil
   refine grow_cons 10 rfl (by kernel_rfl) (fun wA hA K hK => ?_) ?_
   case _ =>
    obtain ⟨pY, hpY⟩ : ∃ b, b = wA.heap.size := ⟨_, rfl⟩
    have le_pY : v0.heap.size <= pY := by rw [hpY]; exact hA.size
    have hnew : Blk (wA.alloc (.cells #[.int .i64 0, .int .i64 0] 31)) pY 31 #[.int .i64 0, .int .i64 0] := by rw [hpY]; exact Blk.new wA _ _
    go_simp
    rw [<- hpY]
    refine grow_new hK hCalm hA hnew (fun h9 => ?_)
    clear hCalm hnew hpY hK K hA wA; have hCalm := h9; clear h9
    try simp only [Act.put, q8a, q8b, q8c]
    refine grow_each [9, 11] (by kernel_rfl) (by decide) ?_
    refine grow_cons 9 rfl (by kernel_rfl) (fun wA hA K hK => ?_) ?_
    case _ =>
     obtain ⟨pX, hpX⟩ : ∃ b, b = wA.heap.size := ⟨_, rfl⟩
     have le_pX : v0.heap.size <= pX := by rw [hpX]; exact hA.1.size
     have lt_Y_pX : pY < pX := by rw [hpX]; exact hA.2.lt
     have hnew : Blk (wA.alloc (.cells #[.int .i64 0, .int .i64 0] 31)) pX 31 #[.int .i64 0, .int .i64 0] := by rw [hpX]; exact Blk.new wA _ _
     go_simp
     rw [<- hpX]
     refine grow_new hK hCalm hA hnew (fun h9 => ?_)
     clear hCalm hnew hpX hK K hA wA; have hCalm := h9; clear h9
     try simp only [Act.put, q8a, q8b, q8c]
     refine grow_each [11] (by kernel_rfl) (by decide) ?_
     refine grow_cons 11 rfl (by kernel_rfl) (fun wA hA K hK => ?_) grow_nil
     obtain ⟨pZ, hpZ⟩ : ∃ b, b = wA.heap.size := ⟨_, rfl⟩
     have le_pZ : v0.heap.size <= pZ := by rw [hpZ]; exact hA.1.1.size
     have lt_Y_pZ : pY < pZ := by rw [hpZ]; exact hA.1.2.lt
     have lt_X_pZ : pX < pZ := by rw [hpZ]; exact hA.2.lt
     have hnew : Blk (wA.alloc (.cells #[.int .i64 0, .int .i64 0] 31)) pZ 31 #[.int .i64 0, .int .i64 0] := by rw [hpZ]; exact Blk.new wA _ _
     go_simp
     rw [<- hpZ]
     refine grow_new hK hCalm hA hnew (fun h9 => ?_)
     clear hCalm hnew hpZ hK K hA wA; have hCalm := h9; clear h9
     try simp only [Act.put, q8a, q8b, q8c]
     refine grow_each [12] (by kernel_rfl) (by decide) ?_
     refine grow_cons 12 rfl (by kernel_rfl) (fun wA hA K hK => ?_) grow_nil
     have z0 := hA.1.2.cell (i := 0) (v := .int .i64 0) rfl; have f0 := hA.1.2.frozen 0
     have z1 := hA.1.2.cell (i := 1) (v := .int .i64 0) rfl; have f1 := hA.1.2.frozen 1
     go_simp
     clear hCalm; refine grow_put hK (fun w' => (((Below v0.heap.size v0 w') /\ Blk w' pY 31 #[.int .i64 0, .int .i64 0]) /\ Blk w' pX 31 #[(.int .i64 l.x), (.int .i64 l.y)]) /\ Blk w' pZ 31 #[.int .i64 0, .int .i64 0]) ⟨fun w2 h2 => ⟨(S_1.out.below h2.1.1.1 S_1.out.lt).cell (i := 0) (v := .int .i64 p.x) rfl, (S_1.out.below h2.1.1.1 S_1.out.lt).cell (i := 1) (v := .int .i64 p.y) rfl, (T_1.out.below h2.1.1.1 T_1.out.lt).cell (i := 0) (v := .int .i64 a.x) rfl, (T_1.out.below h2.1.1.1 T_1.out.lt).cell (i := 1) (v := .int .i64 a.y) rfl, (U_1.out.below h2.1.1.1 U_1.out.lt).cell (i := 0) (v := .int .i64 b.x) rfl, (U_1.out.below h2.1.1.1 U_1.out.lt).cell (i := 1) (v := .int .i64 b.y) rfl⟩, fun w2 w3 h2 hb2 => ⟨⟨⟨h2.1.1.1.trans (hb2.mono h2.1.1.1.size), h2.1.1.2.below hb2 h2.1.1.2.lt⟩, h2.1.2.below hb2 h2.1.2.lt⟩, h2.2.below hb2 h2.2.lt⟩⟩ ⟨⟨⟨((hA.1.1.1.setCell (p := ⟨pX, 0, none⟩) (by show v0.heap.size <= pX; omega) _).setCell (p := ⟨pX, 1, none⟩) (by show v0.heap.size <= pX; omega) _), ((hA.1.1.2.far (p := ⟨pX, 0, none⟩) (by show pY ≠ pX; omega) _).far (p := ⟨pX, 1, none⟩) (by show pY ≠ pX; omega) _)⟩, ((hA.1.2.set 0 _).set 1 _)⟩, ((hA.2.far (p := ⟨pX, 0, none⟩) (by show pZ ≠ pX; omega) _).far (p := ⟨pX, 1, none⟩) (by show pZ ≠ pX; omega) _)⟩ (fun hCalm => ?_)
     clear z0 f0 z1 f1 hK K hA wA
     try simp only [Act.put]
     refine grow_each [13] (by kernel_rfl) (by decide) ?_
     refine grow_cons 13 rfl (by kernel_rfl) (fun wA hA K hK => ?_) grow_nil
     have z0 := hA.1.1.2.cell (i := 0) (v := .int .i64 0) rfl; have f0 := hA.1.1.2.frozen 0
     have z1 := hA.1.1.2.cell (i := 1) (v := .int .i64 0) rfl; have f1 := hA.1.1.2.frozen 1
     go_simp
     clear hCalm; refine grow_put hK (fun w' => (((Below v0.heap.size v0 w') /\ Blk w' pY 31 #[(.int .i64 u.x), (.int .i64 u.y)]) /\ Blk w' pX 31 #[(.int .i64 l.x), (.int .i64 l.y)]) /\ Blk w' pZ 31 #[.int .i64 0, .int .i64 0]) ⟨fun w2 h2 => ⟨(S_1.out.below h2.1.1.1 S_1.out.lt).cell (i := 0) (v := .int .i64 p.x) rfl, (S_1.out.below h2.1.1.1 S_1.out.lt).cell (i := 1) (v := .int .i64 p.y) rfl, (T_1.out.below h2.1.1.1 T_1.out.lt).cell (i := 0) (v := .int .i64 a.x) rfl, (T_1.out.below h2.1.1.1 T_1.out.lt).cell (i := 1) (v := .int .i64 a.y) rfl, (U_1.out.below h2.1.1.1 U_1.out.lt).cell (i := 0) (v := .int .i64 b.x) rfl, (U_1.out.below h2.1.1.1 U_1.out.lt).cell (i := 1) (v := .int .i64 b.y) rfl⟩, fun w2 w3 h2 hb2 => ⟨⟨⟨h2.1.1.1.trans (hb2.mono h2.1.1.1.size), h2.1.1.2.below hb2 h2.1.1.2.lt⟩, h2.1.2.below hb2 h2.1.2.lt⟩, h2.2.below hb2 h2.2.lt⟩⟩ ⟨⟨⟨((hA.1.1.1.setCell (p := ⟨pY, 0, none⟩) (by show v0.heap.size <= pY; omega) _).setCell (p := ⟨pY, 1, none⟩) (by show v0.heap.size <= pY; omega) _), ((hA.1.1.2.set 0 _).set 1 _)⟩, ((hA.1.2.far (p := ⟨pY, 0, none⟩) (by show pX ≠ pY; omega) _).far (p := ⟨pY, 1, none⟩) (by show pX ≠ pY; omega) _)⟩, ((hA.2.far (p := ⟨pY, 0, none⟩) (by show pZ ≠ pY; omega) _).far (p := ⟨pY, 1, none⟩) (by show pZ ≠ pY; omega) _)⟩ (fun hCalm => ?_)
     clear z0 f0 z1 f1 hK K hA wA
     try simp only [Act.put]
     refine grow_each [14] (by kernel_rfl) (by decide) ?_
     refine grow_cons 14 rfl (by kernel_rfl) (fun wA hA K hK => ?_) grow_nil
     have z0 := hA.2.cell (i := 0) (v := .int .i64 0) rfl; have f0 := hA.2.frozen 0
     have z1 := hA.2.cell (i := 1) (v := .int .i64 0) rfl; have f1 := hA.2.frozen 1
     go_simp
     clear hCalm; refine grow_put hK (fun w' => (((Below v0.heap.size v0 w') /\ Blk w' pY 31 #[(.int .i64 u.x), (.int .i64 u.y)]) /\ Blk w' pX 31 #[(.int .i64 l.x), (.int .i64 l.y)]) /\ Blk w' pZ 31 #[(.int .i64 v.x), (.int .i64 v.y)]) ⟨fun w2 h2 => ⟨(S_1.out.below h2.1.1.1 S_1.out.lt).cell (i := 0) (v := .int .i64 p.x) rfl, (S_1.out.below h2.1.1.1 S_1.out.lt).cell (i := 1) (v := .int .i64 p.y) rfl, (T_1.out.below h2.1.1.1 T_1.out.lt).cell (i := 0) (v := .int .i64 a.x) rfl, (T_1.out.below h2.1.1.1 T_1.out.lt).cell (i := 1) (v := .int .i64 a.y) rfl, (U_1.out.below h2.1.1.1 U_1.out.lt).cell (i := 0) (v := .int .i64 b.x) rfl, (U_1.out.below h2.1.1.1 U_1.out.lt).cell (i := 1) (v := .int .i64 b.y) rfl⟩, fun w2 w3 h2 hb2 => ⟨⟨⟨h2.1.1.1.trans (hb2.mono h2.1.1.1.size), h2.1.1.2.below hb2 h2.1.1.2.lt⟩, h2.1.2.below hb2 h2.1.2.lt⟩, h2.2.below hb2 h2.2.lt⟩⟩ ⟨⟨⟨((hA.1.1.1.setCell (p := ⟨pZ, 0, none⟩) (by show v0.heap.size <= pZ; omega) _).setCell (p := ⟨pZ, 1, none⟩) (by show v0.heap.size <= pZ; omega) _), ((hA.1.1.2.far (p := ⟨pZ, 0, none⟩) (by show pY ≠ pZ; omega) _).far (p := ⟨pZ, 1, none⟩) (by show pY ≠ pZ; omega) _)⟩, ((hA.1.2.far (p := ⟨pZ, 0, none⟩) (by show pX ≠ pZ; omega) _).far (p := ⟨pZ, 1, none⟩) (by show pX ≠ pZ; omega) _)⟩, ((hA.2.set 0 _).set 1 _)⟩ (fun hCalm => ?_)
     clear z0 f0 z1 f1 hK K hA wA
     try simp only [Act.put]
     refine grow_done (by kernel_rfl) (fun wA hA => ?_) _
     go_wp2_with fail
     go_meet
     exact ⟨pX, pY, pZ, rfl, rfl, rfl, hA.1.2, hA.1.1.2, hA.2, hA.1.1.1⟩
    refine grow_cons 11 rfl (by kernel_rfl) (fun wA hA K hK => ?_) ?_
    case _ =>
     obtain ⟨pZ, hpZ⟩ : ∃ b, b = wA.heap.size := ⟨_, rfl⟩
     have le_pZ : v0.heap.size <= pZ := by rw [hpZ]; exact hA.1.size
     have lt_Y_pZ : pY < pZ := by rw [hpZ]; exact hA.2.lt
     have hnew : Blk (wA.alloc (.cells #[.int .i64 0, .int .i64 0] 31)) pZ 31 #[.int .i64 0, .int .i64 0] := by rw [hpZ]; exact Blk.new wA _ _
     go_simp
     rw [<- hpZ]
     refine grow_new hK hCalm hA hnew (fun h9 => ?_)
     clear hCalm hnew hpZ hK K hA wA; have hCalm := h9; clear h9
     try simp only [Act.put, q8a, q8b, q8c]
     refine grow_each [9] (by kernel_rfl) (by decide) ?_
     refine grow_cons 9 rfl (by kernel_rfl) (fun wA hA K hK => ?_) grow_nil
     obtain ⟨pX, hpX⟩ : ∃ b, b = wA.heap.size := ⟨_, rfl⟩
     have le_pX : v0.heap.size <= pX := by rw [hpX]; exact hA.1.1.size
     have lt_Y_pX : pY < pX := by rw [hpX]; exact hA.1.2.lt
     have lt_Z_pX : pZ < pX := by rw [hpX]; exact hA.2.lt
     have hnew : Blk (wA.alloc (.cells #[.int .i64 0, .int .i64 0] 31)) pX 31 #[.int .i64 0, .int .i64 0] := by rw [hpX]; exact Blk.new wA _ _
     go_simp
     rw [<- hpX]
     refine grow_new hK hCalm hA hnew (fun h9 => ?_)
     clear hCalm hnew hpX hK K hA wA; have hCalm := h9; clear h9
     try simp only [Act.put, q8a, q8b, q8c]
     refine grow_each [12] (by kernel_rfl) (by decide) ?_
     refine grow_cons 12 rfl (by kernel_rfl) (fun wA hA K hK => ?_) grow_nil
     have z0 := hA.2.cell (i := 0) (v := .int .i64 0) rfl; have f0 := hA.2.frozen 0
     have z1 := hA.2.cell (i := 1) (v := .int .i64 0) rfl; have f1 := hA.2.frozen 1
     go_simp
     clear hCalm; refine grow_put hK (fun w' => (((Below v0.heap.size v0 w') /\ Blk w' pY 31 #[.int .i64 0, .int .i64 0]) /\ Blk w' pZ 31 #[.int .i64 0, .int .i64 0]) /\ Blk w' pX 31 #[(.int .i64 l.x), (.int .i64 l.y)]) ⟨fun w2 h2 => ⟨(S_1.out.below h2.1.1.1 S_1.out.lt).cell (i := 0) (v := .int .i64 p.x) rfl, (S_1.out.below h2.1.1.1 S_1.out.lt).cell (i := 1) (v := .int .i64 p.y) rfl, (T_1.out.below h2.1.1.1 T_1.out.lt).cell (i := 0) (v := .int .i64 a.x) rfl, (T_1.out.below h2.1.1.1 T_1.out.lt).cell (i := 1) (v := .int .i64 a.y) rfl, (U_1.out.below h2.1.1.1 U_1.out.lt).cell (i := 0) (v := .int .i64 b.x) rfl, (U_1.out.below h2.1.1.1 U_1.out.lt).cell (i := 1) (v := .int .i64 b.y) rfl⟩, fun w2 w3 h2 hb2 => ⟨⟨⟨h2.1.1.1.trans (hb2.mono h2.1.1.1.size), h2.1.1.2.below hb2 h2.1.1.2.lt⟩, h2.1.2.below hb2 h2.1.2.lt⟩, h2.2.below hb2 h2.2.lt⟩⟩ ⟨⟨⟨((hA.1.1.1.setCell (p := ⟨pX, 0, none⟩) (by show v0.heap.size <= pX; omega) _).setCell (p := ⟨pX, 1, none⟩) (by show v0.heap.size <= pX; omega) _), ((hA.1.1.2.far (p := ⟨pX, 0, none⟩) (by show pY ≠ pX; omega) _).far (p := ⟨pX, 1, none⟩) (by show pY ≠ pX; omega) _)⟩, ((hA.1.2.far (p := ⟨pX, 0, none⟩) (by show pZ ≠ pX; omega) _).far (p := ⟨pX, 1, none⟩) (by show pZ ≠ pX; omega) _)⟩, ((hA.2.set 0 _).set 1 _)⟩ (fun hCalm => ?_)
     clear z0 f0 z1 f1 hK K hA wA
     try simp only [Act.put]
     refine grow_each [13] (by kernel_rfl) (by decide) ?_
     refine grow_cons 13 rfl (by kernel_rfl) (fun wA hA K hK => ?_) grow_nil
     have z0 := hA.1.1.2.cell (i := 0) (v := .int .i64 0) rfl; have f0 := hA.1.1.2.frozen 0
     have z1 := hA.1.1.2.cell (i := 1) (v := .int .i64 0) rfl; have f1 := hA.1.1.2.frozen 1
     go_simp
     clear hCalm; refine grow_put hK (fun w' => (((Below v0.heap.size v0 w') /\ Blk w' pY 31 #[(.int .i64 u.x), (.int .i64 u.y)]) /\ Blk w' pZ 31 #[.int .i64 0, .int .i64 0]) /\ Blk w' pX 31 #[(.int .i64 l.x), (.int .i64 l.y)]) ⟨fun w2 h2 => ⟨(S_1.out.below h2.1.1.1 S_1.out.lt).cell (i := 0) (v := .int .i64 p.x) rfl, (S_1.out.below h2.1.1.1 S_1.out.lt).cell (i := 1) (v := .int .i64 p.y) rfl, (T_1.out.below h2.1.1.1 T_1.out.lt).cell (i := 0) (v := .int .i64 a.x) rfl, (T_1.out.below h2.1.1.1 T_1.out.lt).cell (i := 1) (v := .int .i64 a.y) rfl, (U_1.out.below h2.1.1.1 U_1.out.lt).cell (i := 0) (v := .int .i64 b.x) rfl, (U_1.out.below h2.1.1.1 U_1.out.lt).cell (i := 1) (v := .int .i64 b.y) rfl⟩, fun w2 w3 h2 hb2 => ⟨⟨⟨h2.1.1.1.trans (hb2.mono h2.1.1.1.size), h2.1.1.2.below hb2 h2.1.1.2.lt⟩, h2.1.2.below hb2 h2.1.2.lt⟩, h2.2.below hb2 h2.2.lt⟩⟩ ⟨⟨⟨((hA.1.1.1.setCell (p := ⟨pY, 0, none⟩) (by show v0.heap.size <= pY; omega) _).setCell (p := ⟨pY, 1, none⟩) (by show v0.heap.size <= pY; omega) _), ((hA.1.1.2.set 0 _).set 1 _)⟩, ((hA.1.2.far (p := ⟨pY, 0, none⟩) (by show pZ ≠ pY; omega) _).far (p := ⟨pY, 1, none⟩) (by show pZ ≠ pY; omega) _)⟩, ((hA.2.far (p := ⟨pY, 0, none⟩) (by show pX ≠ pY; omega) _).far (p := ⟨pY, 1, none⟩) (by show pX ≠ pY; omega) _)⟩ (fun hCalm => ?_)
     clear z0 f0 z1 f1 hK K hA wA
     try simp only [Act.put]
     refine grow_each [14] (by kernel_rfl) (by decide) ?_
     refine grow_cons 14 rfl (by kernel_rfl) (fun wA hA K hK => ?_) grow_nil
     have z0 := hA.1.2.cell (i := 0) (v := .int .i64 0) rfl; have f0 := hA.1.2.frozen 0
     have z1 := hA.1.2.cell (i := 1) (v := .int .i64 0) rfl; have f1 := hA.1.2.frozen 1
     go_simp
     clear hCalm; refine grow_put hK (fun w' => (((Below v0.heap.size v0 w') /\ Blk w' pY 31 #[(.int .i64 u.x), (.int .i64 u.y)]) /\ Blk w' pZ 31 #[(.int .i64 v.x), (.int .i64 v.y)]) /\ Blk w' pX 31 #[(.int .i64 l.x), (.int .i64 l.y)]) ⟨fun w2 h2 => ⟨(S_1.out.below h2.1.1.1 S_1.out.lt).cell (i := 0) (v := .int .i64 p.x) rfl, (S_1.out.below h2.1.1.1 S_1.out.lt).cell (i := 1) (v := .int .i64 p.y) rfl, (T_1.out.below h2.1.1.1 T_1.out.lt).cell (i := 0) (v := .int .i64 a.x) rfl, (T_1.out.below h2.1.1.1 T_1.out.lt).cell (i := 1) (v := .int .i64 a.y) rfl, (U_1.out.below h2.1.1.1 U_1.out.lt).cell (i := 0) (v := .int .i64 b.x) rfl, (U_1.out.below h2.1.1.1 U_1.out.lt).cell (i := 1) (v := .int .i64 b.y) rfl⟩, fun w2 w3 h2 hb2 => ⟨⟨⟨h2.1.1.1.trans (hb2.mono h2.1.1.1.size), h2.1.1.2.below hb2 h2.1.1.2.lt⟩, h2.1.2.below hb2 h2.1.2.lt⟩, h2.2.below hb2 h2.2.lt⟩⟩ ⟨⟨⟨((hA.1.1.1.setCell (p := ⟨pZ, 0, none⟩) (by show v0.heap.size <= pZ; omega) _).setCell (p := ⟨pZ, 1, none⟩) (by show v0.heap.size <= pZ; omega) _), ((hA.1.1.2.far (p := ⟨pZ, 0, none⟩) (by show pY ≠ pZ; omega) _).far (p := ⟨pZ, 1, none⟩) (by show pY ≠ pZ; omega) _)⟩, ((hA.1.2.set 0 _).set 1 _)⟩, ((hA.2.far (p := ⟨pZ, 0, none⟩) (by show pX ≠ pZ; omega) _).far (p := ⟨pZ, 1, none⟩) (by show pX ≠ pZ; omega) _)⟩ (fun hCalm => ?_)
     clear z0 f0 z1 f1 hK K hA wA
     try simp only [Act.put]
     refine grow_done (by kernel_rfl) (fun wA hA => ?_) _
     go_wp2_with fail
     go_meet
     exact ⟨pX, pY, pZ, rfl, rfl, rfl, hA.2, hA.1.1.2, hA.1.2, hA.1.1.1⟩
    exact grow_nil
   refine grow_cons 11 rfl (by kernel_rfl) (fun wA hA K hK => ?_) ?_
   case _ =>
    obtain ⟨pZ, hpZ⟩ : ∃ b, b = wA.heap.size := ⟨_, rfl⟩
    have le_pZ : v0.heap.size <= pZ := by rw [hpZ]; exact hA.size
    have hnew : Blk (wA.alloc (.cells #[.int .i64 0, .int .i64 0] 31)) pZ 31 #[.int .i64 0, .int .i64 0] := by rw [hpZ]; exact Blk.new wA _ _
    go_simp
    rw [<- hpZ]
    refine grow_new hK hCalm hA hnew (fun h9 => ?_)
    clear hCalm hnew hpZ hK K hA wA; have hCalm := h9; clear h9
    try simp only [Act.put, q8a, q8b, q8c]
    refine grow_each [9, 10] (by kernel_rfl) (by decide) ?_
    refine grow_cons 9 rfl (by kernel_rfl) (fun wA hA K hK => ?_) ?_
    case _ =>
     obtain ⟨pX, hpX⟩ : ∃ b, b = wA.heap.size := ⟨_, rfl⟩
     have le_pX : v0.heap.size <= pX := by rw [hpX]; exact hA.1.size
     have lt_Z_pX : pZ < pX := by rw [hpX]; exact hA.2.lt
     have hnew : Blk (wA.alloc (.cells #[.int .i64 0, .int .i64 0] 31)) pX 31 #[.int .i64 0, .int .i64 0] := by rw [hpX]; exact Blk.new wA _ _
     go_simp
     rw [<- hpX]
     refine grow_new hK hCalm hA hnew (fun h9 => ?_)
     clear hCalm hnew hpX hK K hA wA; have hCalm := h9; clear h9
     try simp only [Act.put, q8a, q8b, q8c]
     refine grow_each [10] (by kernel_rfl) (by decide) ?_
     refine grow_cons 10 rfl (by kernel_rfl) (fun wA hA K hK => ?_) grow_nil
     obtain ⟨pY, hpY⟩ : ∃ b, b = wA.heap.size := ⟨_, rfl⟩
     have le_pY : v0.heap.size <= pY := by rw [hpY]; exact hA.1.1.size
     have lt_Z_pY : pZ < pY := by rw [hpY]; exact hA.1.2.lt
     have lt_X_pY : pX < pY := by rw [hpY]; exact hA.2.lt
     have hnew : Blk (wA.alloc (.cells #[.int .i64 0, .int .i64 0] 31)) pY 31 #[.int .i64 0, .int .i64 0] := by rw [hpY]; exact Blk.new wA _ _
     go_simp
     rw [<- hpY]
     refine grow_new hK hCalm hA hnew (fun h9 => ?_)
     clear hCalm hnew hpY hK K hA wA; have hCalm := h9; clear h9
     try simp only [Act.put, q8a, q8b, q8c]
     refine grow_each [12] (by kernel_rfl) (by decide) ?_
     refine grow_cons 12 rfl (by kernel_rfl) (fun wA hA K hK => ?_) grow_nil
     have z0 := hA.1.2.cell (i := 0) (v := .int .i64 0) rfl; have f0 := hA.1.2.frozen 0
     have z1 := hA.1.2.cell (i := 1) (v := .int .i64 0) rfl; have f1 := hA.1.2.frozen 1
     go_simp
     clear hCalm; refine grow_put hK (fun w' => (((Below v0.heap.size v0 w') /\ Blk w' pZ 31 #[.int .i64 0, .int .i64 0]) /\ Blk w' pX 31 #[(.int .i64 l.x), (.int .i64 l.y)]) /\ Blk w' pY 31 #[.int .i64 0, .int .i64 0]) ⟨fun w2 h2 => ⟨(S_1.out.below h2.1.1.1 S_1.out.lt).cell (i := 0) (v := .int .i64 p.x) rfl, (S_1.out.below h2.1.1.1 S_1.out.lt).cell (i := 1) (v := .int .i64 p.y) rfl, (T_1.out.below h2.1.1.1 T_1.out.lt).cell (i := 0) (v := .int .i64 a.x) rfl, (T_1.out.below h2.1.1.1 T_1.out.lt).cell (i := 1) (v := .int .i64 a.y) rfl, (U_1.out.below h2.1.1.1 U_1.out.lt).cell (i := 0) (v := .int .i64 b.x) rfl, (U_1.out.below h2.1.1.1 U_1.out.lt).cell (i := 1) (v := .int .i64 b.y) rfl⟩, fun w2 w3 h2 hb2 => ⟨⟨⟨h2.1.1.1.trans (hb2.mono h2.1.1.1.size), h2.1.1.2.below hb2 h2.1.1.2.lt⟩, h2.1.2.below hb2 h2.1.2.lt⟩, h2.2.below hb2 h2.2.lt⟩⟩ ⟨⟨⟨((hA.1.1.1.setCell (p := ⟨pX, 0, none⟩) (by show v0.heap.size <= pX; omega) _).setCell (p := ⟨pX, 1, none⟩) (by show v0.heap.size <= pX; omega) _), ((hA.1.1.2.far (p := ⟨pX, 0, none⟩) (by show pZ ≠ pX; omega) _).far (p := ⟨pX, 1, none⟩) (by show pZ ≠ pX; omega) _)⟩, ((hA.1.2.set 0 _).set 1 _)⟩, ((hA.2.far (p := ⟨pX, 0, none⟩) (by show pY ≠ pX; omega) _).far (p := ⟨pX, 1, none⟩) (by show pY ≠ pX; omega) _)⟩ (fun hCalm => ?_)
     clear z0 f0 z1 f1 hK K hA wA
     try simp only [Act.put]
     refine grow_each [13] (by kernel_rfl) (by decide) ?_
     refine grow_cons 13 rfl (by kernel_rfl) (fun wA hA K hK => ?_) grow_nil
     have z0 := hA.2.cell (i := 0) (v := .int .i64 0) rfl; have f0 := hA.2.frozen 0
     have z1 := hA.2.cell (i := 1) (v := .int .i64 0) rfl; have f1 := hA.2.frozen 1
     go_simp
     clear hCalm; refine grow_put hK (fun w' => (((Below v0.heap.size v0 w') /\ Blk w' pZ 31 #[.int .i64 0, .int .i64 0]) /\ Blk w' pX 31 #[(.int .i64 l.x), (.int .i64 l.y)]) /\ Blk w' pY 31 #[(.int .i64 u.x), (.int .i64 u.y)]) ⟨fun w2 h2 => ⟨(S_1.out.below h2.1.1.1 S_1.out.lt).cell (i := 0) (v := .int .i64 p.x) rfl, (S_1.out.below h2.1.1.1 S_1.out.lt).cell (i := 1) (v := .int .i64 p.y) rfl, (T_1.out.below h2.1.1.1 T_1.out.lt).cell (i := 0) (v := .int .i64 a.x) rfl, (T_1.out.below h2.1.1.1 T_1.out.lt).cell (i := 1) (v := .int .i64 a.y) rfl, (U_1.out.below h2.1.1.1 U_1.out.lt).cell (i := 0) (v := .int .i64 b.x) rfl, (U_1.out.below h2.1.1.1 U_1.out.lt).cell (i := 1) (v := .int .i64 b.y) rfl⟩, fun w2 w3 h2 hb2 => ⟨⟨⟨h2.1.1.1.trans (hb2.mono h2.1.1.1.size), h2.1.1.2.below hb2 h2.1.1.2.lt⟩, h2.1.2.below hb2 h2.1.2.lt⟩, h2.2.below hb2 h2.2.lt⟩⟩ ⟨⟨⟨((hA.1.1.1.setCell (p := ⟨pY, 0, none⟩) (by show v0.heap.size <= pY; omega) _).setCell (p := ⟨pY, 1, none⟩) (by show v0.heap.size <= pY; omega) _), ((hA.1.1.2.far (p := ⟨pY, 0, none⟩) (by show pZ ≠ pY; omega) _).far (p := ⟨pY, 1, none⟩) (by show pZ ≠ pY; omega) _)⟩, ((hA.1.2.far (p := ⟨pY, 0, none⟩) (by show pX ≠ pY; omega) _).far (p := ⟨pY, 1, none⟩) (by show pX ≠ pY; omega) _)⟩, ((hA.2.set 0 _).set 1 _)⟩ (fun hCalm => ?_)
     clear z0 f0 z1 f1 hK K hA wA
     try simp only [Act.put]
     refine grow_each [14] (by kernel_rfl) (by decide) ?_
     refine grow_cons 14 rfl (by kernel_rfl) (fun wA hA K hK => ?_) grow_nil
     have z0 := hA.1.1.2.cell (i := 0) (v := .int .i64 0) rfl; have f0 := hA.1.1.2.frozen 0
     have z1 := hA.1.1.2.cell (i := 1) (v := .int .i64 0) rfl; have f1 := hA.1.1.2.frozen 1
     go_simp
     clear hCalm; refine grow_put hK (fun w' => (((Below v0.heap.size v0 w') /\ Blk w' pZ 31 #[(.int .i64 v.x), (.int .i64 v.y)]) /\ Blk w' pX 31 #[(.int .i64 l.x), (.int .i64 l.y)]) /\ Blk w' pY 31 #[(.int .i64 u.x), (.int .i64 u.y)]) ⟨fun w2 h2 => ⟨(S_1.out.below h2.1.1.1 S_1.out.lt).cell (i := 0) (v := .int .i64 p.x) rfl, (S_1.out.below h2.1.1.1 S_1.out.lt).cell (i := 1) (v := .int .i64 p.y) rfl, (T_1.out.below h2.1.1.1 T_1.out.lt).cell (i := 0) (v := .int .i64 a.x) rfl, (T_1.out.below h2.1.1.1 T_1.out.lt).cell (i := 1) (v := .int .i64 a.y) rfl, (U_1.out.below h2.1.1.1 U_1.out.lt).cell (i := 0) (v := .int .i64 b.x) rfl, (U_1.out.below h2.1.1.1 U_1.out.lt).cell (i := 1) (v := .int .i64 b.y) rfl⟩, fun w2 w3 h2 hb2 => ⟨⟨⟨h2.1.1.1.trans (hb2.mono h2.1.1.1.size), h2.1.1.2.below hb2 h2.1.1.2.lt⟩, h2.1.2.below hb2 h2.1.2.lt⟩, h2.2.below hb2 h2.2.lt⟩⟩ ⟨⟨⟨((hA.1.1.1.setCell (p := ⟨pZ, 0, none⟩) (by show v0.heap.size <= pZ; omega) _).setCell (p := ⟨pZ, 1, none⟩) (by show v0.heap.size <= pZ; omega) _), ((hA.1.1.2.set 0 _).set 1 _)⟩, ((hA.1.2.far (p := ⟨pZ, 0, none⟩) (by show pX ≠ pZ; omega) _).far (p := ⟨pZ, 1, none⟩) (by show pX ≠ pZ; omega) _)⟩, ((hA.2.far (p := ⟨pZ, 0, none⟩) (by show pY ≠ pZ; omega) _).far (p := ⟨pZ, 1, none⟩) (by show pY ≠ pZ; omega) _)⟩ (fun hCalm => ?_)
     clear z0 f0 z1 f1 hK K hA wA
     try simp only [Act.put]
     refine grow_done (by kernel_rfl) (fun wA hA => ?_) _
     go_wp2_with fail
     go_meet
     exact ⟨pX, pY, pZ, rfl, rfl, rfl, hA.1.2, hA.2, hA.1.1.2, hA.1.1.1⟩
    refine grow_cons 10 rfl (by kernel_rfl) (fun wA hA K hK => ?_) ?_
    case _ =>
     obtain ⟨pY, hpY⟩ : ∃ b, b = wA.heap.size := ⟨_, rfl⟩
     have le_pY : v0.heap.size <= pY := by rw [hpY]; exact hA.1.size
     have lt_Z_pY : pZ < pY := by rw [hpY]; exact hA.2.lt
     have hnew : Blk (wA.alloc (.cells #[.int .i64 0, .int .i64 0] 31)) pY 31 #[.int .i64 0, .int .i64 0] := by rw [hpY]; exact Blk.new wA _ _
     go_simp
     rw [<- hpY]
     refine grow_new hK hCalm hA hnew (fun h9 => ?_)
     clear hCalm hnew hpY hK K hA wA; have hCalm := h9; clear h9
     try simp only [Act.put, q8a, q8b, q8c]
     refine grow_each [9] (by kernel_rfl) (by decide) ?_
     refine grow_cons 9 rfl (by kernel_rfl) (fun wA hA K hK => ?_) grow_nil
     obtain ⟨pX, hpX⟩ : ∃ b, b = wA.heap.size := ⟨_, rfl⟩
     have le_pX : v0.heap.size <= pX := by rw [hpX]; exact hA.1.1.size
     have lt_Z_pX : pZ < pX := by rw [hpX]; exact hA.1.2.lt
     have lt_Y_pX : pY < pX := by rw [hpX]; exact hA.2.lt
     have hnew : Blk (wA.alloc (.cells #[.int .i64 0, .int .i64 0] 31)) pX 31 #[.int .i64 0, .int .i64 0] := by rw [hpX]; exact Blk.new wA _ _
     go_simp
     rw [<- hpX]
     refine grow_new hK hCalm hA hnew (fun h9 => ?_)
     clear hCalm hnew hpX hK K hA wA; have hCalm := h9; clear h9
     try simp only [Act.put, q8a, q8b, q8c]
     refine grow_each [12] (by kernel_rfl) (by decide) ?_
     refine grow_cons 12 rfl (by kernel_rfl) (fun wA hA K hK => ?_) grow_nil
     have z0 := hA.2.cell (i := 0) (v := .int .i64 0) rfl; have f0 := hA.2.frozen 0
     have z1 := hA.2.cell (i := 1) (v := .int .i64 0) rfl; have f1 := hA.2.frozen 1
     go_simp
     clear hCalm; refine grow_put hK (fun w' => (((Below v0.heap.size v0 w') /\ Blk w' pZ 31 #[.int .i64 0, .int .i64 0]) /\ Blk w' pY 31 #[.int .i64 0, .int .i64 0]) /\ Blk w' pX 31 #[(.int .i64 l.x), (.int .i64 l.y)]) ⟨fun w2 h2 => ⟨(S_1.out.below h2.1.1.1 S_1.out.lt).cell (i := 0) (v := .int .i64 p.x) rfl, (S_1.out.below h2.1.1.1 S_1.out.lt).cell (i := 1) (v := .int .i64 p.y) rfl, (T_1.out.below h2.1.1.1 T_1.out.lt).cell (i := 0) (v := .int .i64 a.x) rfl, (T_1.out.below h2.1.1.1 T_1.out.lt).cell (i := 1) (v := .int .i64 a.y) rfl, (U_1.out.below h2.1.1.1 U_1.out.lt).cell (i := 0) (v := .int .i64 b.x) rfl, (U_1.out.below h2.1.1.1 U_1.out.lt).cell (i := 1) (v := .int .i64 b.y) rfl⟩, fun w2 w3 h2 hb2 => ⟨⟨⟨h2.1.1.1.trans (hb2.mono h2.1.1.1.size), h2.1.1.2.below hb2 h2.1.1.2.lt⟩, h2.1.2.below hb2 h2.1.2.lt⟩, h2.2.below hb2 h2.2.lt⟩⟩ ⟨⟨⟨((hA.1.1.1.setCell (p := ⟨pX, 0, none⟩) (by show v0.heap.size <= pX; omega) _).setCell (p := ⟨pX, 1, none⟩) (by show v0.heap.size <= pX; omega) _), ((hA.1.1.2.far (p := ⟨pX, 0, none⟩) (by show pZ ≠ pX; omega) _).far (p := ⟨pX, 1, none⟩) (by show pZ ≠ pX; omega) _)⟩, ((hA.1.2.far (p := ⟨pX, 0, none⟩) (by show pY ≠ pX; omega) _).far (p := ⟨pX, 1, none⟩) (by show pY ≠ pX; omega) _)⟩, ((hA.2.set 0 _).set 1 _)⟩ (fun hCalm => ?_)
     clear z0 f0 z1 f1 hK K hA wA
     try simp only [Act.put]
     refine grow_each [13] (by kernel_rfl) (by decide) ?_
     refine grow_cons 13 rfl (by kernel_rfl) (fun wA hA K hK => ?_) grow_nil
     have z0 := hA.1.2.cell (i := 0) (v := .int .i64 0) rfl; have f0 := hA.1.2.frozen 0
     have z1 := hA.1.2.cell (i := 1) (v := .int .i64 0) rfl; have f1 := hA.1.2.frozen 1
     go_simp
     clear hCalm; refine grow_put hK (fun w' => (((Below v0.heap.size v0 w') /\ Blk w' pZ 31 #[.int .i64 0, .int .i64 0]) /\ Blk w' pY 31 #[(.int .i64 u.x), (.int .i64 u.y)]) /\ Blk w' pX 31 #[(.int .i64 l.x), (.int .i64 l.y)]) ⟨fun w2 h2 => ⟨(S_1.out.below h2.1.1.1 S_1.out.lt).cell (i := 0) (v := .int .i64 p.x) rfl, (S_1.out.below h2.1.1.1 S_1.out.lt).cell (i := 1) (v := .int .i64 p.y) rfl, (T_1.out.below h2.1.1.1 T_1.out.lt).cell (i := 0) (v := .int .i64 a.x) rfl, (T_1.out.below h2.1.1.1 T_1.out.lt).cell (i := 1) (v := .int .i64 a.y) rfl, (U_1.out.below h2.1.1.1 U_1.out.lt).cell (i := 0) (v := .int .i64 b.x) rfl, (U_1.out.below h2.1.1.1 U_1.out.lt).cell (i := 1) (v := .int .i64 b.y) rfl⟩, fun w2 w3 h2 hb2 => ⟨⟨⟨h2.1.1.1.trans (hb2.mono h2.1.1.1.size), h2.1.1.2.below hb2 h2.1.1.2.lt⟩, h2.1.2.below hb2 h2.1.2.lt⟩, h2.2.below hb2 h2.2.lt⟩⟩ ⟨⟨⟨((hA.1.1.1.setCell (p := ⟨pY, 0, none⟩) (by show v0.heap.size <= pY; omega) _).setCell (p := ⟨pY, 1, none⟩) (by show v0.heap.size <= pY; omega) _), ((hA.1.1.2.far (p := ⟨pY, 0, none⟩) (by show pZ ≠ pY; omega) _).far (p := ⟨pY, 1, none⟩) (by show pZ ≠ pY; omega) _)⟩, ((hA.1.2.set 0 _).set 1 _)⟩, ((hA.2.far (p := ⟨pY, 0, none⟩) (by show pX ≠ pY; omega) _).far (p := ⟨pY, 1, none⟩) (by show pX ≠ pY; omega) _)⟩ (fun hCalm => ?_)
     clear z0 f0 z1 f1 hK K hA wA
     try simp only [Act.put]
     refine grow_each [14] (by kernel_rfl) (by decide) ?_
     refine grow_cons 14 rfl (by kernel_rfl) (fun wA hA K hK => ?_) grow_nil
     have z0 := hA.1.1.2.cell (i := 0) (v := .int .i64 0) rfl; have f0 := hA.1.1.2.frozen 0
     have z1 := hA.1.1.2.cell (i := 1) (v := .int .i64 0) rfl; have f1 := hA.1.1.2.frozen 1
     go_simp
     clear hCalm; refine grow_put hK (fun w' => (((Below v0.heap.size v0 w') /\ Blk w' pZ 31 #[(.int .i64 v.x), (.int .i64 v.y)]) /\ Blk w' pY 31 #[(.int .i64 u.x), (.int .i64 u.y)]) /\ Blk w' pX 31 #[(.int .i64 l.x), (.int .i64 l.y)]) ⟨fun w2 h2 => ⟨(S_1.out.below h2.1.1.1 S_1.out.lt).cell (i := 0) (v := .int .i64 p.x) rfl, (S_1.out.below h2.1.1.1 S_1.out.lt).cell (i := 1) (v := .int .i64 p.y) rfl, (T_1.out.below h2.1.1.1 T_1.out.lt).cell (i := 0) (v := .int .i64 a.x) rfl, (T_1.out.below h2.1.1.1 T_1.out.lt).cell (i := 1) (v := .int .i64 a.y) rfl, (U_1.out.below h2.1.1.1 U_1.out.lt).cell (i := 0) (v := .int .i64 b.x) rfl, (U_1.out.below h2.1.1.1 U_1.out.lt).cell (i := 1) (v := .int .i64 b.y) rfl⟩, fun w2 w3 h2 hb2 => ⟨⟨⟨h2.1.1.1.trans (hb2.mono h2.1.1.1.size), h2.1.1.2.below hb2 h2.1.1.2.lt⟩, h2.1.2.below hb2 h2.1.2.lt⟩, h2.2.below hb2 h2.2.lt⟩⟩ ⟨⟨⟨((hA.1.1.1.setCell (p := ⟨pZ, 0, none⟩) (by show v0.heap.size <= pZ; omega) _).setCell (p := ⟨pZ, 1, none⟩) (by show v0.heap.size <= pZ; omega) _), ((hA.1.1.2.set 0 _).set 1 _)⟩, ((hA.1.2.far (p := ⟨pZ, 0, none⟩) (by show pY ≠ pZ; omega) _).far (p := ⟨pZ, 1, none⟩) (by show pY ≠ pZ; omega) _)⟩, ((hA.2.far (p := ⟨pZ, 0, none⟩) (by show pX ≠ pZ; omega) _).far (p := ⟨pZ, 1, none⟩) (by show pX ≠ pZ; omega) _)⟩ (fun hCalm => ?_)
     clear z0 f0 z1 f1 hK K hA wA
     try simp only [Act.put]
     refine grow_done (by kernel_rfl) (fun wA hA => ?_) _
     go_wp2_with fail
     go_meet
     exact ⟨pX, pY, pZ, rfl, rfl, rfl, hA.2, hA.1.2, hA.1.1.2, hA.1.1.1⟩
    exact grow_nil
   exact grow_nil
 case rest =>
   obtain ⟨q8, q9, q10, rfl, rfl, rfl, h8, h9, h10, hb⟩ := hcut
   rename World => wcut
   have S_2 : Hid (Blk wcut w.heap.size 31 #[.int .i64 p.x, .int .i64 p.y]) := Lib.hid (S_1.out.below hb S_1.out.lt)
   have T_2 : Hid (Blk wcut (w.heap.size + 1) 31 #[.int .i64 a.x, .int .i64 a.y]) := Lib.hid (T_1.out.below hb T_1.out.lt)
   have U_2 : Hid (Blk wcut (w.heap.size + 2) 31 #[.int .i64 b.x, .int .i64 b.y]) := Lib.hid (U_1.out.below hb U_1.out.lt)
   have R_2 : Hid (Blk wcut (w.heap.size + 3) 48 #[.string ⟨#[]⟩, .string ⟨#[]⟩]) := Lib.hid (R_1.out.below hb R_1.out.lt)
   have HB_2 : Hid (Below w.heap.size w wcut) := Lib.hid (HB_1.out.trans (hb.mono HB_1.out.size))
   clear hb S_1 T_1 U_1 R_1 HB_1
   have X_2 : Hid (Blk wcut q8 31 #[.int .i64 l.x, .int .i64 l.y]) := Lib.hid h8; have Y_2 : Hid (Blk wcut q9 31 #[.int .i64 u.x, .int .i64 u.y]) := Lib.hid h9; have Z_2 : Hid (Blk wcut q10 31 #[.int .i64 v.x, .int .i64 v.y]) := Lib.hid h10; clear h8 h9 h10
   have yy0 := X_2.out.cell (i := 0) (v := .int .i64 l.x) rfl; have yy1 := X_2.out.cell (i := 1) (v := .int .i64 l.y) rfl
   have yy2 := Y_2.out.cell (i := 0) (v := .int .i64 u.x) rfl; have yy3 := Y_2.out.cell (i := 1) (v := .int .i64 u.y) rfl
   go_wp2_with fail
   refine (HA1.out _).mono ?_
   rintro e v2 ⟨rfl, hb⟩
   clear yy0 yy1 yy2 yy3
   have S_3 : Hid (Blk v2 w.heap.size 31 #[.int .i64 p.x, .int .i64 p.y]) := Lib.hid (S_2.out.below hb S_2.out.lt)
   have T_3 : Hid (Blk v2 (w.heap.size + 1) 31 #[.int .i64 a.x, .int .i64 a.y]) := Lib.hid (T_2.out.below hb T_2.out.lt)
   have U_3 : Hid (Blk v2 (w.heap.size + 2) 31 #[.int .i64 b.x, .int .i64 b.y]) := Lib.hid (U_2.out.below hb U_2.out.lt)
   have R_3 : Hid (Blk v2 (w.heap.size + 3) 48 #[.string ⟨#[]⟩, .string ⟨#[]⟩]) := Lib.hid (R_2.out.below hb R_2.out.lt)
   have X_3 : Hid (Blk v2 q8 31 #[.int .i64 l.x, .int .i64 l.y]) := Lib.hid (X_2.out.below hb X_2.out.lt)
   have Y_3 : Hid (Blk v2 q9 31 #[.int .i64 u.x, .int .i64 u.y]) := Lib.hid (Y_2.out.below hb Y_2.out.lt)
   have Z_3 : Hid (Blk v2 q10 31 #[.int .i64 v.x, .int .i64 v.y]) := Lib.hid (Z_2.out.below hb Z_2.out.lt)
   have HB_3 : Hid (Below w.heap.size w v2) := Lib.hid (HB_2.out.trans (hb.mono HB_2.out.size))
   clear hb S_2 T_2 U_2 R_2 X_2 Y_2 Z_2 HB_2
   by_cases h1 : d1 <= 0
   case pos =>
     have HN1 := Lib.hid h1
     have yy0 := Y_3.out.cell (i := 0) (v := .int .i64 u.x) rfl; have yy1 := Y_3.out.cell (i := 1) (v := .int .i64 u.y) rfl
     go_wp2_with fail
     refine (HA2.out _).mono ?_
     rintro e v3 ⟨rfl, hb⟩
     clear yy0 yy1
     have S_4 : Hid (Blk v3 w.heap.size 31 #[.int .i64 p.x, .int .i64 p.y]) := Lib.hid (S_3.out.below hb S_3.out.lt)
     have T_4 : Hid (Blk v3 (w.heap.size + 1) 31 #[.int .i64 a.x, .int .i64 a.y]) := Lib.hid (T_3.out.below hb T_3.out.lt)
     have U_4 : Hid (Blk v3 (w.heap.size + 2) 31 #[.int .i64 b.x, .int .i64 b.y]) := Lib.hid (U_3.out.below hb U_3.out.lt)
     have R_4 : Hid (Blk v3 (w.heap.size + 3) 48 #[.string ⟨#[]⟩, .string ⟨#[]⟩]) := Lib.hid (R_3.out.below hb R_3.out.lt)
     have X_4 : Hid (Blk v3 q8 31 #[.int .i64 l.x, .int .i64 l.y]) := Lib.hid (X_3.out.below hb X_3.out.lt)
     have Y_4 : Hid (Blk v3 q9 31 #[.int .i64 u.x, .int .i64 u.y]) := Lib.hid (Y_3.out.below hb Y_3.out.lt)
     have Z_4 : Hid (Blk v3 q10 31 #[.int .i64 v.x, .int .i64 v.y]) := Lib.hid (Z_3.out.below hb Z_3.out.lt)
     have HB_4 : Hid (Below w.heap.size w v3) := Lib.hid (HB_3.out.trans (hb.mono HB_3.out.size))
     clear hb S_3 T_3 U_3 R_3 X_3 Y_3 Z_3 HB_3
     go_wp2_with fail
     refine (HO1.out _).mono ?_
     rintro e v4 ⟨rfl, hb⟩
     have S_5 : Hid (Blk v4 w.heap.size 31 #[.int .i64 p.x, .int .i64 p.y]) := Lib.hid (S_4.out.below hb S_4.out.lt)
     have T_5 : Hid (Blk v4 (w.heap.size + 1) 31 #[.int .i64 a.x, .int .i64 a.y]) := Lib.hid (T_4.out.below hb T_4.out.lt)
     have U_5 : Hid (Blk v4 (w.heap.size + 2) 31 #[.int .i64 b.x, .int .i64 b.y]) := Lib.hid (U_4.out.below hb U_4.out.lt)
     have R_5 : Hid (Blk v4 (w.heap.size + 3) 48 #[.string ⟨#[]⟩, .string ⟨#[]⟩]) := Lib.hid (R_4.out.below hb R_4.out.lt)
     have X_5 : Hid (Blk v4 q8 31 #[.int .i64 l.x, .int .i64 l.y]) := Lib.hid (X_4.out.below hb X_4.out.lt)
     have Y_5 : Hid (Blk v4 q9 31 #[.int .i64 u.x, .int .i64 u.y]) := Lib.hid (Y_4.out.below hb Y_4.out.lt)
     have Z_5 : Hid (Blk v4 q10 31 #[.int .i64 v.x, .int .i64 v.y]) := Lib.hid (Z_4.out.below hb Z_4.out.lt)
     have HB_5 : Hid (Below w.heap.size w v4) := Lib.hid (HB_4.out.trans (hb.mono HB_4.out.size))
     clear hb S_4 T_4 U_4 R_4 X_4 Y_4 Z_4 HB_4
     have r0 := R_5.out.cell (i := 0) (v := .string ⟨#[]⟩) rfl; have f0 := R_5.out.frozen 0
     have r1 := R_5.out.cell (i := 1) (v := .string ⟨#[]⟩) rfl; have f1 := R_5.out.frozen 1
     have HV : Hid (dq7 p a b = (d2, 1)) := Lib.hid (by rw [HQ.out, if_pos HN1.out])
     obtain ⟨sn, hsn⟩ : ∃ s, s = fn7 (d2) (1) := ⟨_, rfl⟩
     obtain ⟨sd, hsd⟩ : ∃ s, s = fd7 (d2) (1) := ⟨_, rfl⟩
     have HW : Hid (fn7 (dq7 p a b).1 (dq7 p a b).2 = sn /\ fd7 (dq7 p a b).1 (dq7 p a b).2 = sd) := Lib.hid (by rw [HV.out]; exact ⟨hsn.symm, hsd.symm⟩)
     rw [<- hsn, <- hsd]; clear hsn hsd
     go_wp2_with fail
     clear r0 f0 r1 f1
     have HFR := Lib.hid ((R_5.out.set 0 (.string sn)).set 1 (.string sd))
     have rR0 := HFR.out.cell (i := 0) (v := .string sn) rfl
     have rR1 := HFR.out.cell (i := 1) (v := .string sd) rfl
     exact bodyPost_ret (v := .tuple #[.agg #[.string sn, .string sd], .int .i64 0]) (by simp [results, Tryz.results17, go_sem, rR0, rR1]) rfl ⟨by rw [HW.out.1, HW.out.2], ((HB_5.out.setCell (p := ⟨(w.heap.size + 3), 0, none⟩) (by show w.heap.size <= (w.heap.size + 3); omega) (.string sn)).setCell (p := ⟨(w.heap.size + 3), 1, none⟩) (by show w.heap.size <= (w.heap.size + 3); omega) (.string sd))⟩
   case neg =>
     have HN1 := Lib.hid h1
     have yy0 := X_3.out.cell (i := 0) (v := .int .i64 l.x) rfl; have yy1 := X_3.out.cell (i := 1) (v := .int .i64 l.y) rfl
     have yy2 := Z_3.out.cell (i := 0) (v := .int .i64 v.x) rfl; have yy3 := Z_3.out.cell (i := 1) (v := .int .i64 v.y) rfl
     go_wp2_with fail
     refine (HA3.out _).mono ?_
     rintro e v3 ⟨rfl, hb⟩
     clear yy0 yy1 yy2 yy3
     have S_4 : Hid (Blk v3 w.heap.size 31 #[.int .i64 p.x, .int .i64 p.y]) := Lib.hid (S_3.out.below hb S_3.out.lt)
     have T_4 : Hid (Blk v3 (w.heap.size + 1) 31 #[.int .i64 a.x, .int .i64 a.y]) := Lib.hid (T_3.out.below hb T_3.out.lt)
     have U_4 : Hid (Blk v3 (w.heap.size + 2) 31 #[.int .i64 b.x, .int .i64 b.y]) := Lib.hid (U_3.out.below hb U_3.out.lt)
     have R_4 : Hid (Blk v3 (w.heap.size + 3) 48 #[.string ⟨#[]⟩, .string ⟨#[]⟩]) := Lib.hid (R_3.out.below hb R_3.out.lt)
     have X_4 : Hid (Blk v3 q8 31 #[.int .i64 l.x, .int .i64 l.y]) := Lib.hid (X_3.out.below hb X_3.out.lt)
     have Y_4 : Hid (Blk v3 q9 31 #[.int .i64 u.x, .int .i64 u.y]) := Lib.hid (Y_3.out.below hb Y_3.out.lt)
     have Z_4 : Hid (Blk v3 q10 31 #[.int .i64 v.x, .int .i64 v.y]) := Lib.hid (Z_3.out.below hb Z_3.out.lt)
     have HB_4 : Hid (Below w.heap.size w v3) := Lib.hid (HB_3.out.trans (hb.mono HB_3.out.size))
     clear hb S_3 T_3 U_3 R_3 X_3 Y_3 Z_3 HB_3
     by_cases h2 : 0 <= d3
     case pos =>
       have HN2 := Lib.hid h2
       have yy0 := Z_4.out.cell (i := 0) (v := .int .i64 v.x) rfl; have yy1 := Z_4.out.cell (i := 1) (v := .int .i64 v.y) rfl
       go_wp2_with fail
       refine (HA4.out _).mono ?_
       rintro e v4 ⟨rfl, hb⟩
       clear yy0 yy1
       have S_5 : Hid (Blk v4 w.heap.size 31 #[.int .i64 p.x, .int .i64 p.y]) := Lib.hid (S_4.out.below hb S_4.out.lt)
       have T_5 : Hid (Blk v4 (w.heap.size + 1) 31 #[.int .i64 a.x, .int .i64 a.y]) := Lib.hid (T_4.out.below hb T_4.out.lt)
       have U_5 : Hid (Blk v4 (w.heap.size + 2) 31 #[.int .i64 b.x, .int .i64 b.y]) := Lib.hid (U_4.out.below hb U_4.out.lt)
       have R_5 : Hid (Blk v4 (w.heap.size + 3) 48 #[.string ⟨#[]⟩, .string ⟨#[]⟩]) := Lib.hid (R_4.out.below hb R_4.out.lt)
       have X_5 : Hid (Blk v4 q8 31 #[.int .i64 l.x, .int .i64 l.y]) := Lib.hid (X_4.out.below hb X_4.out.lt)
       have Y_5 : Hid (Blk v4 q9 31 #[.int .i64 u.x, .int .i64 u.y]) := Lib.hid (Y_4.out.below hb Y_4.out.lt)
       have Z_5 : Hid (Blk v4 q10 31 #[.int .i64 v.x, .int .i64 v.y]) := Lib.hid (Z_4.out.below hb Z_4.out.lt)
       have HB_5 : Hid (Below w.heap.size w v4) := Lib.hid (HB_4.out.trans (hb.mono HB_4.out.size))
       clear hb S_4 T_4 U_4 R_4 X_4 Y_4 Z_4 HB_4
       go_wp2_with fail
       refine (HO2.out _).mono ?_
       rintro e v5 ⟨rfl, hb⟩
       have S_6 : Hid (Blk v5 w.heap.size 31 #[.int .i64 p.x, .int .i64 p.y]) := Lib.hid (S_5.out.below hb S_5.out.lt)
       have T_6 : Hid (Blk v5 (w.heap.size + 1) 31 #[.int .i64 a.x, .int .i64 a.y]) := Lib.hid (T_5.out.below hb T_5.out.lt)
       have U_6 : Hid (Blk v5 (w.heap.size + 2) 31 #[.int .i64 b.x, .int .i64 b.y]) := Lib.hid (U_5.out.below hb U_5.out.lt)
       have R_6 : Hid (Blk v5 (w.heap.size + 3) 48 #[.string ⟨#[]⟩, .string ⟨#[]⟩]) := Lib.hid (R_5.out.below hb R_5.out.lt)
       have X_6 : Hid (Blk v5 q8 31 #[.int .i64 l.x, .int .i64 l.y]) := Lib.hid (X_5.out.below hb X_5.out.lt)
       have Y_6 : Hid (Blk v5 q9 31 #[.int .i64 u.x, .int .i64 u.y]) := Lib.hid (Y_5.out.below hb Y_5.out.lt)
       have Z_6 : Hid (Blk v5 q10 31 #[.int .i64 v.x, .int .i64 v.y]) := Lib.hid (Z_5.out.below hb Z_5.out.lt)
       have HB_6 : Hid (Below w.heap.size w v5) := Lib.hid (HB_5.out.trans (hb.mono HB_5.out.size))
       clear hb S_5 T_5 U_5 R_5 X_5 Y_5 Z_5 HB_5
       have r0 := R_6.out.cell (i := 0) (v := .string ⟨#[]⟩) rfl; have f0 := R_6.out.frozen 0
       have r1 := R_6.out.cell (i := 1) (v := .string ⟨#[]⟩) rfl; have f1 := R_6.out.frozen 1
       have HV : Hid (dq7 p a b = (d4, 1)) := Lib.hid (by rw [HQ.out, if_neg (Int.not_le.2 HN1.out), if_pos HN2.out])
       obtain ⟨sn, hsn⟩ : ∃ s, s = fn7 (d4) (1) := ⟨_, rfl⟩
       obtain ⟨sd, hsd⟩ : ∃ s, s = fd7 (d4) (1) := ⟨_, rfl⟩
       have HW : Hid (fn7 (dq7 p a b).1 (dq7 p a b).2 = sn /\ fd7 (dq7 p a b).1 (dq7 p a b).2 = sd) := Lib.hid (by rw [HV.out]; exact ⟨hsn.symm, hsd.symm⟩)
       rw [<- hsn, <- hsd]; clear hsn hsd
       go_wp2_with fail
       clear r0 f0 r1 f1
       have HFR := Lib.hid ((R_6.out.set 0 (.string sn)).set 1 (.string sd))
       have rR0 := HFR.out.cell (i := 0) (v := .string sn) rfl
       have rR1 := HFR.out.cell (i := 1) (v := .string sd) rfl
       exact bodyPost_ret (v := .tuple #[.agg #[.string sn, .string sd], .int .i64 0]) (by simp [results, Tryz.results17, go_sem, rR0, rR1]) rfl ⟨by rw [HW.out.1, HW.out.2], ((HB_6.out.setCell (p := ⟨(w.heap.size + 3), 0, none⟩) (by show w.heap.size <= (w.heap.size + 3); omega) (.string sn)).setCell (p := ⟨(w.heap.size + 3), 1, none⟩) (by show w.heap.size <= (w.heap.size + 3); omega) (.string sd))⟩
     case neg =>
       have HN2 := Lib.hid h2
       have yy0 := X_4.out.cell (i := 0) (v := .int .i64 l.x) rfl; have yy1 := X_4.out.cell (i := 1) (v := .int .i64 l.y) rfl
       have yy2 := Y_4.out.cell (i := 0) (v := .int .i64 u.x) rfl; have yy3 := Y_4.out.cell (i := 1) (v := .int .i64 u.y) rfl
       go_wp2_with fail
       refine (HX.out _).mono ?_
       rintro e v4 ⟨rfl, hb⟩
       clear yy0 yy1 yy2 yy3
       have S_5 : Hid (Blk v4 w.heap.size 31 #[.int .i64 p.x, .int .i64 p.y]) := Lib.hid (S_4.out.below hb S_4.out.lt)
       have T_5 : Hid (Blk v4 (w.heap.size + 1) 31 #[.int .i64 a.x, .int .i64 a.y]) := Lib.hid (T_4.out.below hb T_4.out.lt)
       have U_5 : Hid (Blk v4 (w.heap.size + 2) 31 #[.int .i64 b.x, .int .i64 b.y]) := Lib.hid (U_4.out.below hb U_4.out.lt)
       have R_5 : Hid (Blk v4 (w.heap.size + 3) 48 #[.string ⟨#[]⟩, .string ⟨#[]⟩]) := Lib.hid (R_4.out.below hb R_4.out.lt)
       have X_5 : Hid (Blk v4 q8 31 #[.int .i64 l.x, .int .i64 l.y]) := Lib.hid (X_4.out.below hb X_4.out.lt)
       have Y_5 : Hid (Blk v4 q9 31 #[.int .i64 u.x, .int .i64 u.y]) := Lib.hid (Y_4.out.below hb Y_4.out.lt)
       have Z_5 : Hid (Blk v4 q10 31 #[.int .i64 v.x, .int .i64 v.y]) := Lib.hid (Z_4.out.below hb Z_4.out.lt)
       have HB_5 : Hid (Below w.heap.size w v4) := Lib.hid (HB_4.out.trans (hb.mono HB_4.out.size))
       clear hb S_4 T_4 U_4 R_4 X_4 Y_4 Z_4 HB_4
       have yy0 := X_5.out.cell (i := 0) (v := .int .i64 l.x) rfl; have yy1 := X_5.out.cell (i := 1) (v := .int .i64 l.y) rfl
       go_wp2_with fail
       refine (HA5.out _).mono ?_
       rintro e v5 ⟨rfl, hb⟩
       clear yy0 yy1
       have S_6 : Hid (Blk v5 w.heap.size 31 #[.int .i64 p.x, .int .i64 p.y]) := Lib.hid (S_5.out.below hb S_5.out.lt)
       have T_6 : Hid (Blk v5 (w.heap.size + 1) 31 #[.int .i64 a.x, .int .i64 a.y]) := Lib.hid (T_5.out.below hb T_5.out.lt)
       have U_6 : Hid (Blk v5 (w.heap.size + 2) 31 #[.int .i64 b.x, .int .i64 b.y]) := Lib.hid (U_5.out.below hb U_5.out.lt)
       have R_6 : Hid (Blk v5 (w.heap.size + 3) 48 #[.string ⟨#[]⟩, .string ⟨#[]⟩]) := Lib.hid (R_5.out.below hb R_5.out.lt)
       have X_6 : Hid (Blk v5 q8 31 #[.int .i64 l.x, .int .i64 l.y]) := Lib.hid (X_5.out.below hb X_5.out.lt)
       have Y_6 : Hid (Blk v5 q9 31 #[.int .i64 u.x, .int .i64 u.y]) := Lib.hid (Y_5.out.below hb Y_5.out.lt)
       have Z_6 : Hid (Blk v5 q10 31 #[.int .i64 v.x, .int .i64 v.y]) := Lib.hid (Z_5.out.below hb Z_5.out.lt)
       have HB_6 : Hid (Below w.heap.size w v5) := Lib.hid (HB_5.out.trans (hb.mono HB_5.out.size))
       clear hb S_5 T_5 U_5 R_5 X_5 Y_5 Z_5 HB_5
       go_wp2_with fail
       refine (HO3.out HN1.out HN2.out _).mono ?_
       rintro e v6 ⟨rfl, hb⟩
       have S_7 : Hid (Blk v6 w.heap.size 31 #[.int .i64 p.x, .int .i64 p.y]) := Lib.hid (S_6.out.below hb S_6.out.lt)
       have T_7 : Hid (Blk v6 (w.heap.size + 1) 31 #[.int .i64 a.x, .int .i64 a.y]) := Lib.hid (T_6.out.below hb T_6.out.lt)
       have U_7 : Hid (Blk v6 (w.heap.size + 2) 31 #[.int .i64 b.x, .int .i64 b.y]) := Lib.hid (U_6.out.below hb U_6.out.lt)
       have R_7 : Hid (Blk v6 (w.heap.size + 3) 48 #[.string ⟨#[]⟩, .string ⟨#[]⟩]) := Lib.hid (R_6.out.below hb R_6.out.lt)
       have X_7 : Hid (Blk v6 q8 31 #[.int .i64 l.x, .int .i64 l.y]) := Lib.hid (X_6.out.below hb X_6.out.lt)
       have Y_7 : Hid (Blk v6 q9 31 #[.int .i64 u.x, .int .i64 u.y]) := Lib.hid (Y_6.out.below hb Y_6.out.lt)
       have Z_7 : Hid (Blk v6 q10 31 #[.int .i64 v.x, .int .i64 v.y]) := Lib.hid (Z_6.out.below hb Z_6.out.lt)
       have HB_7 : Hid (Below w.heap.size w v6) := Lib.hid (HB_6.out.trans (hb.mono HB_6.out.size))
       clear hb S_6 T_6 U_6 R_6 X_6 Y_6 Z_6 HB_6
       have r0 := R_7.out.cell (i := 0) (v := .string ⟨#[]⟩) rfl; have f0 := R_7.out.frozen 0
       have r1 := R_7.out.cell (i := 1) (v := .string ⟨#[]⟩) rfl; have f1 := R_7.out.frozen 1
       have HV : Hid (dq7 p a b = (x * x, d5)) := Lib.hid (by rw [HQ.out, if_neg (Int.not_le.2 HN1.out), if_neg (Int.not_le.2 HN2.out)])
       obtain ⟨sn, hsn⟩ : ∃ s, s = fn7 (x * x) (d5) := ⟨_, rfl⟩
       obtain ⟨sd, hsd⟩ : ∃ s, s = fd7 (x * x) (d5) := ⟨_, rfl⟩
       have HW : Hid (fn7 (dq7 p a b).1 (dq7 p a b).2 = sn /\ fd7 (dq7 p a b).1 (dq7 p a b).2 = sd) := Lib.hid (by rw [HV.out]; exact ⟨hsn.symm, hsd.symm⟩)
       rw [<- hsn, <- hsd]; clear hsn hsd
       go_wp2_with fail
       clear r0 f0 r1 f1
       have HFR := Lib.hid ((R_7.out.set 0 (.string sn)).set 1 (.string sd))
       have rR0 := HFR.out.cell (i := 0) (v := .string sn) rfl
       have rR1 := HFR.out.cell (i := 1) (v := .string sd) rfl
       exact bodyPost_ret (v := .tuple #[.agg #[.string sn, .string sd], .int .i64 0]) (by simp [results, Tryz.results17, go_sem, rR0, rR1]) rfl ⟨by rw [HW.out.1, HW.out.2], ((HB_7.out.setCell (p := ⟨(w.heap.size + 3), 0, none⟩) (by show w.heap.size <= (w.heap.size + 3); omega) (.string sn)).setCell (p := ⟨(w.heap.size + 3), 1, none⟩) (by show w.heap.size <= (w.heap.size + 3); omega) (.string sd))⟩
end Go.Proofs.YtpjbihfkedbenaaGreat
