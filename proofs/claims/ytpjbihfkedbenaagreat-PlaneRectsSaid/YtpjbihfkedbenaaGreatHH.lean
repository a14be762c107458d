/- The contracts of plane's filled and above. Conditions: valid places, a valid rectangle. | The contracts of plane's nothing, plus, minus, total. Conditions: fractions in lowest terms, sizes that do not overflow. | The contract of plane's Covered. Conditions: a convex polygon of valid places, a valid rectangle. -/
import Derived.Deep.CutRange
import Derived.Test.YtpjbihfkedbenaaGreatHC
import Derived.Test.YtpjbihfkedbenaaGreatHB
import Derived.Test.YtpjbihfkedbenaaGreatGH
import Derived.Test.YtpjbihfkedbenaaGreatHG
import Derived.Test.YtpjbihfkedbenaaGreatHF
namespace Go.Proofs.YtpjbihfkedbenaaGreat
open Go.RowKit Go.Lib
def bw7 (n l m : Int) : Int := min (max n l) m
def fil7 (d b : Int) : Int := bw7 d 0 b * (2 * d - bw7 d 0 b)
def dep7 (a : P7) (r : R7) (ln : P7) (x : Int) : Int := (a.y - r.y) * ln.x + (x - a.x) * ln.y
def abv7 (a b : P7) (r : R7) : Int × Int :=
 if min b.x (r.x + r.w) <= max a.x r.x then (0, 1)
 else if b.y - a.y = 0 then (bw7 (dep7 a r (fr7 a b) (max a.x r.x)) 0 (r.h * (b.x - a.x)) * (min b.x (r.x + r.w) - max a.x r.x), b.x - a.x)
 else (fil7 (dep7 a r (fr7 a b) (min b.x (r.x + r.w))) (r.h * (b.x - a.x)) - fil7 (dep7 a r (fr7 a b) (max a.x r.x)) (r.h * (b.x - a.x)), 2 * (b.x - a.x) * (b.y - a.y))
theorem bw7_in {n m : Int} (h : 0 <= m) : 0 <= bw7 n 0 m /\ bw7 n 0 m <= m := by unfold bw7; omega
theorem fil7_small {d b : Int} (h1 : -100000000 <= d /\ d <= 100000000) (h2 : 0 <= b /\ b <= 100000000) : -40000000000000000 <= fil7 d b /\ fil7 d b <= 40000000000000000 := by
 have h3 := bw7_in (n := d) h2.1
 have h4 := mul_small (m := 100000000) (n := 300000000) (a := bw7 d 0 b) (b := 2 * d - bw7 d 0 b) (by omega) (by omega)
 unfold fil7; omega
theorem dep7_small {a : P7} {r : R7} {ln : P7} {x : Int} (ha : a.ok) (hr : r.ok) (h1 : -4095 <= ln.x /\ ln.x <= 4095) (h2 : -4095 <= ln.y /\ ln.y <= 4095) (hx : 0 <= x /\ x <= 4095) :
   (-20000000 <= (a.y - r.y) * ln.x /\ (a.y - r.y) * ln.x <= 20000000) /\ (-20000000 <= (x - a.x) * ln.y /\ (x - a.x) * ln.y <= 20000000) := by
 unfold P7.ok at ha; unfold R7.ok at hr
 have h3 := mul_small (m := 4095) (n := 4095) (a := a.y - r.y) (b := ln.x) (by omega) h1
 have h4 := mul_small (m := 4095) (n := 4095) (a := x - a.x) (b := ln.y) (by omega) h2
 omega
set_option maxRecDepth 100000 in
set_option maxHeartbeats 8000000 in
theorem filled_any (d b : Int) (w : World) (h1 : -100000000 <= d /\ d <= 100000000) (h2 : 0 <= b /\ b <= 100000000) : Yl 55 #[.int .i64 d, .int .i64 b] w (.int .i64 (fil7 d b)) := by
 have h3 := bw7_in (n := d) h2.1
 have h4 := mul_small (m := 100000000) (n := 300000000) (a := bw7 d 0 b) (b := 2 * d - bw7 d 0 b) (by omega) (by omega)
 have HC : Hid (∀ W, Yl 50 #[.int .i64 d, .int .i64 0, .int .i64 b] W (.int .i64 (bw7 d 0 b))) := Lib.hid (fun W => betw_any d 0 b W)
 have HF : Hid (fil7 d b = bw7 d 0 b * (2 * d - bw7 d 0 b)) := Lib.hid rfl
 obtain ⟨i, hi⟩ : ∃ i, i = bw7 d 0 b := ⟨_, rfl⟩
 rw [<- hi] at HC HF h3 h4
 obtain ⟨m, hm⟩ : ∃ m, m = 2 * d - i := ⟨_, rfl⟩
 rw [<- hm] at HF h4
 have e1 : IntKind.i64.wrap (2 * d) = 2 * d := IntWalk.i64_in _ (by omega)
 have e2 : IntKind.i64.wrap (2 * d - i) = m := by rw [hm]; exact IntWalk.i64_in _ (by omega)
 obtain ⟨f, hf⟩ : ∃ f, f = i * m := ⟨_, rfl⟩
 have e3 : IntKind.i64.wrap (i * m) = f := by rw [hf]; exact IntWalk.i64_in _ (by omega)
 rw [<- hf] at HF
 clear hi hm hf h3 h4 h1 h2
 go_enter Tryz.func55, Tryz.ntmps55
 go_wp2_with fail
 refine (HC.out _).mono ?_
 rintro e v0 ⟨rfl, hb⟩
 go_wp2_with fail
 go_ret
 exact ⟨by rw [HF.out]; rfl, hb⟩
def AbC (W : World) (p q s : Nat) (a : P7) (r : R7) (ln : P7) : Prop :=
 (W.cell? ⟨p, 0, none⟩ = some (.int .i64 a.x) /\ W.cell? ⟨p, 1, none⟩ = some (.int .i64 a.y)) /\ W.cell? ⟨q, 1, none⟩ = some (.int .i64 r.y) /\ W.cell? ⟨s, 0, none⟩ = some (.int .i64 ln.x) /\ W.cell? ⟨s, 1, none⟩ = some (.int .i64 ln.y)
set_option maxRecDepth 100000 in
set_option maxHeartbeats 8000000 in
theorem depth_any (p q s : Nat) (a : P7) (r : R7) (ln : P7) (x : Int) (w : World) (hc : AbC w p q s a r ln) (ha : a.ok) (hr : r.ok) (h1 : -4095 <= ln.x /\ ln.x <= 4095) (h2 : -4095 <= ln.y /\ ln.y <= 4095) (hx : 0 <= x /\ x <= 4095) :
   Yl 54 #[.int .i64 x, .pointer (some ⟨p, 0, none⟩), .pointer (some ⟨q, 0, none⟩), .pointer (some ⟨s, 0, none⟩)] w (.int .i64 (dep7 a r ln x)) := by
 obtain ⟨⟨c0, c1⟩, c2, c3, c4⟩ := hc
 have hs := dep7_small ha hr h1 h2 hx
 unfold P7.ok at ha; unfold R7.ok at hr
 have HD : Hid (dep7 a r ln x = (a.y - r.y) * ln.x + (x - a.x) * ln.y) := Lib.hid rfl
 obtain ⟨d1, hd1⟩ : ∃ d, d = a.y - r.y := ⟨_, rfl⟩
 obtain ⟨d2, hd2⟩ : ∃ d, d = x - a.x := ⟨_, rfl⟩
 rw [<- hd1, <- hd2] at hs HD
 obtain ⟨m1, hm1⟩ : ∃ m, m = d1 * ln.x := ⟨_, rfl⟩
 obtain ⟨m2, hm2⟩ : ∃ m, m = d2 * ln.y := ⟨_, rfl⟩
 rw [<- hm1, <- hm2] at hs HD
 have e1 : IntKind.i64.wrap (a.y - r.y) = d1 := by rw [hd1]; exact IntWalk.i64_in _ (by omega)
 have e2 : IntKind.i64.wrap (x - a.x) = d2 := by rw [hd2]; exact IntWalk.i64_in _ (by omega)
 have e3 : IntKind.i64.wrap (d1 * ln.x) = m1 := by rw [hm1]; exact IntWalk.i64_in _ (by omega)
 have e4 : IntKind.i64.wrap (d2 * ln.y) = m2 := by rw [hm2]; exact IntWalk.i64_in _ (by omega)
 have e5 : IntKind.i64.wrap (m1 + m2) = m1 + m2 := IntWalk.i64_in _ (by omega)
 clear hd1 hd2 hm1 hm2 hs ha hr h1 h2 hx
 go_enter Tryz.func54, Tryz.ntmps54
 go_wp2_with fail
 go_ret
 exact ⟨by rw [HD.out]; rfl, Below.refl _ _⟩
set_option maxRecDepth 100000 in
set_option maxHeartbeats 16000000 in
theorem above_any (a b : P7) (r : R7) (w : World) (ha : a.ok) (hb0 : b.ok) (hr : r.ok) (hab : a.x <= b.x) : Yl 41 #[p7v a, p7v b, r7v r] w (.tuple #[.int .i64 (abv7 a b r).1, .int .i64 (abv7 a b r).2]) := by
 have HFR := Lib.hid (fun W => pfr_any a b W ha.sm hb0.sm)
 have HQ : Hid (abv7 a b r = if min b.x (r.x + r.w) <= max a.x r.x then (0, 1) else if b.y - a.y = 0 then (bw7 (dep7 a r (fr7 a b) (max a.x r.x)) 0 (r.h * (b.x - a.x)) * (min b.x (r.x + r.w) - max a.x r.x), b.x - a.x) else (fil7 (dep7 a r (fr7 a b) (min b.x (r.x + r.w))) (r.h * (b.x - a.x)) - fil7 (dep7 a r (fr7 a b) (max a.x r.x)) (r.h * (b.x - a.x)), 2 * (b.x - a.x) * (b.y - a.y))) := Lib.hid rfl
 have ha2 := ha; have hb2 := hb0; have hr2 := hr
 unfold P7.ok at ha2 hb2; unfold R7.ok at hr2
 obtain ⟨ln, hln⟩ : ∃ ln, ln = fr7 a b := ⟨_, rfl⟩
 have hlx : ln.x = b.x - a.x := by rw [hln]; rfl
 have hly : ln.y = b.y - a.y := by rw [hln]; rfl
 rw [<- hln] at HFR
 rw [<- hln, <- hlx, <- hly] at HQ
 have b1 : -4095 <= ln.x /\ ln.x <= 4095 := by omega
 have b2 : -4095 <= ln.y /\ ln.y <= 4095 := by omega
 obtain ⟨rx, hrx⟩ : ∃ x, x = r.x + r.w := ⟨_, rfl⟩
 have e0 : IntKind.i64.wrap (r.x + r.w) = rx := by rw [hrx]; exact IntWalk.i64_in _ (by omega)
 obtain ⟨fi, hfi⟩ : ∃ x, x = max a.x r.x := ⟨_, rfl⟩
 obtain ⟨la, hla⟩ : ∃ x, x = min b.x (r.x + r.w) := ⟨_, rfl⟩
 rw [<- hfi, <- hla] at HQ
 have m1 : (if a.x < r.x then r.x else a.x) = fi := by rw [hfi]; split <;> omega
 have m2 : (if rx < b.x then rx else b.x) = la := by rw [hla, hrx]; split <;> omega
 obtain ⟨bo, hbo⟩ : ∃ x, x = r.h * ln.x := ⟨_, rfl⟩
 rw [<- hbo] at HQ
 have b3 : 0 <= bo /\ bo <= 20000000 := by
   have h1 := mul_small (m := 4095) (n := 4095) (a := r.h) (b := ln.x) (by omega) b1
   have h2 := Int.mul_nonneg (show 0 <= r.h by omega) (show 0 <= ln.x by omega)
   omega
 have e1 : IntKind.i64.wrap (r.h * ln.x) = bo := by rw [hbo]; exact IntWalk.i64_in _ (by omega)
 have HDF : Hid (∀ W p q s, AbC W p q s a r ln -> Yl 54 #[.int .i64 fi, .pointer (some ⟨p, 0, none⟩), .pointer (some ⟨q, 0, none⟩), .pointer (some ⟨s, 0, none⟩)] W (.int .i64 (dep7 a r ln fi))) := Lib.hid (fun W p q s h => depth_any p q s a r ln fi W h ha hr b1 b2 (by omega))
 have HDL : Hid (fi < la -> ∀ W p q s, AbC W p q s a r ln -> Yl 54 #[.int .i64 la, .pointer (some ⟨p, 0, none⟩), .pointer (some ⟨q, 0, none⟩), .pointer (some ⟨s, 0, none⟩)] W (.int .i64 (dep7 a r ln la))) := Lib.hid (fun h W p q s h2 => depth_any p q s a r ln la W h2 ha hr b1 b2 (by omega))
 have s1 := dep7_small (x := fi) ha hr b1 b2 (by omega)
 have HS2 : Hid (fi < la -> -100000000 <= dep7 a r ln la /\ dep7 a r ln la <= 100000000) := Lib.hid (fun h => by have := dep7_small (x := la) ha hr b1 b2 (by omega); unfold dep7; omega)
 have s1' : -100000000 <= dep7 a r ln fi /\ dep7 a r ln fi <= 100000000 := by unfold dep7; omega
 obtain ⟨df, hdf⟩ : ∃ x, x = dep7 a r ln fi := ⟨_, rfl⟩
 obtain ⟨dl, hdl⟩ : ∃ x, x = dep7 a r ln la := ⟨_, rfl⟩
 rw [<- hdf] at HQ HDF s1'; rw [<- hdl] at HQ HDL HS2
 have hbd : fi <= 4095 /\ 0 <= fi /\ la <= 4095 /\ (fi < la -> 0 < ln.x) := by omega
 have HBD := Lib.hid hbd; have HB3 := Lib.hid b3; have HS1 := Lib.hid s1'; have HB1 := Lib.hid b1; have HB2 := Lib.hid b2
 clear ha2 hb2 hr2 hln hlx hly hrx hfi hla hbo hdf hdl s1 s1' b1 b2 b3 ha hb0 hr hab hbd
 have S_0 : Hid (Blk (((w.alloc (.cells #[.int .i64 a.x, .int .i64 a.y] 31)).alloc (.cells #[.int .i64 b.x, .int .i64 b.y] 31)).alloc (.cells #[.int .i64 r.x, .int .i64 r.y, .int .i64 r.w, .int .i64 r.h] 39)) w.heap.size 31 #[.int .i64 a.x, .int .i64 a.y]) := allocs_blk [(#[.int .i64 a.x, .int .i64 a.y], 31), (#[.int .i64 b.x, .int .i64 b.y], 31), (#[.int .i64 r.x, .int .i64 r.y, .int .i64 r.w, .int .i64 r.h], 39)] w 0 _ rfl
 have T_0 : Hid (Blk (((w.alloc (.cells #[.int .i64 a.x, .int .i64 a.y] 31)).alloc (.cells #[.int .i64 b.x, .int .i64 b.y] 31)).alloc (.cells #[.int .i64 r.x, .int .i64 r.y, .int .i64 r.w, .int .i64 r.h] 39)) (w.heap.size + 1) 31 #[.int .i64 b.x, .int .i64 b.y]) := allocs_blk [(#[.int .i64 a.x, .int .i64 a.y], 31), (#[.int .i64 b.x, .int .i64 b.y], 31), (#[.int .i64 r.x, .int .i64 r.y, .int .i64 r.w, .int .i64 r.h], 39)] w 1 _ rfl
 have U_0 : Hid (Blk (((w.alloc (.cells #[.int .i64 a.x, .int .i64 a.y] 31)).alloc (.cells #[.int .i64 b.x, .int .i64 b.y] 31)).alloc (.cells #[.int .i64 r.x, .int .i64 r.y, .int .i64 r.w, .int .i64 r.h] 39)) (w.heap.size + 2) 39 #[.int .i64 r.x, .int .i64 r.y, .int .i64 r.w, .int .i64 r.h]) := allocs_blk [(#[.int .i64 a.x, .int .i64 a.y], 31), (#[.int .i64 b.x, .int .i64 b.y], 31), (#[.int .i64 r.x, .int .i64 r.y, .int .i64 r.w, .int .i64 r.h], 39)] w 2 _ rfl
 have HB_0 : Hid (Below w.heap.size w (((w.alloc (.cells #[.int .i64 a.x, .int .i64 a.y] 31)).alloc (.cells #[.int .i64 b.x, .int .i64 b.y] 31)).alloc (.cells #[.int .i64 r.x, .int .i64 r.y, .int .i64 r.w, .int .i64 r.h] 39))) := allocs_below [(#[.int .i64 a.x, .int .i64 a.y], 31), (#[.int .i64 b.x, .int .i64 b.y], 31), (#[.int .i64 r.x, .int .i64 r.y, .int .i64 r.w, .int .i64 r.h], 39)] w (Below.refl w.heap.size w) (Nat.le_refl _)
 go_enter Tryz.func41, Tryz.ntmps41
 have yy0 := S_0.out.cell (i := 0) (v := .int .i64 a.x) rfl; have yy1 := S_0.out.cell (i := 1) (v := .int .i64 a.y) rfl
 have yy2 := T_0.out.cell (i := 0) (v := .int .i64 b.x) rfl; have yy3 := T_0.out.cell (i := 1) (v := .int .i64 b.y) rfl
 go_wp2_with fail
 refine (HFR.out _).mono ?_
 rintro e v0 ⟨rfl, hb⟩
 clear yy0 yy1 yy2 yy3
 have S_1 : Hid (Blk (v0.alloc (.cells #[.int .i64 ln.x, .int .i64 ln.y] 31)) w.heap.size 31 #[.int .i64 a.x, .int .i64 a.y]) := Lib.hid (allocs_keep [(#[.int .i64 ln.x, .int .i64 ln.y], 31)] _ (S_0.out.below hb S_0.out.lt))
 have T_1 : Hid (Blk (v0.alloc (.cells #[.int .i64 ln.x, .int .i64 ln.y] 31)) (w.heap.size + 1) 31 #[.int .i64 b.x, .int .i64 b.y]) := Lib.hid (allocs_keep [(#[.int .i64 ln.x, .int .i64 ln.y], 31)] _ (T_0.out.below hb T_0.out.lt))
 have U_1 : Hid (Blk (v0.alloc (.cells #[.int .i64 ln.x, .int .i64 ln.y] 31)) (w.heap.size + 2) 39 #[.int .i64 r.x, .int .i64 r.y, .int .i64 r.w, .int .i64 r.h]) := Lib.hid (allocs_keep [(#[.int .i64 ln.x, .int .i64 ln.y], 31)] _ (U_0.out.below hb U_0.out.lt))
 have HB_1 : Hid (Below w.heap.size w (v0.alloc (.cells #[.int .i64 ln.x, .int .i64 ln.y] 31))) := Lib.hid (allocs_below [(#[.int .i64 ln.x, .int .i64 ln.y], 31)] _ (HB_0.out.trans (hb.mono HB_0.out.size)) (HB_0.out.trans (hb.mono HB_0.out.size)).size)
 have L_1 : Hid (Blk (v0.alloc (.cells #[.int .i64 ln.x, .int .i64 ln.y] 31)) v0.heap.size 31 #[.int .i64 ln.x, .int .i64 ln.y]) := Lib.hid (allocs_blk [(#[.int .i64 ln.x, .int .i64 ln.y], 31)] v0 0 _ rfl)
 clear hb S_0 T_0 U_0 HB_0
 have yy0 := S_1.out.cell (i := 0) (v := .int .i64 a.x) rfl; have yy1 := S_1.out.cell (i := 1) (v := .int .i64 a.y) rfl
 have yy2 := T_1.out.cell (i := 0) (v := .int .i64 b.x) rfl; have yy3 := T_1.out.cell (i := 1) (v := .int .i64 b.y) rfl
 have yy4 := U_1.out.cell (i := 0) (v := .int .i64 r.x) rfl; have yy5 := U_1.out.cell (i := 1) (v := .int .i64 r.y) rfl; have yy6 := U_1.out.cell (i := 2) (v := .int .i64 r.w) rfl; have yy7 := U_1.out.cell (i := 3) (v := .int .i64 r.h) rfl
 have yy8 := L_1.out.cell (i := 0) (v := .int .i64 ln.x) rfl; have yy9 := L_1.out.cell (i := 1) (v := .int .i64 ln.y) rfl
 go_wp2_with fail
 clear yy0 yy1 yy2 yy3 yy4 yy5 yy6 yy7 yy8 yy9
 by_cases h1 : la <= fi
 case pos =>
   refine wp_region_grow (S := (fun w' => w'.cell? ⟨w.heap.size, 0, none⟩ = some (.int .i64 a.x) /\ w'.cell? ⟨w.heap.size, 1, none⟩ = some (.int .i64 a.y) /\ w'.cell? ⟨(w.heap.size + 1), 0, none⟩ = some (.int .i64 b.x) /\ w'.cell? ⟨(w.heap.size + 1), 1, none⟩ = some (.int .i64 b.y) /\ w'.cell? ⟨(w.heap.size + 2), 0, none⟩ = some (.int .i64 r.x) /\ w'.cell? ⟨(w.heap.size + 2), 1, none⟩ = some (.int .i64 r.y) /\ w'.cell? ⟨(w.heap.size + 2), 2, none⟩ = some (.int .i64 r.w) /\ w'.cell? ⟨(w.heap.size + 2), 3, none⟩ = some (.int .i64 r.h))) ((fun w' => Below (v0.alloc (.cells #[.int .i64 ln.x, .int .i64 ln.y] 31)).heap.size (v0.alloc (.cells #[.int .i64 ln.x, .int .i64 ln.y] 31)) w')) (by kernel_rfl) (⟨fun w2 h2 => ⟨(S_1.out.below h2 S_1.out.lt).cell (i := 0) (v := .int .i64 a.x) rfl, (S_1.out.below h2 S_1.out.lt).cell (i := 1) (v := .int .i64 a.y) rfl, (T_1.out.below h2 T_1.out.lt).cell (i := 0) (v := .int .i64 b.x) rfl, (T_1.out.below h2 T_1.out.lt).cell (i := 1) (v := .int .i64 b.y) rfl, (U_1.out.below h2 U_1.out.lt).cell (i := 0) (v := .int .i64 r.x) rfl, (U_1.out.below h2 U_1.out.lt).cell (i := 1) (v := .int .i64 r.y) rfl, (U_1.out.below h2 U_1.out.lt).cell (i := 2) (v := .int .i64 r.w) rfl, (U_1.out.below h2 U_1.out.lt).cell (i := 3) (v := .int .i64 r.h) rfl⟩, fun w2 w3 h2 hb2 => h2.trans (hb2.mono h2.size)⟩) ((Below.refl (v0.alloc (.cells #[.int .i64 ln.x, .int .i64 ln.y] 31)).heap.size (v0.alloc (.cells #[.int .i64 ln.x, .int .i64 ln.y] 31))).drew) (fun hCalm => ?_)
   refine grow_take 0 (some 16) ?_ rfl rfl (by kernel_rfl) (fun _ _ _ h => h) (by kernel_rfl) hCalm ?_ ?_
   rotate_left
   · intro wS hS; (try dsimp only at hS); go_simp <;> with_reducible rfl
   try simp only [Act.put, q8a, q8b, q8c]
   refine grow_take 1 (some 17) ?_ rfl rfl (by kernel_rfl) (fun _ _ _ h => h) (by kernel_rfl) hCalm ?_ ?_
   rotate_left
   · intro wS hS; (try dsimp only at hS); go_simp <;> with_reducible rfl
   try simp only [Act.put, q8a, q8b, q8c]
   refine grow_take 2 (some 18) ?_ rfl rfl (by kernel_rfl) (fun _ _ _ h => h) (by kernel_rfl) hCalm ?_ ?_
   rotate_left
   · intro wS hS; (try dsimp only at hS); go_simp <;> with_reducible rfl
   try simp only [Act.put, q8a, q8b, q8c]
   refine grow_take 3 (some 19) ?_ rfl rfl (by kernel_rfl) (fun _ _ _ h => h) (by kernel_rfl) hCalm ?_ ?_
   rotate_left
   · intro wS hS; (try dsimp only at hS); go_simp <;> with_reducible rfl
   try simp only [Act.put, q8a, q8b, q8c]
   refine grow_take 4 (some 20) ?_ rfl rfl (by kernel_rfl) (fun _ _ _ h => h) (by kernel_rfl) hCalm ?_ ?_
   rotate_left
   · intro wS hS; (try dsimp only at hS); go_simp <;> with_reducible rfl
   try simp only [Act.put, q8a, q8b, q8c]
   refine grow_take 5 (some 21) ?_ rfl rfl (by kernel_rfl) (fun _ _ _ h => h) (by kernel_rfl) hCalm ?_ ?_
   rotate_left
   · intro wS hS; (try dsimp only at hS); go_simp <;> with_reducible rfl
   try simp only [Act.put, q8a, q8b, q8c]
   refine grow_take 6 (some 22) ?_ rfl rfl (by kernel_rfl) (fun _ _ _ h => h) (by kernel_rfl) hCalm ?_ ?_
   rotate_left
   · intro wS hS; (try dsimp only at hS); go_simp <;> with_reducible rfl
   try simp only [Act.put, q8a, q8b, q8c]
   refine grow_take 7 (some 23) ?_ rfl rfl (by kernel_rfl) (fun _ _ _ h => h) (by kernel_rfl) hCalm ?_ ?_
   rotate_left
   · intro wS hS; (try dsimp only at hS); go_simp <;> with_reducible rfl
   try simp only [Act.put, q8a, q8b, q8c]
   refine grow_take 8 (some 24) ?_ rfl rfl (by kernel_rfl) (fun _ _ _ h => h) (by kernel_rfl) hCalm ?_ ?_
   rotate_left
   · intro wS hS; (try dsimp only at hS); go_simp <;> with_reducible rfl
   try simp only [Act.put, q8a, q8b, q8c]
   refine grow_take 9 (some 25) ?_ rfl rfl (by kernel_rfl) (fun _ _ _ h => h) (by kernel_rfl) hCalm ?_ ?_
   rotate_left
   · intro wS hS; (try dsimp only at hS); go_simp <;> with_reducible rfl
   try simp only [Act.put, q8a, q8b, q8c]
   refine grow_take 10 (some 26) ?_ rfl rfl (by kernel_rfl) (fun _ _ _ h => h) (by kernel_rfl) hCalm ?_ ?_
   rotate_left
   · intro wS hS; (try dsimp only at hS); go_simp <;> with_reducible rfl
   try simp only [Act.put, q8a, q8b, q8c]
   refine grow_take 11 (some 27) ?_ rfl rfl (by kernel_rfl) (fun _ _ _ h => h) (by kernel_rfl) hCalm ?_ ?_
   rotate_left
   · intro wS hS; (try dsimp only at hS); go_simp <;> with_reducible rfl
   try simp only [Act.put, q8a, q8b, q8c]
   refine grow_take 12 (some 28) ?_ rfl rfl (by kernel_rfl) (fun _ _ _ h => h) (by kernel_rfl) hCalm ?_ ?_
   rotate_left
   · intro wS hS; (try dsimp only at hS); go_simp <;> with_reducible rfl
   try simp only [Act.put, q8a, q8b, q8c]
   refine grow_take 13 (some 9) ?_ rfl rfl (by kernel_rfl) (fun _ _ _ h => h) (by kernel_rfl) hCalm ?_ ?_
   rotate_left
   · intro wS hS; (try dsimp only at hS); go_simp <;> with_reducible rfl
   try simp only [Act.put, q8a, q8b, q8c]
   refine grow_take 14 (some 10) ?_ rfl rfl (by kernel_rfl) (fun _ _ _ h => h) (by kernel_rfl) hCalm ?_ ?_
   rotate_left
   · intro wS hS; (try dsimp only at hS); go_simp <;> with_reducible rfl
   try simp only [Act.put, q8a, q8b, q8c]
   refine grow_done (by kernel_rfl) (fun wA hA => ?_) _
   obtain ⟨v1, hv1⟩ : ∃ x, x = wA := ⟨_, rfl⟩
   rw [<- hv1] at hA ⊢
   clear hv1
   have hb := hA; clear hA hCalm
   have S_2 : Hid (Blk v1 w.heap.size 31 #[.int .i64 a.x, .int .i64 a.y]) := Lib.hid (S_1.out.below hb S_1.out.lt)
   have T_2 : Hid (Blk v1 (w.heap.size + 1) 31 #[.int .i64 b.x, .int .i64 b.y]) := Lib.hid (T_1.out.below hb T_1.out.lt)
   have U_2 : Hid (Blk v1 (w.heap.size + 2) 39 #[.int .i64 r.x, .int .i64 r.y, .int .i64 r.w, .int .i64 r.h]) := Lib.hid (U_1.out.below hb U_1.out.lt)
   have L_2 : Hid (Blk v1 v0.heap.size 31 #[.int .i64 ln.x, .int .i64 ln.y]) := Lib.hid (L_1.out.below hb L_1.out.lt)
   have HB_2 : Hid (Below w.heap.size w v1) := Lib.hid (HB_1.out.trans (hb.mono HB_1.out.size))
   clear hb S_1 T_1 U_1 L_1 HB_1
   go_wp2_with fail
   go_ret2
   exact ⟨by rw [HQ.out, if_pos h1]; rfl, HB_2.out⟩
 case neg =>
   have h1b : fi < la := by omega
   have HN1 := Lib.hid h1b; have hlp := HBD.out.2.2.2 h1b
   clear h1
   refine wp_region_grow (S := (fun w' => w'.cell? ⟨w.heap.size, 0, none⟩ = some (.int .i64 a.x) /\ w'.cell? ⟨w.heap.size, 1, none⟩ = some (.int .i64 a.y) /\ w'.cell? ⟨(w.heap.size + 1), 0, none⟩ = some (.int .i64 b.x) /\ w'.cell? ⟨(w.heap.size + 1), 1, none⟩ = some (.int .i64 b.y) /\ w'.cell? ⟨(w.heap.size + 2), 0, none⟩ = some (.int .i64 r.x) /\ w'.cell? ⟨(w.heap.size + 2), 1, none⟩ = some (.int .i64 r.y) /\ w'.cell? ⟨(w.heap.size + 2), 2, none⟩ = some (.int .i64 r.w) /\ w'.cell? ⟨(w.heap.size + 2), 3, none⟩ = some (.int .i64 r.h))) ((fun w' => Below (v0.alloc (.cells #[.int .i64 ln.x, .int .i64 ln.y] 31)).heap.size (v0.alloc (.cells #[.int .i64 ln.x, .int .i64 ln.y] 31)) w')) (by kernel_rfl) (⟨fun w2 h2 => ⟨(S_1.out.below h2 S_1.out.lt).cell (i := 0) (v := .int .i64 a.x) rfl, (S_1.out.below h2 S_1.out.lt).cell (i := 1) (v := .int .i64 a.y) rfl, (T_1.out.below h2 T_1.out.lt).cell (i := 0) (v := .int .i64 b.x) rfl, (T_1.out.below h2 T_1.out.lt).cell (i := 1) (v := .int .i64 b.y) rfl, (U_1.out.below h2 U_1.out.lt).cell (i := 0) (v := .int .i64 r.x) rfl, (U_1.out.below h2 U_1.out.lt).cell (i := 1) (v := .int .i64 r.y) rfl, (U_1.out.below h2 U_1.out.lt).cell (i := 2) (v := .int .i64 r.w) rfl, (U_1.out.below h2 U_1.out.lt).cell (i := 3) (v := .int .i64 r.h) rfl⟩, fun w2 w3 h2 hb2 => h2.trans (hb2.mono h2.size)⟩) ((Below.refl (v0.alloc (.cells #[.int .i64 ln.x, .int .i64 ln.y] 31)).heap.size (v0.alloc (.cells #[.int .i64 ln.x, .int .i64 ln.y] 31))).drew) (fun hCalm => ?_)
   refine grow_take 0 (some 16) ?_ rfl rfl (by kernel_rfl) (fun _ _ _ h => h) (by kernel_rfl) hCalm ?_ ?_
   rotate_left
   · intro wS hS; (try dsimp only at hS); go_simp <;> with_reducible rfl
   try simp only [Act.put, q8a, q8b, q8c]
   refine grow_take 1 (some 17) ?_ rfl rfl (by kernel_rfl) (fun _ _ _ h => h) (by kernel_rfl) hCalm ?_ ?_
   rotate_left
   · intro wS hS; (try dsimp only at hS); go_simp <;> with_reducible rfl
   try simp only [Act.put, q8a, q8b, q8c]
   refine grow_take 2 (some 18) ?_ rfl rfl (by kernel_rfl) (fun _ _ _ h => h) (by kernel_rfl) hCalm ?_ ?_
   rotate_left
   · intro wS hS; (try dsimp only at hS); go_simp <;> with_reducible rfl
   try simp only [Act.put, q8a, q8b, q8c]
   refine grow_take 3 (some 19) ?_ rfl rfl (by kernel_rfl) (fun _ _ _ h => h) (by kernel_rfl) hCalm ?_ ?_
   rotate_left
   · intro wS hS; (try dsimp only at hS); go_simp <;> with_reducible rfl
   try simp only [Act.put, q8a, q8b, q8c]
   refine grow_take 4 (some 20) ?_ rfl rfl (by kernel_rfl) (fun _ _ _ h => h) (by kernel_rfl) hCalm ?_ ?_
   rotate_left
   · intro wS hS; (try dsimp only at hS); go_simp <;> with_reducible rfl
   try simp only [Act.put, q8a, q8b, q8c]
   refine grow_take 5 (some 21) ?_ rfl rfl (by kernel_rfl) (fun _ _ _ h => h) (by kernel_rfl) hCalm ?_ ?_
   rotate_left
   · intro wS hS; (try dsimp only at hS); go_simp <;> with_reducible rfl
   try simp only [Act.put, q8a, q8b, q8c]
   refine grow_take 6 (some 22) ?_ rfl rfl (by kernel_rfl) (fun _ _ _ h => h) (by kernel_rfl) hCalm ?_ ?_
   rotate_left
   · intro wS hS; (try dsimp only at hS); go_simp <;> with_reducible rfl
   try simp only [Act.put, q8a, q8b, q8c]
   refine grow_take 7 (some 23) ?_ rfl rfl (by kernel_rfl) (fun _ _ _ h => h) (by kernel_rfl) hCalm ?_ ?_
   rotate_left
   · intro wS hS; (try dsimp only at hS); go_simp <;> with_reducible rfl
   try simp only [Act.put, q8a, q8b, q8c]
   refine grow_take 8 (some 24) ?_ rfl rfl (by kernel_rfl) (fun _ _ _ h => h) (by kernel_rfl) hCalm ?_ ?_
   rotate_left
   · intro wS hS; (try dsimp only at hS); go_simp <;> with_reducible rfl
   try simp only [Act.put, q8a, q8b, q8c]
   refine grow_take 9 (some 25) ?_ rfl rfl (by kernel_rfl) (fun _ _ _ h => h) (by kernel_rfl) hCalm ?_ ?_
   rotate_left
   · intro wS hS; (try dsimp only at hS); go_simp <;> with_reducible rfl
   try simp only [Act.put, q8a, q8b, q8c]
   refine grow_take 10 (some 26) ?_ rfl rfl (by kernel_rfl) (fun _ _ _ h => h) (by kernel_rfl) hCalm ?_ ?_
   rotate_left
   · intro wS hS; (try dsimp only at hS); go_simp <;> with_reducible rfl
   try simp only [Act.put, q8a, q8b, q8c]
   refine grow_take 11 (some 27) ?_ rfl rfl (by kernel_rfl) (fun _ _ _ h => h) (by kernel_rfl) hCalm ?_ ?_
   rotate_left
   · intro wS hS; (try dsimp only at hS); go_simp <;> with_reducible rfl
   try simp only [Act.put, q8a, q8b, q8c]
   refine grow_take 12 (some 28) ?_ rfl rfl (by kernel_rfl) (fun _ _ _ h => h) (by kernel_rfl) hCalm ?_ ?_
   rotate_left
   · intro wS hS; (try dsimp only at hS); go_simp <;> with_reducible rfl
   try simp only [Act.put, q8a, q8b, q8c]
   refine grow_take 13 (some 9) ?_ rfl rfl (by kernel_rfl) (fun _ _ _ h => h) (by kernel_rfl) hCalm ?_ ?_
   rotate_left
   · intro wS hS; (try dsimp only at hS); go_simp <;> with_reducible rfl
   try simp only [Act.put, q8a, q8b, q8c]
   refine grow_take 14 (some 10) ?_ rfl rfl (by kernel_rfl) (fun _ _ _ h => h) (by kernel_rfl) hCalm ?_ ?_
   rotate_left
   · intro wS hS; (try dsimp only at hS); go_simp <;> with_reducible rfl
   try simp only [Act.put, q8a, q8b, q8c]
   refine grow_done (by kernel_rfl) (fun wA hA => ?_) _
   obtain ⟨v1, hv1⟩ : ∃ x, x = wA := ⟨_, rfl⟩
   rw [<- hv1] at hA ⊢
   clear hv1
   have hb := hA; clear hA hCalm
   have S_2 : Hid (Blk v1 w.heap.size 31 #[.int .i64 a.x, .int .i64 a.y]) := Lib.hid (S_1.out.below hb S_1.out.lt)
   have T_2 : Hid (Blk v1 (w.heap.size + 1) 31 #[.int .i64 b.x, .int .i64 b.y]) := Lib.hid (T_1.out.below hb T_1.out.lt)
   have U_2 : Hid (Blk v1 (w.heap.size + 2) 39 #[.int .i64 r.x, .int .i64 r.y, .int .i64 r.w, .int .i64 r.h]) := Lib.hid (U_1.out.below hb U_1.out.lt)
   have L_2 : Hid (Blk v1 v0.heap.size 31 #[.int .i64 ln.x, .int .i64 ln.y]) := Lib.hid (L_1.out.below hb L_1.out.lt)
   have HB_2 : Hid (Below w.heap.size w v1) := Lib.hid (HB_1.out.trans (hb.mono HB_1.out.size))
   clear hb S_1 T_1 U_1 L_1 HB_1
   by_cases h2 : ln.y = 0
   case pos =>
     have h2b : (ln.y == 0) = true := by simpa using h2
     have h3 := bw7_in (n := df) HB3.out.1
     have h4 := mul_small (m := 20000000) (n := 4095) (a := bw7 df 0 bo) (b := la - fi) (by have := HB3.out; omega) (by have := HBD.out; omega)
     have HCB : Hid (∀ W, Yl 50 #[.int .i64 df, .int .i64 0, .int .i64 bo] W (.int .i64 (bw7 df 0 bo))) := Lib.hid (fun W => betw_any df 0 bo W)
     obtain ⟨x, hx⟩ : ∃ x, x = bw7 df 0 bo := ⟨_, rfl⟩
     rw [<- hx] at HCB HQ h4
     obtain ⟨y, hy⟩ : ∃ y, y = la - fi := ⟨_, rfl⟩
     rw [<- hy] at HQ h4
     have e2 : IntKind.i64.wrap (la - fi) = y := by rw [hy]; exact IntWalk.i64_in _ (by have := HBD.out; omega)
     obtain ⟨z, hz⟩ : ∃ z, z = x * y := ⟨_, rfl⟩
     rw [<- hz] at HQ h4
     have e3 : IntKind.i64.wrap (x * y) = z := by rw [hz]; exact IntWalk.i64_in _ (by omega)
     have HV : Hid (abv7 a b r = (z, ln.x)) := Lib.hid (by rw [HQ.out, if_neg (by omega), if_pos h2])
     clear h2 h3 h4 hx hy hz hlp
     have yy0 := U_2.out.cell (i := 0) (v := .int .i64 r.x) rfl; have yy1 := U_2.out.cell (i := 1) (v := .int .i64 r.y) rfl; have yy2 := U_2.out.cell (i := 2) (v := .int .i64 r.w) rfl; have yy3 := U_2.out.cell (i := 3) (v := .int .i64 r.h) rfl
     have yy4 := L_2.out.cell (i := 0) (v := .int .i64 ln.x) rfl; have yy5 := L_2.out.cell (i := 1) (v := .int .i64 ln.y) rfl
     go_wp2_with fail
     clear yy0 yy1 yy2 yy3 yy4 yy5
     refine wp_region_grow (S := (fun w' => w'.cell? ⟨w.heap.size, 0, none⟩ = some (.int .i64 a.x) /\ w'.cell? ⟨w.heap.size, 1, none⟩ = some (.int .i64 a.y) /\ w'.cell? ⟨(w.heap.size + 2), 0, none⟩ = some (.int .i64 r.x) /\ w'.cell? ⟨(w.heap.size + 2), 1, none⟩ = some (.int .i64 r.y) /\ w'.cell? ⟨(w.heap.size + 2), 2, none⟩ = some (.int .i64 r.w) /\ w'.cell? ⟨(w.heap.size + 2), 3, none⟩ = some (.int .i64 r.h) /\ w'.cell? ⟨v0.heap.size, 0, none⟩ = some (.int .i64 ln.x) /\ w'.cell? ⟨v0.heap.size, 1, none⟩ = some (.int .i64 ln.y))) ((fun w' => Below v1.heap.size v1 w')) (by kernel_rfl) (⟨fun w2 h2 => ⟨(S_2.out.below h2 S_2.out.lt).cell (i := 0) (v := .int .i64 a.x) rfl, (S_2.out.below h2 S_2.out.lt).cell (i := 1) (v := .int .i64 a.y) rfl, (U_2.out.below h2 U_2.out.lt).cell (i := 0) (v := .int .i64 r.x) rfl, (U_2.out.below h2 U_2.out.lt).cell (i := 1) (v := .int .i64 r.y) rfl, (U_2.out.below h2 U_2.out.lt).cell (i := 2) (v := .int .i64 r.w) rfl, (U_2.out.below h2 U_2.out.lt).cell (i := 3) (v := .int .i64 r.h) rfl, (L_2.out.below h2 L_2.out.lt).cell (i := 0) (v := .int .i64 ln.x) rfl, (L_2.out.below h2 L_2.out.lt).cell (i := 1) (v := .int .i64 ln.y) rfl⟩, fun w2 w3 h2 hb2 => h2.trans (hb2.mono h2.size)⟩) ((Below.refl v1.heap.size v1).drew) (fun hCalm => ?_)
     refine grow_take 0 (some 41) ?_ rfl rfl (by kernel_rfl) (fun _ _ _ h => h) (by kernel_rfl) hCalm ?_ ?_
     rotate_left
     · intro wS hS; (try dsimp only at hS); go_simp <;> with_reducible rfl
     try simp only [Act.put, q8a, q8b, q8c]
     refine grow_take 1 (some 42) ?_ rfl rfl (by kernel_rfl) (fun _ _ _ h => h) (by kernel_rfl) hCalm ?_ ?_
     rotate_left
     · intro wS hS; (try dsimp only at hS); go_simp <;> with_reducible rfl
     try simp only [Act.put, q8a, q8b, q8c]
     refine grow_take 3 (some 44) ?_ rfl rfl (by kernel_rfl) (fun _ _ _ h => h) (by kernel_rfl) hCalm ?_ ?_
     rotate_left
     · intro wS hS; (try dsimp only at hS); go_simp <;> with_reducible rfl
     try simp only [Act.put, q8a, q8b, q8c]
     refine grow_take 5 (some 46) ?_ rfl rfl (by kernel_rfl) (fun _ _ _ h => h) (by kernel_rfl) hCalm ?_ ?_
     rotate_left
     · intro wS hS; (try dsimp only at hS); go_simp <;> with_reducible rfl
     try simp only [Act.put, q8a, q8b, q8c]
     refine grow_take 6 (some 47) ?_ rfl rfl (by kernel_rfl) (fun _ _ _ h => h) (by kernel_rfl) hCalm ?_ ?_
     rotate_left
     · intro wS hS; (try dsimp only at hS); go_simp <;> with_reducible rfl
     try simp only [Act.put, q8a, q8b, q8c]
     refine grow_take 7 (some 48) ?_ rfl rfl (by kernel_rfl) (fun _ _ _ h => h) (by kernel_rfl) hCalm ?_ ?_
     rotate_left
     · intro wS hS; (try dsimp only at hS); go_simp <;> with_reducible rfl
     try simp only [Act.put, q8a, q8b, q8c]
     refine grow_take 9 (some 50) ?_ rfl rfl (by kernel_rfl) (fun _ _ _ h => h) (by kernel_rfl) hCalm ?_ ?_
     rotate_left
     · intro wS hS; (try dsimp only at hS); go_simp <;> with_reducible rfl
     try simp only [Act.put, q8a, q8b, q8c]
     refine grow_take 10 (some 51) ?_ rfl rfl (by kernel_rfl) (fun _ _ _ h => h) (by kernel_rfl) hCalm ?_ ?_
     rotate_left
     · intro wS hS; (try dsimp only at hS); go_simp <;> with_reducible rfl
     try simp only [Act.put, q8a, q8b, q8c]
     refine grow_enter 2 (some 43) (.int .i64 df) 54 (#[.int .i64 fi, .pointer (some ⟨w.heap.size, 0, none⟩), .pointer (some ⟨w.heap.size + 2, 0, none⟩), .pointer (some ⟨v0.heap.size, 0, none⟩)]) rfl rfl (by kernel_rfl) (fun _ _ _ h => h) (by kernel_rfl) hCalm (fun wz hS => HDF.out wz _ _ _ ⟨⟨hS.1, hS.2.1⟩, hS.2.2.2.1, hS.2.2.2.2.2.2.1, hS.2.2.2.2.2.2.2⟩) ?_ ?_
     · intro wS hS; (try dsimp only at hS); go_simp
     try simp only [Act.put, q8a, q8b, q8c]
     refine grow_call 4 (some 45) (.int .i64 x) 50 [.tmp 43, .const (Go.Value.int Go.IntKind.i64 0), .tmp 44] #[3, 3, 3] rfl rfl (by kernel_rfl) (fun _ _ _ h => h) (by kernel_rfl) hCalm rfl (enters_of Tryz.func50 (by kernel_rfl) rfl) (fun wz _ => HCB.out wz) (by kernel_rfl) ?_
     try simp only [Act.put, q8a, q8b, q8c]
     refine grow_take 8 (some 49) ?_ rfl rfl (by kernel_rfl) (fun _ _ _ h => h) (by kernel_rfl) hCalm ?_ ?_
     rotate_left
     · intro wS hS; (try dsimp only at hS); go_simp <;> with_reducible rfl
     try simp only [Act.put, q8a, q8b, q8c]
     refine grow_take 11 (some 6) ?_ rfl rfl (by kernel_rfl) (fun _ _ _ h => h) (by kernel_rfl) hCalm ?_ ?_
     rotate_left
     · intro wS hS; (try dsimp only at hS); go_simp <;> with_reducible rfl
     try simp only [Act.put, q8a, q8b, q8c]
     refine grow_take 12 (some 7) ?_ rfl rfl (by kernel_rfl) (fun _ _ _ h => h) (by kernel_rfl) hCalm ?_ ?_
     rotate_left
     · intro wS hS; (try dsimp only at hS); go_simp <;> with_reducible rfl
     try simp only [Act.put, q8a, q8b, q8c]
     refine grow_done (by kernel_rfl) (fun wA hA => ?_) _
     obtain ⟨v2, hv2⟩ : ∃ x, x = wA := ⟨_, rfl⟩
     rw [<- hv2] at hA ⊢
     clear hv2
     have hb := hA; clear hA hCalm
     have S_3 : Hid (Blk v2 w.heap.size 31 #[.int .i64 a.x, .int .i64 a.y]) := Lib.hid (S_2.out.below hb S_2.out.lt)
     have T_3 : Hid (Blk v2 (w.heap.size + 1) 31 #[.int .i64 b.x, .int .i64 b.y]) := Lib.hid (T_2.out.below hb T_2.out.lt)
     have U_3 : Hid (Blk v2 (w.heap.size + 2) 39 #[.int .i64 r.x, .int .i64 r.y, .int .i64 r.w, .int .i64 r.h]) := Lib.hid (U_2.out.below hb U_2.out.lt)
     have L_3 : Hid (Blk v2 v0.heap.size 31 #[.int .i64 ln.x, .int .i64 ln.y]) := Lib.hid (L_2.out.below hb L_2.out.lt)
     have HB_3 : Hid (Below w.heap.size w v2) := Lib.hid (HB_2.out.trans (hb.mono HB_2.out.size))
     clear hb S_2 T_2 U_2 L_2 HB_2
     go_wp2_with fail
     go_ret2
     exact ⟨by rw [HV.out]; rfl, HB_3.out⟩
   case neg =>
     have h2b : (ln.y == 0) = false := by simpa using h2
     have HDL1 := Lib.hid (HDL.out HN1.out)
     have HFL := Lib.hid (fun W => filled_any dl bo W (HS2.out HN1.out) (by have := HB3.out; omega)); have HFF := Lib.hid (fun W => filled_any df bo W HS1.out (by have := HB3.out; omega))
     have f1 := fil7_small (b := bo) (HS2.out HN1.out) (by have := HB3.out; omega); have f2 := fil7_small (b := bo) HS1.out (by have := HB3.out; omega)
     obtain ⟨x, hx⟩ : ∃ x, x = fil7 dl bo := ⟨_, rfl⟩
     obtain ⟨y, hy⟩ : ∃ y, y = fil7 df bo := ⟨_, rfl⟩
     rw [<- hx] at HFL HQ f1; rw [<- hy] at HFF HQ f2
     have e2 : IntKind.i64.wrap (x - y) = x - y := IntWalk.i64_in _ (by omega)
     have f3 := mul_small (m := 10000) (n := 4095) (a := 2 * ln.x) (b := ln.y) (by have := HB1.out; omega) HB2.out
     obtain ⟨z, hz⟩ : ∃ z, z = 2 * ln.x := ⟨_, rfl⟩
     rw [<- hz] at HQ f3
     have e3 : IntKind.i64.wrap (2 * ln.x) = z := by rw [hz]; exact IntWalk.i64_in _ (by have := HB1.out; omega)
     obtain ⟨u, hu⟩ : ∃ u, u = z * ln.y := ⟨_, rfl⟩
     rw [<- hu] at HQ f3
     have e4 : IntKind.i64.wrap (z * ln.y) = u := by rw [hu]; exact IntWalk.i64_in _ (by omega)
     have HV : Hid (abv7 a b r = (x - y, u)) := Lib.hid (by rw [HQ.out, if_neg (by omega), if_neg h2])
     clear h2 hx hy hz hu f1 f2 f3 hlp
     have yy0 := U_2.out.cell (i := 0) (v := .int .i64 r.x) rfl; have yy1 := U_2.out.cell (i := 1) (v := .int .i64 r.y) rfl; have yy2 := U_2.out.cell (i := 2) (v := .int .i64 r.w) rfl; have yy3 := U_2.out.cell (i := 3) (v := .int .i64 r.h) rfl
     have yy4 := L_2.out.cell (i := 0) (v := .int .i64 ln.x) rfl; have yy5 := L_2.out.cell (i := 1) (v := .int .i64 ln.y) rfl
     go_wp2_with fail
     clear yy0 yy1 yy2 yy3 yy4 yy5
     refine wp_region_grow (S := (fun w' => w'.cell? ⟨w.heap.size, 0, none⟩ = some (.int .i64 a.x) /\ w'.cell? ⟨w.heap.size, 1, none⟩ = some (.int .i64 a.y) /\ w'.cell? ⟨(w.heap.size + 2), 0, none⟩ = some (.int .i64 r.x) /\ w'.cell? ⟨(w.heap.size + 2), 1, none⟩ = some (.int .i64 r.y) /\ w'.cell? ⟨(w.heap.size + 2), 2, none⟩ = some (.int .i64 r.w) /\ w'.cell? ⟨(w.heap.size + 2), 3, none⟩ = some (.int .i64 r.h) /\ w'.cell? ⟨v0.heap.size, 0, none⟩ = some (.int .i64 ln.x) /\ w'.cell? ⟨v0.heap.size, 1, none⟩ = some (.int .i64 ln.y))) ((fun w' => Below v1.heap.size v1 w')) (by kernel_rfl) (⟨fun w2 h2 => ⟨(S_2.out.below h2 S_2.out.lt).cell (i := 0) (v := .int .i64 a.x) rfl, (S_2.out.below h2 S_2.out.lt).cell (i := 1) (v := .int .i64 a.y) rfl, (U_2.out.below h2 U_2.out.lt).cell (i := 0) (v := .int .i64 r.x) rfl, (U_2.out.below h2 U_2.out.lt).cell (i := 1) (v := .int .i64 r.y) rfl, (U_2.out.below h2 U_2.out.lt).cell (i := 2) (v := .int .i64 r.w) rfl, (U_2.out.below h2 U_2.out.lt).cell (i := 3) (v := .int .i64 r.h) rfl, (L_2.out.below h2 L_2.out.lt).cell (i := 0) (v := .int .i64 ln.x) rfl, (L_2.out.below h2 L_2.out.lt).cell (i := 1) (v := .int .i64 ln.y) rfl⟩, fun w2 w3 h2 hb2 => h2.trans (hb2.mono h2.size)⟩) ((Below.refl v1.heap.size v1).drew) (fun hCalm => ?_)
     refine grow_take 0 (some 52) ?_ rfl rfl (by kernel_rfl) (fun _ _ _ h => h) (by kernel_rfl) hCalm ?_ ?_
     rotate_left
     · intro wS hS; (try dsimp only at hS); go_simp <;> with_reducible rfl
     try simp only [Act.put, q8a, q8b, q8c]
     refine grow_take 1 (some 53) ?_ rfl rfl (by kernel_rfl) (fun _ _ _ h => h) (by kernel_rfl) hCalm ?_ ?_
     rotate_left
     · intro wS hS; (try dsimp only at hS); go_simp <;> with_reducible rfl
     try simp only [Act.put, q8a, q8b, q8c]
     refine grow_take 3 (some 55) ?_ rfl rfl (by kernel_rfl) (fun _ _ _ h => h) (by kernel_rfl) hCalm ?_ ?_
     rotate_left
     · intro wS hS; (try dsimp only at hS); go_simp <;> with_reducible rfl
     try simp only [Act.put, q8a, q8b, q8c]
     refine grow_take 5 (some 57) ?_ rfl rfl (by kernel_rfl) (fun _ _ _ h => h) (by kernel_rfl) hCalm ?_ ?_
     rotate_left
     · intro wS hS; (try dsimp only at hS); go_simp <;> with_reducible rfl
     try simp only [Act.put, q8a, q8b, q8c]
     refine grow_take 6 (some 58) ?_ rfl rfl (by kernel_rfl) (fun _ _ _ h => h) (by kernel_rfl) hCalm ?_ ?_
     rotate_left
     · intro wS hS; (try dsimp only at hS); go_simp <;> with_reducible rfl
     try simp only [Act.put, q8a, q8b, q8c]
     refine grow_take 8 (some 60) ?_ rfl rfl (by kernel_rfl) (fun _ _ _ h => h) (by kernel_rfl) hCalm ?_ ?_
     rotate_left
     · intro wS hS; (try dsimp only at hS); go_simp <;> with_reducible rfl
     try simp only [Act.put, q8a, q8b, q8c]
     refine grow_take 11 (some 63) ?_ rfl rfl (by kernel_rfl) (fun _ _ _ h => h) (by kernel_rfl) hCalm ?_ ?_
     rotate_left
     · intro wS hS; (try dsimp only at hS); go_simp <;> with_reducible rfl
     try simp only [Act.put, q8a, q8b, q8c]
     refine grow_take 12 (some 64) ?_ rfl rfl (by kernel_rfl) (fun _ _ _ h => h) (by kernel_rfl) hCalm ?_ ?_
     rotate_left
     · intro wS hS; (try dsimp only at hS); go_simp <;> with_reducible rfl
     try simp only [Act.put, q8a, q8b, q8c]
     refine grow_take 13 (some 65) ?_ rfl rfl (by kernel_rfl) (fun _ _ _ h => h) (by kernel_rfl) hCalm ?_ ?_
     rotate_left
     · intro wS hS; (try dsimp only at hS); go_simp <;> with_reducible rfl
     try simp only [Act.put, q8a, q8b, q8c]
     refine grow_take 14 (some 66) ?_ rfl rfl (by kernel_rfl) (fun _ _ _ h => h) (by kernel_rfl) hCalm ?_ ?_
     rotate_left
     · intro wS hS; (try dsimp only at hS); go_simp <;> with_reducible rfl
     try simp only [Act.put, q8a, q8b, q8c]
     refine grow_take 15 (some 67) ?_ rfl rfl (by kernel_rfl) (fun _ _ _ h => h) (by kernel_rfl) hCalm ?_ ?_
     rotate_left
     · intro wS hS; (try dsimp only at hS); go_simp <;> with_reducible rfl
     try simp only [Act.put, q8a, q8b, q8c]
     refine grow_take 16 (some 68) ?_ rfl rfl (by kernel_rfl) (fun _ _ _ h => h) (by kernel_rfl) hCalm ?_ ?_
     rotate_left
     · intro wS hS; (try dsimp only at hS); go_simp <;> with_reducible rfl
     try simp only [Act.put, q8a, q8b, q8c]
     refine grow_enter 2 (some 54) (.int .i64 dl) 54 (#[.int .i64 la, .pointer (some ⟨w.heap.size, 0, none⟩), .pointer (some ⟨w.heap.size + 2, 0, none⟩), .pointer (some ⟨v0.heap.size, 0, none⟩)]) rfl rfl (by kernel_rfl) (fun _ _ _ h => h) (by kernel_rfl) hCalm (fun wz hS => HDL1.out wz _ _ _ ⟨⟨hS.1, hS.2.1⟩, hS.2.2.2.1, hS.2.2.2.2.2.2.1, hS.2.2.2.2.2.2.2⟩) ?_ ?_
     · intro wS hS; (try dsimp only at hS); go_simp
     try simp only [Act.put, q8a, q8b, q8c]
     refine grow_call 4 (some 56) (.int .i64 x) 55 [.tmp 54, .tmp 55] #[3, 3] rfl rfl (by kernel_rfl) (fun _ _ _ h => h) (by kernel_rfl) hCalm rfl (enters_of Tryz.func55 (by kernel_rfl) rfl) (fun wz _ => HFL.out wz) (by kernel_rfl) ?_
     try simp only [Act.put, q8a, q8b, q8c]
     refine grow_enter 7 (some 59) (.int .i64 df) 54 (#[.int .i64 fi, .pointer (some ⟨w.heap.size, 0, none⟩), .pointer (some ⟨w.heap.size + 2, 0, none⟩), .pointer (some ⟨v0.heap.size, 0, none⟩)]) rfl rfl (by kernel_rfl) (fun _ _ _ h => h) (by kernel_rfl) hCalm (fun wz hS => HDF.out wz _ _ _ ⟨⟨hS.1, hS.2.1⟩, hS.2.2.2.1, hS.2.2.2.2.2.2.1, hS.2.2.2.2.2.2.2⟩) ?_ ?_
     · intro wS hS; (try dsimp only at hS); go_simp
     try simp only [Act.put, q8a, q8b, q8c]
     refine grow_call 9 (some 61) (.int .i64 y) 55 [.tmp 59, .tmp 60] #[3, 3] rfl rfl (by kernel_rfl) (fun _ _ _ h => h) (by kernel_rfl) hCalm rfl (enters_of Tryz.func55 (by kernel_rfl) rfl) (fun wz _ => HFF.out wz) (by kernel_rfl) ?_
     try simp only [Act.put, q8a, q8b, q8c]
     refine grow_take 10 (some 62) ?_ rfl rfl (by kernel_rfl) (fun _ _ _ h => h) (by kernel_rfl) hCalm ?_ ?_
     rotate_left
     · intro wS hS; (try dsimp only at hS); go_simp <;> with_reducible rfl
     try simp only [Act.put, q8a, q8b, q8c]
     refine grow_take 17 (some 6) ?_ rfl rfl (by kernel_rfl) (fun _ _ _ h => h) (by kernel_rfl) hCalm ?_ ?_
     rotate_left
     · intro wS hS; (try dsimp only at hS); go_simp <;> with_reducible rfl
     try simp only [Act.put, q8a, q8b, q8c]
     refine grow_take 18 (some 7) ?_ rfl rfl (by kernel_rfl) (fun _ _ _ h => h) (by kernel_rfl) hCalm ?_ ?_
     rotate_left
     · intro wS hS; (try dsimp only at hS); go_simp <;> with_reducible rfl
     try simp only [Act.put, q8a, q8b, q8c]
     refine grow_done (by kernel_rfl) (fun wA hA => ?_) _
     obtain ⟨v2, hv2⟩ : ∃ x, x = wA := ⟨_, rfl⟩
     rw [<- hv2] at hA ⊢
     clear hv2
     have hb := hA; clear hA hCalm
     have S_3 : Hid (Blk v2 w.heap.size 31 #[.int .i64 a.x, .int .i64 a.y]) := Lib.hid (S_2.out.below hb S_2.out.lt)
     have T_3 : Hid (Blk v2 (w.heap.size + 1) 31 #[.int .i64 b.x, .int .i64 b.y]) := Lib.hid (T_2.out.below hb T_2.out.lt)
     have U_3 : Hid (Blk v2 (w.heap.size + 2) 39 #[.int .i64 r.x, .int .i64 r.y, .int .i64 r.w, .int .i64 r.h]) := Lib.hid (U_2.out.below hb U_2.out.lt)
     have L_3 : Hid (Blk v2 v0.heap.size 31 #[.int .i64 ln.x, .int .i64 ln.y]) := Lib.hid (L_2.out.below hb L_2.out.lt)
     have HB_3 : Hid (Below w.heap.size w v2) := Lib.hid (HB_2.out.trans (hb.mono HB_2.out.size))
     clear hb S_2 T_2 U_2 L_2 HB_2
     go_wp2_with fail
     go_ret2
     exact ⟨by rw [HV.out]; rfl, HB_3.out⟩
def Fq (q : Option (Int × Int)) : Prop := ∀ p, q = some p -> Low p.1 p.2 /\ p.1.natAbs < 10 ^ 200 /\ p.2.natAbs < 10 ^ 200
theorem fq_rd {q : Option (Int × Int)} (h : Fq q) : rdQ (qN q).data.toList (qD q).data.toList = q := by
 cases q with
 | none => show rdQ [] [] = none; unfold rdQ; rw [rd_nil]
 | some p =>
   obtain ⟨h1, h2, h3⟩ := h p rfl
   unfold rdQ qN qD
   simp only
   rw [zS_rd h2, zS_rd h3]
   simp only
   rw [if_pos h1]
theorem fq_size {q : Option (Int × Int)} (h : Fq q) : (qN q).size <= 9000000000000000000 /\ (qD q).size <= 9000000000000000000 := by
 cases q with
 | none => exact ⟨Nat.zero_le _, Nat.zero_le _⟩
 | some p => obtain ⟨_, h2, h3⟩ := h p rfl; exact zs p.1 p.2 h2 h3
theorem fq_red {n d : Int} (hn : n.natAbs < 10 ^ 200) (hd : d.natAbs < 10 ^ 200) (h : d ≠ 0) : Fq (some (red n d)) := fun p e => by
 cases e
 have h1 := red_abs (n := n) h
 exact ⟨red_low h, Nat.lt_of_le_of_lt h1.1 hn, Nat.lt_of_le_of_lt h1.2 hd⟩
theorem pow20 {n : Int} (h : n.natAbs < 10 ^ 20) : n.natAbs < 10 ^ 200 := Nat.lt_of_lt_of_le h (Nat.pow_le_pow_right (by omega) (by omega))
theorem fq_of {n d : Int} (hn : n.natAbs < 10 ^ 20) (hd : d.natAbs < 10 ^ 20) : Fq (ofR n d) := by
 unfold ofR; split
 · intro p e; cases e
 · exact fq_red (pow20 hn) (pow20 hd) (by assumption)
theorem fq_sum (f : Int -> Int -> Int) (p q : Option (Int × Int)) : Fq (sumQ f p q) := by
 intro r e
 unfold sumQ at e
 cases p with
 | none => cases e
 | some p =>
   cases q with
   | none => cases e
   | some q =>
     simp only [Option.bind_some] at e
     unfold mk2 at e
     cases hx : ((lim (p.1 * q.2)).bind fun x => (lim (q.1 * p.2)).bind fun y => lim (f x y)) with
     | none => rw [hx] at e; cases e
     | some n =>
       rw [hx] at e
       cases hy : lim (p.2 * q.2) with
       | none => rw [hy] at e; cases e
       | some d =>
         rw [hy] at e
         simp only [Option.bind_some] at e
         have hn : n.natAbs < 10 ^ 200 := by
           cases h1 : lim (p.1 * q.2) with
           | none => rw [h1] at hx; cases hx
           | some x =>
             rw [h1] at hx
             cases h2 : lim (q.1 * p.2) with
             | none => rw [h2] at hx; cases hx
             | some y => rw [h2] at hx; simp only [Option.bind_some] at hx; exact (lim_abs hx).2
         have hd := (lim_abs hy).2
         split at e
         · cases e
         · exact fq_red hn hd (by assumption) r e
abbrev av7 (q : Option (Int × Int)) (k : Int) : Value := .agg #[.string (qN q), .string (qD q), .int .i64 k]
def pls7 (s : Option (Int × Int) × Int) (n d : Int) : Option (Int × Int) × Int := if n.tmod d = 0 then (s.1, s.2 + n.tdiv d) else (sumQ (· + ·) s.1 (ofR n d), s.2)
theorem fq_pls {s : Option (Int × Int) × Int} (h : Fq s.1) (n d : Int) : Fq (pls7 s n d).1 := by
 unfold pls7; split
 · exact h
 · exact fq_sum _ _ _
theorem ofq_any (n d : Int) (w : World) (h1 : -100000000000000000 <= n /\ n <= 100000000000000000) (h2 : -100000000000000000 <= d /\ d <= 100000000000000000) : Yl 36 #[.int .i64 n, .int .i64 d] w (.tuple #[.agg #[.string (qN (ofR n d)), .string (qD (ofR n d))], .int .i64 (qE (ofR n d))]) := of_any n d w (by omega) (by omega)
theorem ofw_any (n d : Int) (w : World) (h1 : -9000000000000000000 <= n /\ n <= 9000000000000000000) (h2 : -9000000000000000000 <= d /\ d <= 9000000000000000000) : Yl 36 #[.int .i64 n, .int .i64 d] w (.tuple #[.agg #[.string (qN (ofR n d)), .string (qD (ofR n d))], .int .i64 (qE (ofR n d))]) := of_any n d w (by omega) (by omega)
theorem addq_any (p q : Option (Int × Int)) (w : World) (hp : Fq p) (hq : Fq q) : Yl 56 #[.agg #[.string (qN p), .string (qD p)], .agg #[.string (qN q), .string (qD q)]] w (.tuple #[.agg #[.string (qN (sumQ (· + ·) p q)), .string (qD (sumQ (· + ·) p q))], .int .i64 (qE (sumQ (· + ·) p q))]) := by
 have h := fadd_any (qN p) (qD p) (qN q) (qD q) w (fq_size hp) (fq_size hq)
 rw [fq_rd hp, fq_rd hq] at h
 exact h
set_option maxRecDepth 100000 in
set_option maxHeartbeats 8000000 in
theorem nothing_any (w : World) : Yl 38 #[] w (.agg #[.string ⟨#[48]⟩, .string ⟨#[49]⟩, .int .i64 0]) := by
 have hz := Blk.new w 69 #[.string ⟨#[]⟩, .string ⟨#[]⟩, .int .i64 0]
 have z0 := hz.cell (i := 0) (v := .string ⟨#[]⟩) rfl; have z1 := hz.cell (i := 1) (v := .string ⟨#[]⟩) rfl; have z2 := hz.cell (i := 2) (v := .int .i64 0) rfl; have f0 := hz.frozen 0; have f1 := hz.frozen 1; have f2 := hz.frozen 2
 have hn := Blk.new w 69 #[.string ⟨#[48]⟩, .string ⟨#[49]⟩, .int .i64 0]
 have r0 := hn.cell (i := 0) (v := .string ⟨#[48]⟩) rfl; have r1 := hn.cell (i := 1) (v := .string ⟨#[49]⟩) rfl; have r2 := hn.cell (i := 2) (v := .int .i64 0) rfl
 clear hz hn
 go_enter Tryz.func38, Tryz.ntmps38
 go_wp2_with fail
 exact bodyPost_ret (v := .agg #[.string ⟨#[48]⟩, .string ⟨#[49]⟩, .int .i64 0]) (by simp [results, Tryz.results38, go_sem, r0, r1, r2]) rfl ⟨rfl, (Below.refl _ _).alloc (Nat.le_refl _) _⟩
set_option maxRecDepth 100000 in
set_option maxHeartbeats 16000000 in
theorem plus_any (q : Option (Int × Int)) (k n d : Int) (w : World) (hq : Fq q) (hk : -8000000000000000000 <= k /\ k <= 8000000000000000000) (hn : -100000000000000000 <= n /\ n <= 100000000000000000) (hd : (-100000000000000000 <= d /\ d <= 100000000000000000) /\ d ≠ 0) :
   Yl 42 #[av7 q k, .int .i64 n, .int .i64 d] w (av7 (pls7 (q, k) n d).1 (pls7 (q, k) n d).2) := by
 have HOF := Lib.hid (fun W => ofq_any n d W hn hd.1)
 have HAD := Lib.hid (fun W => addq_any q (ofR n d) W hq (fq_of (by omega) (by omega)))
 have HP : Hid (pls7 (q, k) n d = if n.tmod d = 0 then (q, k + n.tdiv d) else (sumQ (· + ·) q (ofR n d), k)) := Lib.hid rfl
 have hd0 : (d == 0) = false := by simpa using hd.2
 have hd1 : ¬ d = 0 := hd.2
 obtain ⟨rm, hrm⟩ : ∃ x, x = n.tmod d := ⟨_, rfl⟩
 have hrb : (n.tmod d).natAbs <= n.natAbs := by rw [Int.natAbs_tmod]; exact Nat.mod_le _ _
 have hqb : (n.tdiv d).natAbs <= n.natAbs := by rw [Int.natAbs_tdiv]; exact Nat.div_le_self _ _
 obtain ⟨qt, hqt⟩ : ∃ x, x = n.tdiv d := ⟨_, rfl⟩
 rw [<- hrm, <- hqt] at HP
 rw [<- hrm] at hrb; rw [<- hqt] at hqb
 have e1 : n.tmod d = rm := hrm.symm
 have e2 : n.tdiv d = qt := hqt.symm
 have e1w : IntKind.i64.wrap rm = rm := IntWalk.i64_in _ (by omega)
 have e2w : IntKind.i64.wrap qt = qt := IntWalk.i64_in _ (by omega)
 obtain ⟨k2, hk2⟩ : ∃ x, x = k + qt := ⟨_, rfl⟩
 have e3 : IntKind.i64.wrap (k + qt) = k2 := by rw [hk2]; exact IntWalk.i64_in _ (by omega)
 rw [<- hk2] at HP
 obtain ⟨r, hr⟩ : ∃ r, r = ofR n d := ⟨_, rfl⟩
 rw [<- hr] at HOF HAD HP
 obtain ⟨s, hs⟩ : ∃ s, s = sumQ (· + ·) q r := ⟨_, rfl⟩
 rw [<- hs] at HAD HP
 obtain ⟨re, hre⟩ : ∃ x, x = qE r := ⟨_, rfl⟩
 obtain ⟨se, hse⟩ : ∃ x, x = qE s := ⟨_, rfl⟩
 rw [<- hre] at HOF; rw [<- hse] at HAD
 obtain ⟨qn, hqn⟩ : ∃ x, x = qN q := ⟨_, rfl⟩
 obtain ⟨qd, hqd⟩ : ∃ x, x = qD q := ⟨_, rfl⟩
 rw [<- hqn, <- hqd] at HAD
 unfold av7
 rw [<- hqn, <- hqd]
 obtain ⟨rn, hrn⟩ : ∃ x, x = qN r := ⟨_, rfl⟩
 obtain ⟨rd', hrd⟩ : ∃ x, x = qD r := ⟨_, rfl⟩
 rw [<- hrn, <- hrd] at HOF HAD
 obtain ⟨sn, hsn⟩ : ∃ x, x = qN s := ⟨_, rfl⟩
 obtain ⟨sd, hsd⟩ : ∃ x, x = qD s := ⟨_, rfl⟩
 rw [<- hsn, <- hsd] at HAD
 have HW1 : Hid (rm = 0 -> av7 (pls7 (q, k) n d).1 (pls7 (q, k) n d).2 = .agg #[.string qn, .string qd, .int .i64 k2]) := Lib.hid (fun h => by rw [HP.out, if_pos h, hqn, hqd])
 have HW2 : Hid (¬ rm = 0 -> av7 (pls7 (q, k) n d).1 (pls7 (q, k) n d).2 = .agg #[.string sn, .string sd, .int .i64 k]) := Lib.hid (fun h => by rw [HP.out, if_neg h, hsn, hsd])
 unfold av7 at HW1 HW2
 generalize (pls7 (q, k) n d).1 = vq at *
 generalize (pls7 (q, k) n d).2 = vk at *
 clear hrm hqt hk2 hr hs hre hse hqn hqd hrn hrd hsn hsd hrb hqb hq hn hk hd HP
 by_cases h0 : rm = 0
 case pos =>
   have HV := Lib.hid (HW1.out h0)
   have h0b : (rm == 0) = true := by simpa using h0
   clear h0
   have S_0 : Hid (Blk ((w.alloc (.cells #[.string qn, .string qd, .int .i64 k] 69)).alloc (.cells #[.string ⟨#[]⟩, .string ⟨#[]⟩, .int .i64 0] 69)) w.heap.size 69 #[.string qn, .string qd, .int .i64 k]) := allocs_blk [(#[.string qn, .string qd, .int .i64 k], 69), (#[.string ⟨#[]⟩, .string ⟨#[]⟩, .int .i64 0], 69)] w 0 _ rfl
   have Z_0 : Hid (Blk ((w.alloc (.cells #[.string qn, .string qd, .int .i64 k] 69)).alloc (.cells #[.string ⟨#[]⟩, .string ⟨#[]⟩, .int .i64 0] 69)) (w.heap.size + 1) 69 #[.string ⟨#[]⟩, .string ⟨#[]⟩, .int .i64 0]) := allocs_blk [(#[.string qn, .string qd, .int .i64 k], 69), (#[.string ⟨#[]⟩, .string ⟨#[]⟩, .int .i64 0], 69)] w 1 _ rfl
   have HB_0 : Hid (Below w.heap.size w ((w.alloc (.cells #[.string qn, .string qd, .int .i64 k] 69)).alloc (.cells #[.string ⟨#[]⟩, .string ⟨#[]⟩, .int .i64 0] 69))) := allocs_below [(#[.string qn, .string qd, .int .i64 k], 69), (#[.string ⟨#[]⟩, .string ⟨#[]⟩, .int .i64 0], 69)] w (Below.refl w.heap.size w) (Nat.le_refl _)
   go_enter Tryz.func42, Tryz.ntmps42
   go_wp2_with fail
   refine wp_region_grow (S := (fun w' => True)) ((fun w' => ((Below w.heap.size w w') /\ Blk w' w.heap.size 69 #[.string qn, .string qd, .int .i64 k]) /\ Blk w' (w.heap.size + 1) 69 #[.string ⟨#[]⟩, .string ⟨#[]⟩, .int .i64 0])) (by kernel_rfl) (⟨fun w2 h2 => trivial, fun w2 w3 h2 hb2 => ⟨⟨h2.1.1.trans (hb2.mono h2.1.1.size), h2.1.2.below hb2 h2.1.2.lt⟩, h2.2.below hb2 h2.2.lt⟩⟩) (⟨⟨HB_0.out.drew, S_0.out.drew⟩, Z_0.out.drew⟩) (fun hCalm => ?_)
   refine grow_take 0 (some 13) ?_ rfl rfl (by kernel_rfl) (fun _ _ _ h => h) (by kernel_rfl) hCalm ?_ ?_
   rotate_left
   · intro wS hS; (try dsimp only at hS); go_simp <;> with_reducible rfl
   try simp only [Act.put, q8a, q8b, q8c]
   refine grow_take 2 (some 15) ?_ rfl rfl (by kernel_rfl) (fun _ _ _ h => h) (by kernel_rfl) hCalm ?_ ?_
   rotate_left
   · intro wS hS; (try dsimp only at hS); go_simp <;> with_reducible rfl
   try simp only [Act.put, q8a, q8b, q8c]
   refine grow_take 3 (some 16) ?_ rfl rfl (by kernel_rfl) (fun _ _ _ h => h) (by kernel_rfl) hCalm ?_ ?_
   rotate_left
   · intro wS hS; (try dsimp only at hS); go_simp <;> with_reducible rfl
   try simp only [Act.put, q8a, q8b, q8c]
   refine grow_take 4 (some 17) ?_ rfl rfl (by kernel_rfl) (fun _ _ _ h => h) (by kernel_rfl) hCalm ?_ ?_
   rotate_left
   · intro wS hS; (try dsimp only at hS); go_simp <;> with_reducible rfl
   try simp only [Act.put, q8a, q8b, q8c]
   refine grow_each [1] (by kernel_rfl) (by decide) ?_
   refine grow_cons 1 rfl (by kernel_rfl) (fun wA hA K hK => ?_) grow_nil
   have z0 := hA.1.2.cell (i := 2) (v := .int .i64 k) rfl
   go_simp
   clear hCalm; refine grow_put hK (fun w' => ((Below w.heap.size w w') /\ Blk w' w.heap.size 69 #[.string qn, .string qd, .int .i64 k]) /\ Blk w' (w.heap.size + 1) 69 #[.string ⟨#[]⟩, .string ⟨#[]⟩, .int .i64 0]) ⟨fun w2 h2 => trivial, fun w2 w3 h2 hb2 => ⟨⟨h2.1.1.trans (hb2.mono h2.1.1.size), h2.1.2.below hb2 h2.1.2.lt⟩, h2.2.below hb2 h2.2.lt⟩⟩ ⟨⟨hA.1.1, hA.1.2⟩, hA.2⟩ (fun hCalm => ?_)
   clear z0 hK K hA wA
   try simp only [Act.put, q8a, q8b, q8c]
   refine grow_take 5 (some 18) ?_ rfl rfl (by kernel_rfl) (fun _ _ _ h => h) (by kernel_rfl) hCalm ?_ ?_
   rotate_left
   · intro wS hS; (try dsimp only at hS); go_simp <;> with_reducible rfl
   try simp only [Act.put, q8a, q8b, q8c]
   refine grow_take 6 (some 19) ?_ rfl rfl (by kernel_rfl) (fun _ _ _ h => h) (by kernel_rfl) hCalm ?_ ?_
   rotate_left
   · intro wS hS; (try dsimp only at hS); go_simp <;> with_reducible rfl
   try simp only [Act.put, q8a, q8b, q8c]
   refine grow_each [7] (by kernel_rfl) (by decide) ?_
   refine grow_cons 7 rfl (by kernel_rfl) (fun wA hA K hK => ?_) grow_nil
   have z0 := hA.1.2.cell (i := 2) (v := .int .i64 k) rfl; have f0 := hA.1.2.frozen 2
   go_simp
   clear hCalm; refine grow_put hK (fun w' => ((Below w.heap.size w w') /\ Blk w' w.heap.size 69 #[.string qn, .string qd, (.int .i64 k2)]) /\ Blk w' (w.heap.size + 1) 69 #[.string ⟨#[]⟩, .string ⟨#[]⟩, .int .i64 0]) ⟨fun w2 h2 => trivial, fun w2 w3 h2 hb2 => ⟨⟨h2.1.1.trans (hb2.mono h2.1.1.size), h2.1.2.below hb2 h2.1.2.lt⟩, h2.2.below hb2 h2.2.lt⟩⟩ ⟨⟨(hA.1.1.setCell (p := ⟨w.heap.size, 2, none⟩) (by show w.heap.size <= w.heap.size; omega) _), (hA.1.2.set 2 _)⟩, (hA.2.far (p := ⟨w.heap.size, 2, none⟩) (by show (w.heap.size + 1) ≠ w.heap.size; omega) _)⟩ (fun hCalm => ?_)
   clear z0 f0 hK K hA wA
   try simp only [Act.put]
   refine grow_done (by kernel_rfl) (fun wA hA => ?_) _
   have S_9 := Lib.hid hA.1.2; have Z_9 := Lib.hid hA.2; have HB_9 := Lib.hid hA.1.1
   clear hA hCalm
   have s0 := S_9.out.cell (i := 0) (v := .string qn) rfl
   have s1 := S_9.out.cell (i := 1) (v := .string qd) rfl
   have s2 := S_9.out.cell (i := 2) (v := .int .i64 k2) rfl
   have r0 := Z_9.out.cell (i := 0) (v := .string ⟨#[]⟩) rfl; have f0 := Z_9.out.frozen 0
   have r1 := Z_9.out.cell (i := 1) (v := .string ⟨#[]⟩) rfl; have f1 := Z_9.out.frozen 1
   have r2 := Z_9.out.cell (i := 2) (v := .int .i64 0) rfl; have f2 := Z_9.out.frozen 2
   go_wp2_with fail
   clear r0 f0 r1 f1 r2 f2
   have HFZ := Lib.hid (((Z_9.out.set 0 (.string qn)).set 1 (.string qd)).set 2 (.int .i64 k2))
   have rZ0 := HFZ.out.cell (i := 0) (v := .string qn) rfl
   have rZ1 := HFZ.out.cell (i := 1) (v := .string qd) rfl
   have rZ2 := HFZ.out.cell (i := 2) (v := .int .i64 k2) rfl
   exact bodyPost_ret (v := .agg #[.string qn, .string qd, .int .i64 k2]) (by simp [results, Tryz.results42, go_sem, rZ0, rZ1, rZ2]) rfl ⟨by rw [HV.out], (((HB_9.out.setCell (p := ⟨(w.heap.size + 1), 0, none⟩) (by show w.heap.size <= (w.heap.size + 1); omega) (.string qn)).setCell (p := ⟨(w.heap.size + 1), 1, none⟩) (by show w.heap.size <= (w.heap.size + 1); omega) (.string qd)).setCell (p := ⟨(w.heap.size + 1), 2, none⟩) (by show w.heap.size <= (w.heap.size + 1); omega) (.int .i64 k2))⟩
 case neg =>
   have HV := Lib.hid (HW2.out h0)
   have h0b : (rm == 0) = false := by simpa using h0
   clear h0
   have S_0 : Hid (Blk ((w.alloc (.cells #[.string qn, .string qd, .int .i64 k] 69)).alloc (.cells #[.string ⟨#[]⟩, .string ⟨#[]⟩, .int .i64 0] 69)) w.heap.size 69 #[.string qn, .string qd, .int .i64 k]) := allocs_blk [(#[.string qn, .string qd, .int .i64 k], 69), (#[.string ⟨#[]⟩, .string ⟨#[]⟩, .int .i64 0], 69)] w 0 _ rfl
   have Z_0 : Hid (Blk ((w.alloc (.cells #[.string qn, .string qd, .int .i64 k] 69)).alloc (.cells #[.string ⟨#[]⟩, .string ⟨#[]⟩, .int .i64 0] 69)) (w.heap.size + 1) 69 #[.string ⟨#[]⟩, .string ⟨#[]⟩, .int .i64 0]) := allocs_blk [(#[.string qn, .string qd, .int .i64 k], 69), (#[.string ⟨#[]⟩, .string ⟨#[]⟩, .int .i64 0], 69)] w 1 _ rfl
   have HB_0 : Hid (Below w.heap.size w ((w.alloc (.cells #[.string qn, .string qd, .int .i64 k] 69)).alloc (.cells #[.string ⟨#[]⟩, .string ⟨#[]⟩, .int .i64 0] 69))) := allocs_below [(#[.string qn, .string qd, .int .i64 k], 69), (#[.string ⟨#[]⟩, .string ⟨#[]⟩, .int .i64 0], 69)] w (Below.refl w.heap.size w) (Nat.le_refl _)
   go_enter Tryz.func42, Tryz.ntmps42
   go_wp2_with fail
   refine (HOF.out _).mono ?_
   rintro e v0 ⟨rfl, hb⟩
   have S_1 : Hid (Blk (v0.alloc (.cells #[.string rn, .string rd'] 48)) w.heap.size 69 #[.string qn, .string qd, .int .i64 k]) := Lib.hid (allocs_keep [(#[.string rn, .string rd'], 48)] _ (S_0.out.below hb S_0.out.lt))
   have Z_1 : Hid (Blk (v0.alloc (.cells #[.string rn, .string rd'] 48)) (w.heap.size + 1) 69 #[.string ⟨#[]⟩, .string ⟨#[]⟩, .int .i64 0]) := Lib.hid (allocs_keep [(#[.string rn, .string rd'], 48)] _ (Z_0.out.below hb Z_0.out.lt))
   have HB_1 : Hid (Below w.heap.size w (v0.alloc (.cells #[.string rn, .string rd'] 48))) := Lib.hid (allocs_below [(#[.string rn, .string rd'], 48)] _ (HB_0.out.trans (hb.mono HB_0.out.size)) (HB_0.out.trans (hb.mono HB_0.out.size)).size)
   have N_1 : Hid (Blk (v0.alloc (.cells #[.string rn, .string rd'] 48)) v0.heap.size 48 #[.string rn, .string rd']) := Lib.hid (allocs_blk [(#[.string rn, .string rd'], 48)] v0 0 _ rfl)
   clear hb S_0 Z_0 HB_0
   have yy0 := S_1.out.cell (i := 0) (v := .string qn) rfl; have yy1 := S_1.out.cell (i := 1) (v := .string qd) rfl; have yy2 := S_1.out.cell (i := 2) (v := .int .i64 k) rfl
   have yy3 := N_1.out.cell (i := 0) (v := .string rn) rfl; have yy4 := N_1.out.cell (i := 1) (v := .string rd') rfl
   go_wp2_with fail
   refine (HAD.out _).mono ?_
   rintro e v1 ⟨rfl, hb⟩
   clear yy0 yy1 yy2 yy3 yy4
   have S_2 : Hid (Blk v1 w.heap.size 69 #[.string qn, .string qd, .int .i64 k]) := Lib.hid (S_1.out.below hb S_1.out.lt)
   have Z_2 : Hid (Blk v1 (w.heap.size + 1) 69 #[.string ⟨#[]⟩, .string ⟨#[]⟩, .int .i64 0]) := Lib.hid (Z_1.out.below hb Z_1.out.lt)
   have N_2 : Hid (Blk v1 v0.heap.size 48 #[.string rn, .string rd']) := Lib.hid (N_1.out.below hb N_1.out.lt)
   have HB_2 : Hid (Below w.heap.size w v1) := Lib.hid (HB_1.out.trans (hb.mono HB_1.out.size))
   clear hb S_1 Z_1 N_1 HB_1
   have y0_ := S_2.out.cell (i := 0) (v := .string qn) rfl; have x0_ := S_2.out.frozen 0
   have y1_ := S_2.out.cell (i := 1) (v := .string qd) rfl; have x1_ := S_2.out.frozen 1
   have y2_ := S_2.out.cell (i := 2) (v := .int .i64 k) rfl; have x2_ := S_2.out.frozen 2
   have HS9 := Lib.hid ((S_2.out.set 0 (.string sn)).set 1 (.string sd))
   have HZ9 : Hid (Blk ((v1.setCell ⟨w.heap.size, 0, none⟩ (.string sn)).setCell ⟨w.heap.size, 1, none⟩ (.string sd)) (w.heap.size + 1) 69 #[.string ⟨#[]⟩, .string ⟨#[]⟩, .int .i64 0]) := Lib.hid ((Z_2.out.far (p := ⟨w.heap.size, 0, none⟩) (by show w.heap.size + 1 ≠ w.heap.size; omega) _).far (p := ⟨w.heap.size, 1, none⟩) (by show w.heap.size + 1 ≠ w.heap.size; omega) _)
   have HB9 := Lib.hid ((HB_2.out.setCell (p := ⟨w.heap.size, 0, none⟩) (Nat.le_refl _) (.string sn)).setCell (p := ⟨w.heap.size, 1, none⟩) (Nat.le_refl _) (.string sd))
   have s0 := HS9.out.cell (i := 0) (v := .string sn) rfl
   have s1 := HS9.out.cell (i := 1) (v := .string sd) rfl
   have s2 := HS9.out.cell (i := 2) (v := .int .i64 k) rfl
   have Z_9 := HZ9; have HB_9 := HB9
   have r0 := Z_9.out.cell (i := 0) (v := .string ⟨#[]⟩) rfl; have f0 := Z_9.out.frozen 0
   have r1 := Z_9.out.cell (i := 1) (v := .string ⟨#[]⟩) rfl; have f1 := Z_9.out.frozen 1
   have r2 := Z_9.out.cell (i := 2) (v := .int .i64 0) rfl; have f2 := Z_9.out.frozen 2
   go_wp2_with fail
   clear r0 f0 r1 f1 r2 f2
   have HFZ := Lib.hid (((Z_9.out.set 0 (.string sn)).set 1 (.string sd)).set 2 (.int .i64 k))
   have rZ0 := HFZ.out.cell (i := 0) (v := .string sn) rfl
   have rZ1 := HFZ.out.cell (i := 1) (v := .string sd) rfl
   have rZ2 := HFZ.out.cell (i := 2) (v := .int .i64 k) rfl
   exact bodyPost_ret (v := .agg #[.string sn, .string sd, .int .i64 k]) (by simp [results, Tryz.results42, go_sem, rZ0, rZ1, rZ2]) rfl ⟨by rw [HV.out], (((HB_9.out.setCell (p := ⟨(w.heap.size + 1), 0, none⟩) (by show w.heap.size <= (w.heap.size + 1); omega) (.string sn)).setCell (p := ⟨(w.heap.size + 1), 1, none⟩) (by show w.heap.size <= (w.heap.size + 1); omega) (.string sd)).setCell (p := ⟨(w.heap.size + 1), 2, none⟩) (by show w.heap.size <= (w.heap.size + 1); omega) (.int .i64 k))⟩
set_option maxRecDepth 100000 in
set_option maxHeartbeats 8000000 in
theorem minus_any (q : Option (Int × Int)) (k n d : Int) (w : World) (hq : Fq q) (hk : -8000000000000000000 <= k /\ k <= 8000000000000000000) (hn : -100000000000000000 <= n /\ n <= 100000000000000000) (hd : (-100000000000000000 <= d /\ d <= 100000000000000000) /\ d ≠ 0) :
   Yl 40 #[av7 q k, .int .i64 n, .int .i64 d] w (av7 (pls7 (q, k) (-n) d).1 (pls7 (q, k) (-n) d).2) := by
 have HC := Lib.hid (fun W => plus_any q k (-n) d W hq hk (by omega) hd)
 obtain ⟨q2, hq2⟩ : ∃ x, x = (pls7 (q, k) (-n) d).1 := ⟨_, rfl⟩
 obtain ⟨k2, hk2⟩ : ∃ x, x = (pls7 (q, k) (-n) d).2 := ⟨_, rfl⟩
 rw [<- hq2, <- hk2] at HC ⊢
 have e1 : IntKind.i64.wrap (-n) = -n := IntWalk.i64_in _ (by omega)
 obtain ⟨n2, hn2⟩ : ∃ x, x = -n := ⟨_, rfl⟩
 rw [<- hn2] at HC e1
 obtain ⟨qn, hqn⟩ : ∃ x, x = qN q := ⟨_, rfl⟩
 obtain ⟨qd, hqd⟩ : ∃ x, x = qD q := ⟨_, rfl⟩
 obtain ⟨rn, hrn⟩ : ∃ x, x = qN q2 := ⟨_, rfl⟩
 obtain ⟨rd', hrd⟩ : ∃ x, x = qD q2 := ⟨_, rfl⟩
 unfold av7 at HC ⊢
 rw [<- hqn, <- hqd, <- hrn, <- hrd] at HC ⊢
 have e2 : IntKind.i64.wrap (-n) = n2 := by rw [<- hn2]; exact e1
 clear hq2 hk2 hqn hqd hrn hrd hq hk hn hd e1 hn2
 have S_0 : Hid (Blk ((w.alloc (.cells #[.string qn, .string qd, .int .i64 k] 69)).alloc (.cells #[.string ⟨#[]⟩, .string ⟨#[]⟩, .int .i64 0] 69)) w.heap.size 69 #[.string qn, .string qd, .int .i64 k]) := allocs_blk [(#[.string qn, .string qd, .int .i64 k], 69), (#[.string ⟨#[]⟩, .string ⟨#[]⟩, .int .i64 0], 69)] w 0 _ rfl
 have Z_0 : Hid (Blk ((w.alloc (.cells #[.string qn, .string qd, .int .i64 k] 69)).alloc (.cells #[.string ⟨#[]⟩, .string ⟨#[]⟩, .int .i64 0] 69)) (w.heap.size + 1) 69 #[.string ⟨#[]⟩, .string ⟨#[]⟩, .int .i64 0]) := allocs_blk [(#[.string qn, .string qd, .int .i64 k], 69), (#[.string ⟨#[]⟩, .string ⟨#[]⟩, .int .i64 0], 69)] w 1 _ rfl
 have HB_0 : Hid (Below w.heap.size w ((w.alloc (.cells #[.string qn, .string qd, .int .i64 k] 69)).alloc (.cells #[.string ⟨#[]⟩, .string ⟨#[]⟩, .int .i64 0] 69))) := allocs_below [(#[.string qn, .string qd, .int .i64 k], 69), (#[.string ⟨#[]⟩, .string ⟨#[]⟩, .int .i64 0], 69)] w (Below.refl w.heap.size w) (Nat.le_refl _)
 go_enter Tryz.func40, Tryz.ntmps40
 have yy0 := S_0.out.cell (i := 0) (v := .string qn) rfl; have yy1 := S_0.out.cell (i := 1) (v := .string qd) rfl; have yy2 := S_0.out.cell (i := 2) (v := .int .i64 k) rfl
 go_wp2_with fail
 refine (HC.out _).mono ?_
 rintro e v0 ⟨rfl, hb⟩
 clear yy0 yy1 yy2
 have S_1 : Hid (Blk v0 w.heap.size 69 #[.string qn, .string qd, .int .i64 k]) := Lib.hid (S_0.out.below hb S_0.out.lt)
 have Z_1 : Hid (Blk v0 (w.heap.size + 1) 69 #[.string ⟨#[]⟩, .string ⟨#[]⟩, .int .i64 0]) := Lib.hid (Z_0.out.below hb Z_0.out.lt)
 have HB_1 : Hid (Below w.heap.size w v0) := Lib.hid (HB_0.out.trans (hb.mono HB_0.out.size))
 clear hb S_0 Z_0 HB_0
 have r0 := Z_1.out.cell (i := 0) (v := .string ⟨#[]⟩) rfl; have f0 := Z_1.out.frozen 0
 have r1 := Z_1.out.cell (i := 1) (v := .string ⟨#[]⟩) rfl; have f1 := Z_1.out.frozen 1
 have r2 := Z_1.out.cell (i := 2) (v := .int .i64 0) rfl; have f2 := Z_1.out.frozen 2
 go_wp2_with fail
 clear r0 f0 r1 f1 r2 f2
 have HFZ := Lib.hid (((Z_1.out.set 0 (.string rn)).set 1 (.string rd')).set 2 (.int .i64 k2))
 have rZ0 := HFZ.out.cell (i := 0) (v := .string rn) rfl
 have rZ1 := HFZ.out.cell (i := 1) (v := .string rd') rfl
 have rZ2 := HFZ.out.cell (i := 2) (v := .int .i64 k2) rfl
 exact bodyPost_ret (v := .agg #[.string rn, .string rd', .int .i64 k2]) (by simp [results, Tryz.results40, go_sem, rZ0, rZ1, rZ2]) rfl ⟨rfl, (((HB_1.out.setCell (p := ⟨(w.heap.size + 1), 0, none⟩) (by show w.heap.size <= (w.heap.size + 1); omega) (.string rn)).setCell (p := ⟨(w.heap.size + 1), 1, none⟩) (by show w.heap.size <= (w.heap.size + 1); omega) (.string rd')).setCell (p := ⟨(w.heap.size + 1), 2, none⟩) (by show w.heap.size <= (w.heap.size + 1); omega) (.int .i64 k2))⟩
set_option maxRecDepth 100000 in
set_option maxHeartbeats 8000000 in
theorem total_any (q : Option (Int × Int)) (k : Int) (w : World) (hq : Fq q) (hk : -8000000000000000000 <= k /\ k <= 8000000000000000000) :
   Yl 43 #[av7 q k] w (.agg #[.string (qN (sumQ (· + ·) q (ofR k 1))), .string (qD (sumQ (· + ·) q (ofR k 1)))]) := by
 have HOF := Lib.hid (fun W => ofw_any k 1 W (by omega) (by omega))
 have HAD := Lib.hid (fun W => addq_any q (ofR k 1) W hq (fq_of (by omega) (by omega)))
 obtain ⟨r, hr⟩ : ∃ r, r = ofR k 1 := ⟨_, rfl⟩
 rw [<- hr] at HOF HAD ⊢
 obtain ⟨s, hs⟩ : ∃ s, s = sumQ (· + ·) q r := ⟨_, rfl⟩
 rw [<- hs] at HAD ⊢
 obtain ⟨re, hre⟩ : ∃ x, x = qE r := ⟨_, rfl⟩
 obtain ⟨se, hse⟩ : ∃ x, x = qE s := ⟨_, rfl⟩
 rw [<- hre] at HOF; rw [<- hse] at HAD
 obtain ⟨qn, hqn⟩ : ∃ x, x = qN q := ⟨_, rfl⟩
 obtain ⟨qd, hqd⟩ : ∃ x, x = qD q := ⟨_, rfl⟩
 obtain ⟨rn, hrn⟩ : ∃ x, x = qN r := ⟨_, rfl⟩
 obtain ⟨rd', hrd⟩ : ∃ x, x = qD r := ⟨_, rfl⟩
 obtain ⟨sn, hsn⟩ : ∃ x, x = qN s := ⟨_, rfl⟩
 obtain ⟨sd, hsd⟩ : ∃ x, x = qD s := ⟨_, rfl⟩
 unfold av7
 rw [<- hqn, <- hqd] at HAD ⊢; rw [<- hrn, <- hrd] at HOF HAD; rw [<- hsn, <- hsd] at HAD ⊢
 clear hr hs hre hse hqn hqd hrn hrd hsn hsd hq hk
 have S_0 : Hid (Blk ((w.alloc (.cells #[.string qn, .string qd, .int .i64 k] 69)).alloc (.cells #[.string ⟨#[]⟩, .string ⟨#[]⟩] 48)) w.heap.size 69 #[.string qn, .string qd, .int .i64 k]) := allocs_blk [(#[.string qn, .string qd, .int .i64 k], 69), (#[.string ⟨#[]⟩, .string ⟨#[]⟩], 48)] w 0 _ rfl
 have Z_0 : Hid (Blk ((w.alloc (.cells #[.string qn, .string qd, .int .i64 k] 69)).alloc (.cells #[.string ⟨#[]⟩, .string ⟨#[]⟩] 48)) (w.heap.size + 1) 48 #[.string ⟨#[]⟩, .string ⟨#[]⟩]) := allocs_blk [(#[.string qn, .string qd, .int .i64 k], 69), (#[.string ⟨#[]⟩, .string ⟨#[]⟩], 48)] w 1 _ rfl
 have HB_0 : Hid (Below w.heap.size w ((w.alloc (.cells #[.string qn, .string qd, .int .i64 k] 69)).alloc (.cells #[.string ⟨#[]⟩, .string ⟨#[]⟩] 48))) := allocs_below [(#[.string qn, .string qd, .int .i64 k], 69), (#[.string ⟨#[]⟩, .string ⟨#[]⟩], 48)] w (Below.refl w.heap.size w) (Nat.le_refl _)
 go_enter Tryz.func43, Tryz.ntmps43
 have yy0 := S_0.out.cell (i := 0) (v := .string qn) rfl; have yy1 := S_0.out.cell (i := 1) (v := .string qd) rfl; have yy2 := S_0.out.cell (i := 2) (v := .int .i64 k) rfl
 go_wp2_with fail
 refine (HOF.out _).mono ?_
 rintro e v0 ⟨rfl, hb⟩
 clear yy0 yy1 yy2
 have S_1 : Hid (Blk (v0.alloc (.cells #[.string rn, .string rd'] 48)) w.heap.size 69 #[.string qn, .string qd, .int .i64 k]) := Lib.hid (allocs_keep [(#[.string rn, .string rd'], 48)] _ (S_0.out.below hb S_0.out.lt))
 have Z_1 : Hid (Blk (v0.alloc (.cells #[.string rn, .string rd'] 48)) (w.heap.size + 1) 48 #[.string ⟨#[]⟩, .string ⟨#[]⟩]) := Lib.hid (allocs_keep [(#[.string rn, .string rd'], 48)] _ (Z_0.out.below hb Z_0.out.lt))
 have HB_1 : Hid (Below w.heap.size w (v0.alloc (.cells #[.string rn, .string rd'] 48))) := Lib.hid (allocs_below [(#[.string rn, .string rd'], 48)] _ (HB_0.out.trans (hb.mono HB_0.out.size)) (HB_0.out.trans (hb.mono HB_0.out.size)).size)
 have N_1 : Hid (Blk (v0.alloc (.cells #[.string rn, .string rd'] 48)) v0.heap.size 48 #[.string rn, .string rd']) := Lib.hid (allocs_blk [(#[.string rn, .string rd'], 48)] v0 0 _ rfl)
 clear hb S_0 Z_0 HB_0
 have yy0 := S_1.out.cell (i := 0) (v := .string qn) rfl; have yy1 := S_1.out.cell (i := 1) (v := .string qd) rfl; have yy2 := S_1.out.cell (i := 2) (v := .int .i64 k) rfl
 have yy3 := N_1.out.cell (i := 0) (v := .string rn) rfl; have yy4 := N_1.out.cell (i := 1) (v := .string rd') rfl
 go_wp2_with fail
 refine (HAD.out _).mono ?_
 rintro e v1 ⟨rfl, hb⟩
 clear yy0 yy1 yy2 yy3 yy4
 have S_2 : Hid (Blk (v1.alloc (.cells #[.string sn, .string sd] 48)) w.heap.size 69 #[.string qn, .string qd, .int .i64 k]) := Lib.hid (allocs_keep [(#[.string sn, .string sd], 48)] _ (S_1.out.below hb S_1.out.lt))
 have Z_2 : Hid (Blk (v1.alloc (.cells #[.string sn, .string sd] 48)) (w.heap.size + 1) 48 #[.string ⟨#[]⟩, .string ⟨#[]⟩]) := Lib.hid (allocs_keep [(#[.string sn, .string sd], 48)] _ (Z_1.out.below hb Z_1.out.lt))
 have N_2 : Hid (Blk (v1.alloc (.cells #[.string sn, .string sd] 48)) v0.heap.size 48 #[.string rn, .string rd']) := Lib.hid (allocs_keep [(#[.string sn, .string sd], 48)] _ (N_1.out.below hb N_1.out.lt))
 have HB_2 : Hid (Below w.heap.size w (v1.alloc (.cells #[.string sn, .string sd] 48))) := Lib.hid (allocs_below [(#[.string sn, .string sd], 48)] _ (HB_1.out.trans (hb.mono HB_1.out.size)) (HB_1.out.trans (hb.mono HB_1.out.size)).size)
 have M_2 : Hid (Blk (v1.alloc (.cells #[.string sn, .string sd] 48)) v1.heap.size 48 #[.string sn, .string sd]) := Lib.hid (allocs_blk [(#[.string sn, .string sd], 48)] v1 0 _ rfl)
 clear hb S_1 Z_1 N_1 HB_1
 have yy0 := M_2.out.cell (i := 0) (v := .string sn) rfl; have yy1 := M_2.out.cell (i := 1) (v := .string sd) rfl
 have r0 := Z_2.out.cell (i := 0) (v := .string ⟨#[]⟩) rfl; have f0 := Z_2.out.frozen 0
 have r1 := Z_2.out.cell (i := 1) (v := .string ⟨#[]⟩) rfl; have f1 := Z_2.out.frozen 1
 go_wp2_with fail
 clear r0 f0 r1 f1
 have HFZ := Lib.hid ((Z_2.out.set 0 (.string sn)).set 1 (.string sd))
 have rZ0 := HFZ.out.cell (i := 0) (v := .string sn) rfl
 have rZ1 := HFZ.out.cell (i := 1) (v := .string sd) rfl
 exact bodyPost_ret (v := .agg #[.string sn, .string sd]) (by simp [results, Tryz.results43, go_sem, rZ0, rZ1]) rfl ⟨rfl, ((HB_2.out.setCell (p := ⟨(w.heap.size + 1), 0, none⟩) (by show w.heap.size <= (w.heap.size + 1); omega) (.string sn)).setCell (p := ⟨(w.heap.size + 1), 1, none⟩) (by show w.heap.size <= (w.heap.size + 1); omega) (.string sd))⟩
end Go.Proofs.YtpjbihfkedbenaaGreat
namespace Go.Proofs.YtpjbihfkedbenaaGreat
open Go.RowKit Go.Shelf Go.Lib
attribute [local go_sem] Oper.semAt_some
def stp7 (r : R7) (s : Option (Int × Int) × Int) (e : E7) : Option (Int × Int) × Int :=
 if e.1.x < e.2.x then pls7 s (-(abv7 e.1 e.2 r).1) (abv7 e.1 e.2 r).2 else pls7 s (abv7 e.2 e.1 r).1 (abv7 e.2 e.1 r).2
def cov7 (r : R7) (es : List E7) : Option (Int × Int) × Int := es.foldl (stp7 r) (some (0, 1), 0)
theorem cov7_snoc (r : R7) (es : List E7) (e : E7) : cov7 r (es ++ [e]) = stp7 r (cov7 r es) e := by simp [cov7]
theorem zs0 : zS 0 = ⟨#[48]⟩ := by decide +kernel
theorem zs1 : zS 1 = ⟨#[49]⟩ := by decide +kernel
theorem fq_01 : Fq (some (0, 1)) := fun p e => by
 cases e
 refine ⟨by decide, ?_, ?_⟩
 · exact pow20 (by decide)
 · exact pow20 (by decide)
theorem abv7_fit {a b : P7} {r : R7} (ha : a.ok) (hb : b.ok) (hr : r.ok) (hab : a.x <= b.x) : (-100000000000000000 <= (abv7 a b r).1 /\ (abv7 a b r).1 <= 100000000000000000) /\ (-100000000000000000 <= (abv7 a b r).2 /\ (abv7 a b r).2 <= 100000000000000000) /\ (abv7 a b r).2 ≠ 0 := by
 have ha2 := ha; have hb2 := hb; have hr2 := hr
 unfold P7.ok at ha2 hb2; unfold R7.ok at hr2
 unfold abv7
 split
 · exact ⟨by decide, by decide, by decide⟩
 · next h1 =>
   have hbo : 0 <= r.h * (b.x - a.x) /\ r.h * (b.x - a.x) <= 20000000 := by
     have h2 := mul_small (m := 4095) (n := 4095) (a := r.h) (b := b.x - a.x) (by omega) (by omega)
     have h3 := Int.mul_nonneg (show 0 <= r.h by omega) (show 0 <= b.x - a.x by omega)
     omega
   split
   · next h2 =>
     have h3 := bw7_in (n := dep7 a r (fr7 a b) (max a.x r.x)) hbo.1
     have h4 := mul_small (m := 20000000) (n := 4095) (a := bw7 (dep7 a r (fr7 a b) (max a.x r.x)) 0 (r.h * (b.x - a.x))) (b := min b.x (r.x + r.w) - max a.x r.x) (by omega) (by omega)
     refine ⟨?_, ?_, ?_⟩ <;> simp only <;> omega
   · next h2 =>
     have d1 := dep7_small (ln := fr7 a b) (x := min b.x (r.x + r.w)) ha hr (by simp only [fr7]; omega) (by simp only [fr7]; omega) (by omega)
     have d2 := dep7_small (ln := fr7 a b) (x := max a.x r.x) ha hr (by simp only [fr7]; omega) (by simp only [fr7]; omega) (by omega)
     have f1 := fil7_small (d := dep7 a r (fr7 a b) (min b.x (r.x + r.w))) (b := r.h * (b.x - a.x)) (by unfold dep7; omega) (by omega)
     have f2 := fil7_small (d := dep7 a r (fr7 a b) (max a.x r.x)) (b := r.h * (b.x - a.x)) (by unfold dep7; omega) (by omega)
     have h4 := mul_small (m := 8190) (n := 4095) (a := 2 * (b.x - a.x)) (b := b.y - a.y) (by omega) (by omega)
     refine ⟨?_, ?_, ?_⟩ <;> simp only
     · omega
     · omega
     · exact Int.mul_ne_zero (by omega) h2
theorem pls7_fit {s : Option (Int × Int) × Int} {n d : Int} (h : -100000000000000000 <= n /\ n <= 100000000000000000) : s.2 - 100000000000000000 <= (pls7 s n d).2 /\ (pls7 s n d).2 <= s.2 + 100000000000000000 := by
 have hq : (n.tdiv d).natAbs <= n.natAbs := by rw [Int.natAbs_tdiv]; exact Nat.div_le_self _ _
 unfold pls7; split
 · simp only; omega
 · simp only; omega
theorem stp7_fit {r : R7} {s : Option (Int × Int) × Int} {e : E7} (hr : r.ok) (he : e.1.ok /\ e.2.ok) : s.2 - 100000000000000000 <= (stp7 r s e).2 /\ (stp7 r s e).2 <= s.2 + 100000000000000000 := by
 unfold stp7; split
 · have := abv7_fit he.1 he.2 hr (by omega); exact pls7_fit (by omega)
 · have := abv7_fit he.2 he.1 hr (by omega); exact pls7_fit (by omega)
theorem cov7_go {r : R7} (hr : r.ok) : ∀ (es : List E7) (s : Option (Int × Int) × Int), (∀ e ∈ es, e.1.ok /\ e.2.ok) -> s.2 - 100000000000000000 * (es.length : Int) <= (es.foldl (stp7 r) s).2 /\ (es.foldl (stp7 r) s).2 <= s.2 + 100000000000000000 * (es.length : Int)
 | [], s, _ => by simp
 | e :: es, s, h => by
   have h1 := cov7_go hr es (stp7 r s e) (fun x hx => h x (List.mem_cons_of_mem _ hx))
   have h2 := stp7_fit (s := s) hr (h e (by simp))
   simp only [List.foldl_cons, List.length_cons] at h1 ⊢; omega
theorem fq_cov (r : R7) : ∀ (es : List E7) (s : Option (Int × Int) × Int), Fq s.1 -> Fq (es.foldl (stp7 r) s).1
 | [], s, h => h
 | e :: es, s, h => fq_cov r es (stp7 r s e) (by unfold stp7; split <;> exact fq_pls h _ _)
def cvq (r : R7) (l : List P7) : Option (Int × Int) := sumQ (· + ·) (cov7 r (egs l l.length)).1 (ofR (cov7 r (egs l l.length)).2 1)
set_option maxRecDepth 100000 in
set_option maxHeartbeats 16000000 in
theorem pcovered_yes (l : List P7) (A : Option Addr) (c : Nat) (r : R7) (w : World) (hA : Pz w A l) (hl : Ls7 l) (hh : hul7 fits7 l = l) (hr : r.ok) :
   Yl 18 #[.slice A l.length c, r7v r] w (.tuple #[.agg #[.string (qN (cvq r l)), .string (qD (cvq r l))], .int .i64 0]) := by
 obtain ⟨b, o, rfl⟩ := hA.some (by have := hl.1; omega)
 have hbw : b < w.heap.size := hA.here (i := 0) (by have := hl.1; omega)
 have hbx : Below w.heap.size w ((w.alloc (.cells #[.int .i64 r.x, .int .i64 r.y, .int .i64 r.w, .int .i64 r.h] 39)).alloc (.cells #[.string ⟨#[]⟩, .string ⟨#[]⟩] 48)) := allocs_below [(#[.int .i64 r.x, .int .i64 r.y, .int .i64 r.w, .int .i64 r.h], 39), (#[.string ⟨#[]⟩, .string ⟨#[]⟩], 48)] w (Below.refl _ _) (Nat.le_refl _)
 have HC := Lib.hid (pconvex_yes l _ c _ (hA.below hbx (Nat.le_refl _)) hl hh)
 have HVR := Lib.hid (fun W => vrect_yes r W hr)
 have HNO := Lib.hid (fun W => nothing_any W)
 have HL := Lib.hid hl.1
 have HOK := Lib.hid hl.2
 have HR := Lib.hid hr
 have HCE : Hid (∀ W, Below w.heap.size w W -> ∀ i, i < l.length -> W.cell? ⟨b, o + i * 2, none⟩ = some (.int .i64 (pAt l i).x) /\ W.cell? ⟨b, o + i * 2 + 1, none⟩ = some (.int .i64 (pAt l i).y)) := Lib.hid (fun W hW i hi => by rw [pAt_eq hi]; exact Pz.cell hA hW (Nat.le_refl _) hi)
 have HSM : Hid (∀ pre : List (EIn l), pre.length <= l.length -> Fq (cov7 r (vls7 pre)).1 /\ -7000000000000000000 <= (cov7 r (vls7 pre)).2 /\ (cov7 r (vls7 pre)).2 <= 7000000000000000000) := Lib.hid (fun pre hp => by
   have h := cov7_go hr (vls7 pre) (some (0, 1), 0) (vls7_ok hl.2 pre)
   rw [vls7_length] at h
   refine ⟨fq_cov r (vls7 pre) (some (0, 1), 0) fq_01, ?_⟩
   unfold cov7
   have := hl.1; omega)
 have S_0 : Hid (Blk ((w.alloc (.cells #[.int .i64 r.x, .int .i64 r.y, .int .i64 r.w, .int .i64 r.h] 39)).alloc (.cells #[.string ⟨#[]⟩, .string ⟨#[]⟩] 48)) w.heap.size 39 #[.int .i64 r.x, .int .i64 r.y, .int .i64 r.w, .int .i64 r.h]) := Lib.hid (allocs_blk [(#[.int .i64 r.x, .int .i64 r.y, .int .i64 r.w, .int .i64 r.h], 39), (#[.string ⟨#[]⟩, .string ⟨#[]⟩], 48)] w 0 _ rfl)
 have Z_0 : Hid (Blk ((w.alloc (.cells #[.int .i64 r.x, .int .i64 r.y, .int .i64 r.w, .int .i64 r.h] 39)).alloc (.cells #[.string ⟨#[]⟩, .string ⟨#[]⟩] 48)) (w.heap.size + 1) 48 #[.string ⟨#[]⟩, .string ⟨#[]⟩]) := Lib.hid (allocs_blk [(#[.int .i64 r.x, .int .i64 r.y, .int .i64 r.w, .int .i64 r.h], 39), (#[.string ⟨#[]⟩, .string ⟨#[]⟩], 48)] w 1 _ rfl)
 have HB_0 := Lib.hid hbx
 clear hA hl hh hr hbx
 refine (callsIn_wide (n := 8)).1 ?_
 refine callsIn_of_wp_marks Tryz.func18 rfl trivial ?_ rfl
 simp only [Tryz.ntmps18, List.size_toArray, List.length_cons, List.length_nil, Nat.reduceAdd, Nat.reduceSub, Array.replicate_succ, Array.replicate_zero, List.push_toArray, List.append_toArray, List.nil_append, List.cons_append]
 gi_wp2_with (refine ⟨trivial, ?_⟩; first
   | (gi_at_call 37; refine (callsIn_wide.2 HC.out).mono ?_; rintro e v0 ⟨rfl, hb⟩; have S_1 := Lib.hid (S_0.out.below hb S_0.out.lt); have Z_1 := Lib.hid (Z_0.out.below hb Z_0.out.lt); have HB_1 := Lib.hid (HB_0.out.trans (hb.mono HB_0.out.size)); clear hb S_0 Z_0 HB_0; have u0 := S_1.out.cell (i := 0) (v := .int .i64 r.x) rfl; have u1 := S_1.out.cell (i := 1) (v := .int .i64 r.y) rfl; have u2 := S_1.out.cell (i := 2) (v := .int .i64 r.w) rfl; have u3 := S_1.out.cell (i := 3) (v := .int .i64 r.h) rfl)
   | (gi_at_call 21; refine (callsIn_wide.2 (HVR.out _)).mono ?_; rintro e v1 ⟨rfl, hb⟩; clear u0 u1 u2 u3; have S_2 := Lib.hid (S_1.out.below hb S_1.out.lt); have Z_2 := Lib.hid (Z_1.out.below hb Z_1.out.lt); have HB_2 := Lib.hid (HB_1.out.trans (hb.mono HB_1.out.size)); clear hb S_1 Z_1 HB_1)
   | (gi_at_call 38; refine (callsIn_wide.2 (HNO.out _)).mono ?_; rintro e v2 ⟨rfl, hb⟩; have S_3 := Lib.hid (S_2.out.below hb S_2.out.lt); have Z_3 := Lib.hid (Z_2.out.below hb Z_2.out.lt); have HB_3 := Lib.hid (HB_2.out.trans (hb.mono HB_2.out.size)); clear hb S_2 Z_2 HB_2; have hnz := Blk.new v2 69 #[.string ⟨#[]⟩, .string ⟨#[]⟩, .int .i64 0]; have n0 := hnz.cell (i := 0) (v := .string ⟨#[]⟩) rfl; have n1 := hnz.cell (i := 1) (v := .string ⟨#[]⟩) rfl; have n2 := hnz.cell (i := 2) (v := .int .i64 0) rfl; have m0 := hnz.frozen 0; have m1 := hnz.frozen 1; have m2 := hnz.frozen 2; clear hnz)
   | (gi_at_call 39; refine (edges_in _ l _ c _).mono ?_; rintro e w1 ⟨rfl, rfl⟩))
 clear n0 n1 n2 m0 m1 m2
 have hb0 : Below v2.heap.size v2 ((v2.alloc (.cells #[.string ⟨#[48]⟩, .string ⟨#[49]⟩, .int .i64 0] 69)).alloc (.cells #[.slice (some ⟨b, o, none⟩) l.length c] 24)) := allocs_below [(#[.string ⟨#[48]⟩, .string ⟨#[49]⟩, .int .i64 0], 69), (#[.slice (some ⟨b, o, none⟩) l.length c], 24)] v2 (Below.refl _ _) (Nat.le_refl _)
 have hk0 : Blk ((v2.alloc (.cells #[.string ⟨#[48]⟩, .string ⟨#[49]⟩, .int .i64 0] 69)).alloc (.cells #[.slice (some ⟨b, o, none⟩) l.length c] 24)) (v2.heap.size) 69 #[.string ⟨#[48]⟩, .string ⟨#[49]⟩, .int .i64 0] := allocs_blk [(#[.string ⟨#[48]⟩, .string ⟨#[49]⟩, .int .i64 0], 69), (#[.slice (some ⟨b, o, none⟩) l.length c], 24)] v2 0 _ rfl
 have hk1 : Blk ((v2.alloc (.cells #[.string ⟨#[48]⟩, .string ⟨#[49]⟩, .int .i64 0] 69)).alloc (.cells #[.slice (some ⟨b, o, none⟩) l.length c] 24)) (v2.heap.size + 1) 24 #[.slice (some ⟨b, o, none⟩) l.length c] := allocs_blk [(#[.string ⟨#[48]⟩, .string ⟨#[49]⟩, .int .i64 0], 69), (#[.slice (some ⟨b, o, none⟩) l.length c], 24)] v2 1 _ rfl
 have hsz : ((v2.alloc (.cells #[.string ⟨#[48]⟩, .string ⟨#[49]⟩, .int .i64 0] 69)).alloc (.cells #[.slice (some ⟨b, o, none⟩) l.length c] 24)).heap.size = v2.heap.size + 2 := by simp
 obtain ⟨W0, hW0⟩ : ∃ W0, (v2.alloc (.cells #[.string ⟨#[48]⟩, .string ⟨#[49]⟩, .int .i64 0] 69)).alloc (.cells #[.slice (some ⟨b, o, none⟩) l.length c] 24) = W0 := ⟨_, rfl⟩
 rw [hW0] at hb0 hk0 hk1 hsz ⊢
 have hwv : w.heap.size + 2 <= v2.heap.size := Z_3.out.lt
 have hbW : Below w.heap.size w W0 := HB_3.out.trans (hb0.mono HB_3.out.size)
 have hbS : Blk W0 w.heap.size 39 #[.int .i64 r.x, .int .i64 r.y, .int .i64 r.w, .int .i64 r.h] := S_3.out.below hb0 S_3.out.lt
 have hbZ : Blk W0 (w.heap.size + 1) 48 #[.string ⟨#[]⟩, .string ⟨#[]⟩] := Z_3.out.below hb0 Z_3.out.lt
 have hec : EgC W0 (v2.heap.size + 1) l b o c := ⟨hk1.cell (i := 0) rfl, HCE.out W0 hbW⟩
 clear hW0 hb0 S_3 Z_3 HB_3
 have hk0' : Blk W0 v2.heap.size 69 #[.string (qN (cov7 r (vls7 ([] : List (EIn l)))).1), .string (qD (cov7 r (vls7 ([] : List (EIn l)))).1), .int .i64 (cov7 r (vls7 ([] : List (EIn l)))).2] := by rw [show vls7 ([] : List (EIn l)) = [] from rfl]; show Blk W0 v2.heap.size _ #[.string (zS 0), .string (zS 1), .int .i64 0]; rw [zs0, zs1]; exact hk0
 refine wpIn_rangeFunc_ownH rfl (by omega) (gf := 53) (lb := #[.pointer (some ⟨v2.heap.size + 1, 0, none⟩)]) rfl trivial (enters_of Tryz.func53 (by kernel_rfl) rfl)
   (edges_stops (8 - 1) v2.heap.size (v2.heap.size + 1) b o c l HL.out W0 (v2.heap.size + 2) (by omega) ⟨by omega, by omega⟩ ⟨by omega, by omega⟩ hec) (fun h k => h.trans k) (KpX.put (by omega)) (Below.refl _ _) (fun _ => rfl)
   (fun pre W => (((Blk W v2.heap.size 69 #[.string (qN (cov7 r (vls7 pre)).1), .string (qD (cov7 r (vls7 pre)).1), .int .i64 (cov7 r (vls7 pre)).2] /\ Blk W w.heap.size 39 #[.int .i64 r.x, .int .i64 r.y, .int .i64 r.w, .int .i64 r.h]) /\ Blk W (w.heap.size + 1) 48 #[.string ⟨#[]⟩, .string ⟨#[]⟩]) /\ W0.heap.size <= W.heap.size) /\ Below w.heap.size w W)
   (fun _ _ _ => False)
   (OwnFrom.and (OwnFrom.and (OwnFrom.and (OwnFrom.and (Own.from (blk_own _ _ _) _) (Own.from (blk_own _ _ _) _)) (Own.from (blk_own _ _ _) _)) (fun _ X Y row hs hg _ => Nat.le_trans hs hg.size)) (ownFrom_below (Nat.le_refl _) (by omega)))
   (fun _ _ _ _ _ hs _ _ => hs)
   ⟨⟨⟨⟨hk0', hbS⟩, hbZ⟩, Nat.le_refl _⟩, hbW⟩
   (fun x a' W => ∃ Ba Bb, (v2.heap.size + 1 < Ba /\ v2.heap.size + 1 < Bb) /\ Blk W Ba 31 #[.int .i64 x.1.1.x, .int .i64 x.1.1.y] /\ Blk W Bb 31 #[.int .i64 x.1.2.x, .int .i64 x.1.2.y] /\ a' = { tmps := #[.slice (some ⟨b, o, none⟩) l.length c, r7v r, undef, .pointer (some ⟨w.heap.size, 0, none⟩), .pointer (some ⟨w.heap.size + 1, 0, none⟩), .int .i64 0, .pointer (some ⟨v2.heap.size, 0, none⟩), .pointer (some ⟨Ba, 0, none⟩), .pointer (some ⟨Bb, 0, none⟩), .slice (some ⟨b, o, none⟩) l.length c, .bool true, .bool false, .bool false, r7v r, .bool true, .bool false, .bool false, undef, .agg #[.string ⟨#[48]⟩, .string ⟨#[49]⟩, .int .i64 0], .slice (some ⟨b, o, none⟩) l.length c, .func (.func 53) #[] #[.pointer (some ⟨v2.heap.size + 1, 0, none⟩)], .agg #[.int .i64 x.1.1.x, .int .i64 x.1.1.y], .agg #[.int .i64 x.1.2.x, .int .i64 x.1.2.y], undef, undef, undef, undef, undef, undef, undef, undef, undef, undef, undef, undef, undef, undef, undef, undef, undef, undef, undef, undef, undef, undef, undef], defers := [] })
   (fun x a' _ X Y row hs hg hr => by
     obtain ⟨Ba, Bb, h1, h2, h3, h4⟩ := hs
     exact ⟨Ba, Bb, h1, blk_own Ba 31 (fun (_ : Unit) => #[.int .i64 x.1.1.x, .int .i64 x.1.1.y]) () X Y row h2 hg (fun r e => (hr r e).2), blk_own Bb 31 (fun (_ : Unit) => #[.int .i64 x.1.2.x, .int .i64 x.1.2.y]) () X Y row h3 hg (fun r e => (hr r e).2), h4⟩)
   ?assign ?body ?done ?stop
 case assign =>
   rintro l2 pre x W K ⟨⟨⟨⟨bQ, bS⟩, bZ⟩, hLW⟩, hB⟩ hK
   gi_wp2
   have hl3 : v2.heap.size + 2 <= W.heap.size := by omega
   exact hK _ _ (((KeepsOthers.alloc _ _).trans (KeepsOthers.alloc _ _)).from _) (KpX.of_below (((Below.refl _ W).alloc (Nat.le_refl _) _).alloc (by simp) _) hl3) ⟨⟨⟨⟨(bQ.alloc _).alloc _, (bS.alloc _).alloc _⟩, (bZ.alloc _).alloc _⟩, by simp; omega⟩, (hB.alloc hB.size _).alloc (by have := hB.size; simp; omega) _⟩ ⟨W.heap.size, W.heap.size + 1, ⟨by omega, by omega⟩, (Blk.new W _ _).alloc _, by have h := Blk.new (W.alloc (.cells #[.int .i64 x.1.1.x, .int .i64 x.1.1.y] 31)) 31 #[.int .i64 x.1.2.x, .int .i64 x.1.2.y]; rwa [World.size_alloc] at h, rfl⟩
 case done =>
   rintro D ys W hD hys ⟨⟨⟨⟨bQ, bS⟩, bZ⟩, hLW⟩, hB⟩ hK
   have hsm := HSM.out ys (by rw [<- vls7_length, hys, egs_length]; exact Nat.le_refl _)
   rw [hys] at bQ hsm
   have HT := Lib.hid (total_any (cov7 r (egs l l.length)).1 (cov7 r (egs l l.length)).2 W hsm.1 (by omega))
   rw [show sumQ (· + ·) (cov7 r (egs l l.length)).1 (ofR (cov7 r (egs l l.length)).2 1) = cvq r l from rfl] at HT
   generalize (cov7 r (egs l l.length)).1 = sq at *
   generalize (cov7 r (egs l l.length)).2 = sk at *
   unfold av7 at HT
   obtain ⟨cq, hcq⟩ : ∃ x, x = cvq r l := ⟨_, rfl⟩
   rw [<- hcq] at HT
   have HCQ := Lib.hid hcq
   clear hcq
   obtain ⟨cn, hcn⟩ : ∃ x, x = qN cq := ⟨_, rfl⟩
   obtain ⟨cd, hcd⟩ : ∃ x, x = qD cq := ⟨_, rfl⟩
   obtain ⟨sn, hsn⟩ : ∃ x, x = qN sq := ⟨_, rfl⟩
   obtain ⟨sd, hsd⟩ : ∃ x, x = qD sq := ⟨_, rfl⟩
   rw [<- hcn, <- hcd, <- hsn, <- hsd] at HT
   rw [<- hsn, <- hsd] at bQ
   have HCN : Hid (qN cq = cn /\ qD cq = cd) := Lib.hid ⟨hcn.symm, hcd.symm⟩
   have y0 := bQ.cell (i := 0) (v := .string sn) rfl
   have y1 := bQ.cell (i := 1) (v := .string sd) rfl
   have y2 := bQ.cell (i := 2) (v := .int .i64 sk) rfl
   have HBZ := Lib.hid bZ; have HKK := Lib.hid hK; have HBB := Lib.hid hB
   have HNE : Hid (D ≠ w.heap.size + 1) := Lib.hid (by rintro rfl; have h := bZ; unfold Blk at h; rw [h] at hK; cases hK)
   have HDL : Hid (D < W.heap.size) := Lib.hid ((Array.getElem?_eq_some_iff.1 hK).1)
   clear hcn hcd hsn hsd hsm hys bQ bS bZ hB hec hk0 hk1 hbW hbS hbZ hk0'
   gi_wp2_with (refine ⟨trivial, ?_⟩; gi_at_call 43; refine (callsIn_wide.2 HT.out).mono ?_; rintro e v5 ⟨rfl, hb5⟩; have bZ5 := HBZ.out.below hb5 HBZ.out.lt; have x0 := bZ5.cell (i := 0) (v := .string ⟨#[]⟩) rfl; have x1 := bZ5.cell (i := 1) (v := .string ⟨#[]⟩) rfl; have x2 := bZ5.frozen 0; have x3 := bZ5.frozen 1)
   have hk5 := (hb5.block D HDL.out).trans HKK.out
   have hKa := (KeepsOthers.setCell v5 ⟨w.heap.size + 1, 0, none⟩ (.string cn)).same D _ hk5 rfl
   have hK' := (KeepsOthers.setCell _ ⟨w.heap.size + 1, 1, none⟩ (.string cd)).same D _ hKa rfl
   refine ⟨by simp, .inl ⟨_, _, rfl, run_takeDeferred hK', ?_⟩⟩
   have bz6 := (bZ5.set 0 (.string cn)).set 1 (.string cd)
   have hc5 := cell_kept (bz6.cell (i := 0) (v := .string cn) rfl) (grownBy_putObj' _ D (.deferred none)) (fun r e => by cases e; exact ⟨_, hK', rfl⟩)
   have hc6 := cell_kept (bz6.cell (i := 1) (v := .string cd) rfl) (grownBy_putObj' _ D (.deferred none)) (fun r e => by cases e; exact ⟨_, hK', rfl⟩)
   refine ⟨.tuple #[.agg #[.string cn, .string cd], .int .i64 0], ?_, by rw [<- HCQ.out, HCN.out.1, HCN.out.2], (((HBB.out.trans (hb5.mono HBB.out.size)).setCell (p := ⟨w.heap.size + 1, 0, none⟩) (by show w.heap.size <= w.heap.size + 1; omega) _).setCell (p := ⟨w.heap.size + 1, 1, none⟩) (by show w.heap.size <= w.heap.size + 1; omega) _).trans (belowK_b (w := w) (Nat.le_refl _) _ D _ _ (by omega) hK' rfl rfl)⟩
   simp [results, Tryz.results18, go_sem, hc5, hc6]
 case stop =>
   rintro D c2 pre W _ _ h _
   exact h.elim
 case body =>
   rintro lq pre x a' W hlq ⟨rr, hrr⟩ ⟨⟨⟨⟨bQ, bS⟩, bZ⟩, hLW⟩, hB⟩ ⟨Ba, Bb, ⟨hBa, hBb⟩, kA, kB, rfl⟩ hlt
   have hok := egs_ok HOK.out (Nat.le_refl _) x.1 x.2
   have hsm := HSM.out pre (Nat.le_of_lt hlt)
   have hsn := cov7_snoc r (vls7 pre) x.1
   rw [<- vls7_snoc] at hsn
   have HST := Lib.hid hsn
   have ZA := kA.cell (i := 0) (v := .int .i64 x.1.1.x) rfl; have ZB := kB.cell (i := 0) (v := .int .i64 x.1.2.x) rfl
   have HB1 := Lib.hid hB; have HBQ := Lib.hid bQ; have HBS := Lib.hid bS; have HBZ := Lib.hid bZ; have HKA := Lib.hid kA; have HKB := Lib.hid kB; have HLW := Lib.hid hLW
   have hA1 : Ba ≠ v2.heap.size := by omega
   have hA2 : Bb ≠ v2.heap.size := by omega
   have hA3 : w.heap.size ≠ v2.heap.size := by omega
   have HA1 := Lib.hid hA1; have HA2 := Lib.hid hA2; have HA3 := Lib.hid hA3; have HBA := Lib.hid hBa; have HBB := Lib.hid hBb
   have HWV := Lib.hid hwv; have HSZ := Lib.hid hsz
   by_cases hlx : x.1.1.x < x.1.2.x
   case pos =>
     have hfit := abv7_fit hok.1 hok.2 HR.out (by omega)
     have HAB := Lib.hid (fun W => above_any x.1.1 x.1.2 r W hok.1 hok.2 HR.out (by omega))
     have HPL := Lib.hid (fun W => minus_any (cov7 r (vls7 pre)).1 (cov7 r (vls7 pre)).2 (abv7 x.1.1 x.1.2 r).1 (abv7 x.1.1 x.1.2 r).2 W hsm.1 (by omega) hfit.1 hfit.2)
     have HNW : Hid (cov7 r (vls7 (pre ++ [x])) = pls7 ((cov7 r (vls7 pre)).1, (cov7 r (vls7 pre)).2) (-(abv7 x.1.1 x.1.2 r).1) (abv7 x.1.1 x.1.2 r).2) := Lib.hid (by rw [HST.out]; unfold stp7; rw [if_pos hlx])
     generalize pls7 ((cov7 r (vls7 pre)).1, (cov7 r (vls7 pre)).2) (-(abv7 x.1.1 x.1.2 r).1) (abv7 x.1.1 x.1.2 r).2 = nw at *
     obtain ⟨nq, nk⟩ := nw
     generalize (abv7 x.1.1 x.1.2 r).1 = an at *
     generalize (abv7 x.1.1 x.1.2 r).2 = ad at *
     generalize (cov7 r (vls7 pre)).1 = sq at *
     generalize (cov7 r (vls7 pre)).2 = sk at *
     unfold av7 at HPL
     simp only at HPL
     obtain ⟨sn, hsn'⟩ : ∃ x, x = qN sq := ⟨_, rfl⟩
     obtain ⟨sd, hsd'⟩ : ∃ x, x = qD sq := ⟨_, rfl⟩
     obtain ⟨nn, hnn⟩ : ∃ x, x = qN nq := ⟨_, rfl⟩
     obtain ⟨nd, hnd⟩ : ∃ x, x = qD nq := ⟨_, rfl⟩
     rw [<- hsn', <- hsd', <- hnn, <- hnd] at HPL
     rw [<- hsn', <- hsd'] at HBQ
     have HNV : Hid ((#[.string nn, .string nd, .int .i64 nk] : Array Value) = #[.string (qN (cov7 r (vls7 (pre ++ [x]))).1), .string (qD (cov7 r (vls7 (pre ++ [x]))).1), .int .i64 (cov7 r (vls7 (pre ++ [x]))).2]) := Lib.hid (by rw [HNW.out, hnn, hnd])
     clear hfit hok hsm hsn hlt hrr hB bQ bS bZ kA kB hLW hBa hBb hec hk0 hk1 hbW hbS hbZ hk0' hA1 hA2 hA3 hwv hsz hbw hlq rr hsn' hsd' hnn hnd HNW
     gi_wp2_with fail
     clear ZA ZB
     refine wpIn_region_growF (S := (fun w' => w'.cell? ⟨Ba, 0, none⟩ = some (.int .i64 x.1.1.x) /\ w'.cell? ⟨Ba, 1, none⟩ = some (.int .i64 x.1.1.y) /\ w'.cell? ⟨Bb, 0, none⟩ = some (.int .i64 x.1.2.x) /\ w'.cell? ⟨Bb, 1, none⟩ = some (.int .i64 x.1.2.y) /\ w'.cell? ⟨w.heap.size, 0, none⟩ = some (.int .i64 r.x) /\ w'.cell? ⟨w.heap.size, 1, none⟩ = some (.int .i64 r.y) /\ w'.cell? ⟨w.heap.size, 2, none⟩ = some (.int .i64 r.w) /\ w'.cell? ⟨w.heap.size, 3, none⟩ = some (.int .i64 r.h))) ((fun w' => Below W.heap.size W w' /\ Blk w' v2.heap.size 69 #[.string sn, .string sd, .int .i64 sk])) (by kernel_rfl) (⟨fun w2 h2 => ⟨(HKA.out.below h2.1 HKA.out.lt).cell (i := 0) (v := .int .i64 x.1.1.x) rfl, (HKA.out.below h2.1 HKA.out.lt).cell (i := 1) (v := .int .i64 x.1.1.y) rfl, (HKB.out.below h2.1 HKB.out.lt).cell (i := 0) (v := .int .i64 x.1.2.x) rfl, (HKB.out.below h2.1 HKB.out.lt).cell (i := 1) (v := .int .i64 x.1.2.y) rfl, (HBS.out.below h2.1 HBS.out.lt).cell (i := 0) (v := .int .i64 r.x) rfl, (HBS.out.below h2.1 HBS.out.lt).cell (i := 1) (v := .int .i64 r.y) rfl, (HBS.out.below h2.1 HBS.out.lt).cell (i := 2) (v := .int .i64 r.w) rfl, (HBS.out.below h2.1 HBS.out.lt).cell (i := 3) (v := .int .i64 r.h) rfl⟩, fun w2 w3 h2 hb2 => ⟨h2.1.trans (hb2.mono h2.1.size), h2.2.below hb2 h2.2.lt⟩⟩) (⟨(Below.refl _ _).drew, HBQ.out.drew⟩) (fun hCalm => ?_)
     refine growF_take (by kernel_rfl) 1 (some 29) ?_ rfl rfl (by kernel_rfl) (fun _ _ _ h => h) (by kernel_rfl) hCalm ?_ ?_
     rotate_left
     · intro wS hS; (try dsimp only at hS); go_simp <;> with_reducible rfl
     try simp only [Act.put, q8a, q8b, q8c]
     refine growF_take (by kernel_rfl) 2 (some 30) ?_ rfl rfl (by kernel_rfl) (fun _ _ _ h => h) (by kernel_rfl) hCalm ?_ ?_
     rotate_left
     · intro wS hS; (try dsimp only at hS); go_simp <;> with_reducible rfl
     try simp only [Act.put, q8a, q8b, q8c]
     refine growF_take (by kernel_rfl) 3 (some 31) ?_ rfl rfl (by kernel_rfl) (fun _ _ _ h => h) (by kernel_rfl) hCalm ?_ ?_
     rotate_left
     · intro wS hS; (try dsimp only at hS); go_simp <;> with_reducible rfl
     try simp only [Act.put, q8a, q8b, q8c]
     refine growF_call (by kernel_rfl) 4 (some 32) (.tuple #[.int .i64 an, .int .i64 ad]) 41 [.tmp 29, .tmp 30, .tmp 31] #[31, 31, 39] rfl rfl (by kernel_rfl) (fun _ _ _ h => h) (by kernel_rfl) hCalm rfl (enters_of Tryz.func41 (by kernel_rfl) rfl) (fun wz _ => HAB.out wz) (by kernel_rfl) ?_
     try simp only [Act.put, q8a, q8b, q8c]
     refine growF_take (by kernel_rfl) 5 (some 33) ?_ rfl rfl (by kernel_rfl) (fun _ _ _ h => h) (by kernel_rfl) hCalm ?_ ?_
     rotate_left
     · intro wS hS; (try dsimp only at hS); go_simp <;> with_reducible rfl
     try simp only [Act.put, q8a, q8b, q8c]
     refine growF_take (by kernel_rfl) 6 (some 34) ?_ rfl rfl (by kernel_rfl) (fun _ _ _ h => h) (by kernel_rfl) hCalm ?_ ?_
     rotate_left
     · intro wS hS; (try dsimp only at hS); go_simp <;> with_reducible rfl
     try simp only [Act.put, q8a, q8b, q8c]
     refine growF_each [0] (by kernel_rfl) (by decide) ?_
     refine growF_cons 0 rfl (by kernel_rfl) (fun wA hA K hK => ?_) growF_nil
     have z0 := hA.2.cell (i := 0) (v := .string sn) rfl
     have z1 := hA.2.cell (i := 1) (v := .string sd) rfl
     have z2 := hA.2.cell (i := 2) (v := .int .i64 sk) rfl
     go_simp
     refine hK.out _ _ (fun w' => Below W.heap.size W w' /\ Blk w' v2.heap.size 69 #[.string sn, .string sd, .int .i64 sk]) (⟨fun w2 h2 => ⟨(HKA.out.below h2.1 HKA.out.lt).cell (i := 0) (v := .int .i64 x.1.1.x) rfl, (HKA.out.below h2.1 HKA.out.lt).cell (i := 1) (v := .int .i64 x.1.1.y) rfl, (HKB.out.below h2.1 HKB.out.lt).cell (i := 0) (v := .int .i64 x.1.2.x) rfl, (HKB.out.below h2.1 HKB.out.lt).cell (i := 1) (v := .int .i64 x.1.2.y) rfl, (HBS.out.below h2.1 HBS.out.lt).cell (i := 0) (v := .int .i64 r.x) rfl, (HBS.out.below h2.1 HBS.out.lt).cell (i := 1) (v := .int .i64 r.y) rfl, (HBS.out.below h2.1 HBS.out.lt).cell (i := 2) (v := .int .i64 r.w) rfl, (HBS.out.below h2.1 HBS.out.lt).cell (i := 3) (v := .int .i64 r.h) rfl⟩, fun w2 w3 h2 hb2 => ⟨h2.1.trans (hb2.mono h2.1.size), h2.2.below hb2 h2.2.lt⟩⟩) hA ?_
     clear z0 z1 z2 hK K hA wA hCalm
     have hCalm : Calm (fun w' => w'.cell? ⟨Ba, 0, none⟩ = some (.int .i64 x.1.1.x) /\ w'.cell? ⟨Ba, 1, none⟩ = some (.int .i64 x.1.1.y) /\ w'.cell? ⟨Bb, 0, none⟩ = some (.int .i64 x.1.2.x) /\ w'.cell? ⟨Bb, 1, none⟩ = some (.int .i64 x.1.2.y) /\ w'.cell? ⟨w.heap.size, 0, none⟩ = some (.int .i64 r.x) /\ w'.cell? ⟨w.heap.size, 1, none⟩ = some (.int .i64 r.y) /\ w'.cell? ⟨w.heap.size, 2, none⟩ = some (.int .i64 r.w) /\ w'.cell? ⟨w.heap.size, 3, none⟩ = some (.int .i64 r.h)) (fun w' => Below W.heap.size W w' /\ Blk w' v2.heap.size 69 #[.string sn, .string sd, .int .i64 sk]) := ⟨fun w2 h2 => ⟨(HKA.out.below h2.1 HKA.out.lt).cell (i := 0) (v := .int .i64 x.1.1.x) rfl, (HKA.out.below h2.1 HKA.out.lt).cell (i := 1) (v := .int .i64 x.1.1.y) rfl, (HKB.out.below h2.1 HKB.out.lt).cell (i := 0) (v := .int .i64 x.1.2.x) rfl, (HKB.out.below h2.1 HKB.out.lt).cell (i := 1) (v := .int .i64 x.1.2.y) rfl, (HBS.out.below h2.1 HBS.out.lt).cell (i := 0) (v := .int .i64 r.x) rfl, (HBS.out.below h2.1 HBS.out.lt).cell (i := 1) (v := .int .i64 r.y) rfl, (HBS.out.below h2.1 HBS.out.lt).cell (i := 2) (v := .int .i64 r.w) rfl, (HBS.out.below h2.1 HBS.out.lt).cell (i := 3) (v := .int .i64 r.h) rfl⟩, fun w2 w3 h2 hb2 => ⟨h2.1.trans (hb2.mono h2.1.size), h2.2.below hb2 h2.2.lt⟩⟩
     try simp only [Act.put, q8a, q8b, q8c]
     refine growF_call (by kernel_rfl) 7 (some 35) (.agg #[.string nn, .string nd, .int .i64 nk]) 40 [.tmp 28, .tmp 33, .tmp 34] #[69, 3, 3] rfl rfl (by kernel_rfl) (fun _ _ _ h => h) (by kernel_rfl) hCalm rfl (enters_of Tryz.func40 (by kernel_rfl) rfl) (fun wz _ => HPL.out wz) (by kernel_rfl) ?_
     try simp only [Act.put, q8a, q8b, q8c]
     refine growF_each [8] (by kernel_rfl) (by decide) ?_
     refine growF_cons 8 rfl (by kernel_rfl) (fun wA hA K hK => ?_) growF_nil
     have z0 := hA.2.cell (i := 0) (v := .string sn) rfl; have f0 := hA.2.frozen 0
     have z1 := hA.2.cell (i := 1) (v := .string sd) rfl; have f1 := hA.2.frozen 1
     have z2 := hA.2.cell (i := 2) (v := .int .i64 sk) rfl; have f2 := hA.2.frozen 2
     go_simp
     refine hK.out _ _ (fun w' => (KpX (v2.heap.size) (v2.heap.size + 2) W w' /\ KeepsFrom W0.heap.size W w') /\ (Blk w' v2.heap.size 69 #[.string nn, .string nd, .int .i64 nk] /\ Below w.heap.size w w') /\ w'.cell? ⟨Ba, 0, none⟩ = some (.int .i64 x.1.1.x) /\ w'.cell? ⟨Ba, 1, none⟩ = some (.int .i64 x.1.1.y) /\ w'.cell? ⟨Bb, 0, none⟩ = some (.int .i64 x.1.2.x) /\ w'.cell? ⟨Bb, 1, none⟩ = some (.int .i64 x.1.2.y) /\ w'.cell? ⟨w.heap.size, 0, none⟩ = some (.int .i64 r.x) /\ w'.cell? ⟨w.heap.size, 1, none⟩ = some (.int .i64 r.y) /\ w'.cell? ⟨w.heap.size, 2, none⟩ = some (.int .i64 r.w) /\ w'.cell? ⟨w.heap.size, 3, none⟩ = some (.int .i64 r.h)) (⟨fun w2 h2 => h2.2.2, fun w2 w3 h2 hb2 => ⟨⟨h2.1.1.trans (KpX.of_below hb2 (Nat.le_trans (by have := HLW.out; have := HSZ.out; omega) h2.1.1.1)), h2.1.2.trans (keeps_of_below hb2)⟩, ⟨h2.2.1.1.below hb2 h2.2.1.1.lt, h2.2.1.2.trans (hb2.mono h2.2.1.2.size)⟩, ⟨(World.cell?_of_block (hb2.block _ (cell_lt (h2.2.2.1)))).trans (h2.2.2.1), (World.cell?_of_block (hb2.block _ (cell_lt (h2.2.2.2.1)))).trans (h2.2.2.2.1), (World.cell?_of_block (hb2.block _ (cell_lt (h2.2.2.2.2.1)))).trans (h2.2.2.2.2.1), (World.cell?_of_block (hb2.block _ (cell_lt (h2.2.2.2.2.2.1)))).trans (h2.2.2.2.2.2.1), (World.cell?_of_block (hb2.block _ (cell_lt (h2.2.2.2.2.2.2.1)))).trans (h2.2.2.2.2.2.2.1), (World.cell?_of_block (hb2.block _ (cell_lt (h2.2.2.2.2.2.2.2.1)))).trans (h2.2.2.2.2.2.2.2.1), (World.cell?_of_block (hb2.block _ (cell_lt (h2.2.2.2.2.2.2.2.2.1)))).trans (h2.2.2.2.2.2.2.2.2.1), (World.cell?_of_block (hb2.block _ (cell_lt (h2.2.2.2.2.2.2.2.2.2)))).trans (h2.2.2.2.2.2.2.2.2.2)⟩⟩⟩) ⟨⟨((((KpX.of_below hA.1 ((by have := HLW.out; have := HSZ.out; omega))).trans (KpX.store _ _ _ _ _)).trans (KpX.store _ _ _ _ _)).trans (KpX.store _ _ _ _ _)), ((((keeps_of_below hA.1).trans ((KeepsOthers.setCell _ _ _).from _)).trans ((KeepsOthers.setCell _ _ _).from _)).trans ((KeepsOthers.setCell _ _ _).from _))⟩, ⟨(((hA.2.set 0 _).set 1 _).set 2 _), ((((HB1.out.trans (hA.1.mono HB1.out.size)).setCell (p := ⟨v2.heap.size, 0, none⟩) (by show w.heap.size <= v2.heap.size; have := HWV.out; omega) _).setCell (p := ⟨v2.heap.size, 1, none⟩) (by show w.heap.size <= v2.heap.size; have := HWV.out; omega) _).setCell (p := ⟨v2.heap.size, 2, none⟩) (by show w.heap.size <= v2.heap.size; have := HWV.out; omega) _)⟩, ⟨(cell_far ((cell_far ((cell_far ((HKA.out.below hA.1 HKA.out.lt).cell (i := 0) (v := .int .i64 x.1.1.x) rfl) (p := ⟨v2.heap.size, 0, none⟩) (by first | exact HA1.out | exact HA2.out | exact HA3.out) _)) (p := ⟨v2.heap.size, 1, none⟩) (by first | exact HA1.out | exact HA2.out | exact HA3.out) _)) (p := ⟨v2.heap.size, 2, none⟩) (by first | exact HA1.out | exact HA2.out | exact HA3.out) _), (cell_far ((cell_far ((cell_far ((HKA.out.below hA.1 HKA.out.lt).cell (i := 1) (v := .int .i64 x.1.1.y) rfl) (p := ⟨v2.heap.size, 0, none⟩) (by first | exact HA1.out | exact HA2.out | exact HA3.out) _)) (p := ⟨v2.heap.size, 1, none⟩) (by first | exact HA1.out | exact HA2.out | exact HA3.out) _)) (p := ⟨v2.heap.size, 2, none⟩) (by first | exact HA1.out | exact HA2.out | exact HA3.out) _), (cell_far ((cell_far ((cell_far ((HKB.out.below hA.1 HKB.out.lt).cell (i := 0) (v := .int .i64 x.1.2.x) rfl) (p := ⟨v2.heap.size, 0, none⟩) (by first | exact HA1.out | exact HA2.out | exact HA3.out) _)) (p := ⟨v2.heap.size, 1, none⟩) (by first | exact HA1.out | exact HA2.out | exact HA3.out) _)) (p := ⟨v2.heap.size, 2, none⟩) (by first | exact HA1.out | exact HA2.out | exact HA3.out) _), (cell_far ((cell_far ((cell_far ((HKB.out.below hA.1 HKB.out.lt).cell (i := 1) (v := .int .i64 x.1.2.y) rfl) (p := ⟨v2.heap.size, 0, none⟩) (by first | exact HA1.out | exact HA2.out | exact HA3.out) _)) (p := ⟨v2.heap.size, 1, none⟩) (by first | exact HA1.out | exact HA2.out | exact HA3.out) _)) (p := ⟨v2.heap.size, 2, none⟩) (by first | exact HA1.out | exact HA2.out | exact HA3.out) _), (cell_far ((cell_far ((cell_far ((HBS.out.below hA.1 HBS.out.lt).cell (i := 0) (v := .int .i64 r.x) rfl) (p := ⟨v2.heap.size, 0, none⟩) (by first | exact HA1.out | exact HA2.out | exact HA3.out) _)) (p := ⟨v2.heap.size, 1, none⟩) (by first | exact HA1.out | exact HA2.out | exact HA3.out) _)) (p := ⟨v2.heap.size, 2, none⟩) (by first | exact HA1.out | exact HA2.out | exact HA3.out) _), (cell_far ((cell_far ((cell_far ((HBS.out.below hA.1 HBS.out.lt).cell (i := 1) (v := .int .i64 r.y) rfl) (p := ⟨v2.heap.size, 0, none⟩) (by first | exact HA1.out | exact HA2.out | exact HA3.out) _)) (p := ⟨v2.heap.size, 1, none⟩) (by first | exact HA1.out | exact HA2.out | exact HA3.out) _)) (p := ⟨v2.heap.size, 2, none⟩) (by first | exact HA1.out | exact HA2.out | exact HA3.out) _), (cell_far ((cell_far ((cell_far ((HBS.out.below hA.1 HBS.out.lt).cell (i := 2) (v := .int .i64 r.w) rfl) (p := ⟨v2.heap.size, 0, none⟩) (by first | exact HA1.out | exact HA2.out | exact HA3.out) _)) (p := ⟨v2.heap.size, 1, none⟩) (by first | exact HA1.out | exact HA2.out | exact HA3.out) _)) (p := ⟨v2.heap.size, 2, none⟩) (by first | exact HA1.out | exact HA2.out | exact HA3.out) _), (cell_far ((cell_far ((cell_far ((HBS.out.below hA.1 HBS.out.lt).cell (i := 3) (v := .int .i64 r.h) rfl) (p := ⟨v2.heap.size, 0, none⟩) (by first | exact HA1.out | exact HA2.out | exact HA3.out) _)) (p := ⟨v2.heap.size, 1, none⟩) (by first | exact HA1.out | exact HA2.out | exact HA3.out) _)) (p := ⟨v2.heap.size, 2, none⟩) (by first | exact HA1.out | exact HA2.out | exact HA3.out) _)⟩⟩ ?_
     clear z0 f0 z1 f1 z2 f2 hK K hA wA hCalm
     have hCalm : Calm (fun w' => w'.cell? ⟨Ba, 0, none⟩ = some (.int .i64 x.1.1.x) /\ w'.cell? ⟨Ba, 1, none⟩ = some (.int .i64 x.1.1.y) /\ w'.cell? ⟨Bb, 0, none⟩ = some (.int .i64 x.1.2.x) /\ w'.cell? ⟨Bb, 1, none⟩ = some (.int .i64 x.1.2.y) /\ w'.cell? ⟨w.heap.size, 0, none⟩ = some (.int .i64 r.x) /\ w'.cell? ⟨w.heap.size, 1, none⟩ = some (.int .i64 r.y) /\ w'.cell? ⟨w.heap.size, 2, none⟩ = some (.int .i64 r.w) /\ w'.cell? ⟨w.heap.size, 3, none⟩ = some (.int .i64 r.h)) (fun w' => (KpX (v2.heap.size) (v2.heap.size + 2) W w' /\ KeepsFrom W0.heap.size W w') /\ (Blk w' v2.heap.size 69 #[.string nn, .string nd, .int .i64 nk] /\ Below w.heap.size w w') /\ w'.cell? ⟨Ba, 0, none⟩ = some (.int .i64 x.1.1.x) /\ w'.cell? ⟨Ba, 1, none⟩ = some (.int .i64 x.1.1.y) /\ w'.cell? ⟨Bb, 0, none⟩ = some (.int .i64 x.1.2.x) /\ w'.cell? ⟨Bb, 1, none⟩ = some (.int .i64 x.1.2.y) /\ w'.cell? ⟨w.heap.size, 0, none⟩ = some (.int .i64 r.x) /\ w'.cell? ⟨w.heap.size, 1, none⟩ = some (.int .i64 r.y) /\ w'.cell? ⟨w.heap.size, 2, none⟩ = some (.int .i64 r.w) /\ w'.cell? ⟨w.heap.size, 3, none⟩ = some (.int .i64 r.h)) := ⟨fun w2 h2 => h2.2.2, fun w2 w3 h2 hb2 => ⟨⟨h2.1.1.trans (KpX.of_below hb2 (Nat.le_trans (by have := HLW.out; have := HSZ.out; omega) h2.1.1.1)), h2.1.2.trans (keeps_of_below hb2)⟩, ⟨h2.2.1.1.below hb2 h2.2.1.1.lt, h2.2.1.2.trans (hb2.mono h2.2.1.2.size)⟩, ⟨(World.cell?_of_block (hb2.block _ (cell_lt (h2.2.2.1)))).trans (h2.2.2.1), (World.cell?_of_block (hb2.block _ (cell_lt (h2.2.2.2.1)))).trans (h2.2.2.2.1), (World.cell?_of_block (hb2.block _ (cell_lt (h2.2.2.2.2.1)))).trans (h2.2.2.2.2.1), (World.cell?_of_block (hb2.block _ (cell_lt (h2.2.2.2.2.2.1)))).trans (h2.2.2.2.2.2.1), (World.cell?_of_block (hb2.block _ (cell_lt (h2.2.2.2.2.2.2.1)))).trans (h2.2.2.2.2.2.2.1), (World.cell?_of_block (hb2.block _ (cell_lt (h2.2.2.2.2.2.2.2.1)))).trans (h2.2.2.2.2.2.2.2.1), (World.cell?_of_block (hb2.block _ (cell_lt (h2.2.2.2.2.2.2.2.2.1)))).trans (h2.2.2.2.2.2.2.2.2.1), (World.cell?_of_block (hb2.block _ (cell_lt (h2.2.2.2.2.2.2.2.2.2)))).trans (h2.2.2.2.2.2.2.2.2.2)⟩⟩⟩
     try simp only [Act.put]
     refine growF_done (by kernel_rfl) (fun wA hA => ?_) _
     have hk1 := hA.1.1; have hk2 := hA.1.2; have hk3 := hA.2.1.1; have hk4 := hA.2.1.2
     gi_wp2
     have hw9 := HWV.out; have ha9 := HA3.out
     refine ⟨hk2, hk1, ⟨⟨⟨by rw [<- HNV.out]; exact hk3, ?_⟩, ?_⟩, Nat.le_trans HLW.out hk1.1⟩, hk4⟩
     · exact (hk1.2 _ (by omega) ha9).trans HBS.out
     · exact (hk1.2 _ (by omega) (by omega)).trans HBZ.out
   case neg =>
     have hfit := abv7_fit hok.2 hok.1 HR.out (by omega)
     have HAB := Lib.hid (fun W => above_any x.1.2 x.1.1 r W hok.2 hok.1 HR.out (by omega))
     have HPL := Lib.hid (fun W => plus_any (cov7 r (vls7 pre)).1 (cov7 r (vls7 pre)).2 (abv7 x.1.2 x.1.1 r).1 (abv7 x.1.2 x.1.1 r).2 W hsm.1 (by omega) hfit.1 hfit.2)
     have HNW : Hid (cov7 r (vls7 (pre ++ [x])) = pls7 ((cov7 r (vls7 pre)).1, (cov7 r (vls7 pre)).2) ((abv7 x.1.2 x.1.1 r).1) (abv7 x.1.2 x.1.1 r).2) := Lib.hid (by rw [HST.out]; unfold stp7; rw [if_neg hlx])
     generalize pls7 ((cov7 r (vls7 pre)).1, (cov7 r (vls7 pre)).2) ((abv7 x.1.2 x.1.1 r).1) (abv7 x.1.2 x.1.1 r).2 = nw at *
     obtain ⟨nq, nk⟩ := nw
     generalize (abv7 x.1.2 x.1.1 r).1 = an at *
     generalize (abv7 x.1.2 x.1.1 r).2 = ad at *
     generalize (cov7 r (vls7 pre)).1 = sq at *
     generalize (cov7 r (vls7 pre)).2 = sk at *
     unfold av7 at HPL
     simp only at HPL
     obtain ⟨sn, hsn'⟩ : ∃ x, x = qN sq := ⟨_, rfl⟩
     obtain ⟨sd, hsd'⟩ : ∃ x, x = qD sq := ⟨_, rfl⟩
     obtain ⟨nn, hnn⟩ : ∃ x, x = qN nq := ⟨_, rfl⟩
     obtain ⟨nd, hnd⟩ : ∃ x, x = qD nq := ⟨_, rfl⟩
     rw [<- hsn', <- hsd', <- hnn, <- hnd] at HPL
     rw [<- hsn', <- hsd'] at HBQ
     have HNV : Hid ((#[.string nn, .string nd, .int .i64 nk] : Array Value) = #[.string (qN (cov7 r (vls7 (pre ++ [x]))).1), .string (qD (cov7 r (vls7 (pre ++ [x]))).1), .int .i64 (cov7 r (vls7 (pre ++ [x]))).2]) := Lib.hid (by rw [HNW.out, hnn, hnd])
     clear hfit hok hsm hsn hlt hrr hB bQ bS bZ kA kB hLW hBa hBb hec hk0 hk1 hbW hbS hbZ hk0' hA1 hA2 hA3 hwv hsz hbw hlq rr hsn' hsd' hnn hnd HNW
     gi_wp2_with fail
     clear ZA ZB
     refine wpIn_region_growF (S := (fun w' => w'.cell? ⟨Ba, 0, none⟩ = some (.int .i64 x.1.1.x) /\ w'.cell? ⟨Ba, 1, none⟩ = some (.int .i64 x.1.1.y) /\ w'.cell? ⟨Bb, 0, none⟩ = some (.int .i64 x.1.2.x) /\ w'.cell? ⟨Bb, 1, none⟩ = some (.int .i64 x.1.2.y) /\ w'.cell? ⟨w.heap.size, 0, none⟩ = some (.int .i64 r.x) /\ w'.cell? ⟨w.heap.size, 1, none⟩ = some (.int .i64 r.y) /\ w'.cell? ⟨w.heap.size, 2, none⟩ = some (.int .i64 r.w) /\ w'.cell? ⟨w.heap.size, 3, none⟩ = some (.int .i64 r.h))) ((fun w' => Below W.heap.size W w' /\ Blk w' v2.heap.size 69 #[.string sn, .string sd, .int .i64 sk])) (by kernel_rfl) (⟨fun w2 h2 => ⟨(HKA.out.below h2.1 HKA.out.lt).cell (i := 0) (v := .int .i64 x.1.1.x) rfl, (HKA.out.below h2.1 HKA.out.lt).cell (i := 1) (v := .int .i64 x.1.1.y) rfl, (HKB.out.below h2.1 HKB.out.lt).cell (i := 0) (v := .int .i64 x.1.2.x) rfl, (HKB.out.below h2.1 HKB.out.lt).cell (i := 1) (v := .int .i64 x.1.2.y) rfl, (HBS.out.below h2.1 HBS.out.lt).cell (i := 0) (v := .int .i64 r.x) rfl, (HBS.out.below h2.1 HBS.out.lt).cell (i := 1) (v := .int .i64 r.y) rfl, (HBS.out.below h2.1 HBS.out.lt).cell (i := 2) (v := .int .i64 r.w) rfl, (HBS.out.below h2.1 HBS.out.lt).cell (i := 3) (v := .int .i64 r.h) rfl⟩, fun w2 w3 h2 hb2 => ⟨h2.1.trans (hb2.mono h2.1.size), h2.2.below hb2 h2.2.lt⟩⟩) (⟨(Below.refl _ _).drew, HBQ.out.drew⟩) (fun hCalm => ?_)
     refine growF_take (by kernel_rfl) 1 (some 37) ?_ rfl rfl (by kernel_rfl) (fun _ _ _ h => h) (by kernel_rfl) hCalm ?_ ?_
     rotate_left
     · intro wS hS; (try dsimp only at hS); go_simp <;> with_reducible rfl
     try simp only [Act.put, q8a, q8b, q8c]
     refine growF_take (by kernel_rfl) 2 (some 38) ?_ rfl rfl (by kernel_rfl) (fun _ _ _ h => h) (by kernel_rfl) hCalm ?_ ?_
     rotate_left
     · intro wS hS; (try dsimp only at hS); go_simp <;> with_reducible rfl
     try simp only [Act.put, q8a, q8b, q8c]
     refine growF_take (by kernel_rfl) 3 (some 39) ?_ rfl rfl (by kernel_rfl) (fun _ _ _ h => h) (by kernel_rfl) hCalm ?_ ?_
     rotate_left
     · intro wS hS; (try dsimp only at hS); go_simp <;> with_reducible rfl
     try simp only [Act.put, q8a, q8b, q8c]
     refine growF_call (by kernel_rfl) 4 (some 40) (.tuple #[.int .i64 an, .int .i64 ad]) 41 [.tmp 37, .tmp 38, .tmp 39] #[31, 31, 39] rfl rfl (by kernel_rfl) (fun _ _ _ h => h) (by kernel_rfl) hCalm rfl (enters_of Tryz.func41 (by kernel_rfl) rfl) (fun wz _ => HAB.out wz) (by kernel_rfl) ?_
     try simp only [Act.put, q8a, q8b, q8c]
     refine growF_take (by kernel_rfl) 5 (some 41) ?_ rfl rfl (by kernel_rfl) (fun _ _ _ h => h) (by kernel_rfl) hCalm ?_ ?_
     rotate_left
     · intro wS hS; (try dsimp only at hS); go_simp <;> with_reducible rfl
     try simp only [Act.put, q8a, q8b, q8c]
     refine growF_take (by kernel_rfl) 6 (some 42) ?_ rfl rfl (by kernel_rfl) (fun _ _ _ h => h) (by kernel_rfl) hCalm ?_ ?_
     rotate_left
     · intro wS hS; (try dsimp only at hS); go_simp <;> with_reducible rfl
     try simp only [Act.put, q8a, q8b, q8c]
     refine growF_each [0] (by kernel_rfl) (by decide) ?_
     refine growF_cons 0 rfl (by kernel_rfl) (fun wA hA K hK => ?_) growF_nil
     have z0 := hA.2.cell (i := 0) (v := .string sn) rfl
     have z1 := hA.2.cell (i := 1) (v := .string sd) rfl
     have z2 := hA.2.cell (i := 2) (v := .int .i64 sk) rfl
     go_simp
     refine hK.out _ _ (fun w' => Below W.heap.size W w' /\ Blk w' v2.heap.size 69 #[.string sn, .string sd, .int .i64 sk]) (⟨fun w2 h2 => ⟨(HKA.out.below h2.1 HKA.out.lt).cell (i := 0) (v := .int .i64 x.1.1.x) rfl, (HKA.out.below h2.1 HKA.out.lt).cell (i := 1) (v := .int .i64 x.1.1.y) rfl, (HKB.out.below h2.1 HKB.out.lt).cell (i := 0) (v := .int .i64 x.1.2.x) rfl, (HKB.out.below h2.1 HKB.out.lt).cell (i := 1) (v := .int .i64 x.1.2.y) rfl, (HBS.out.below h2.1 HBS.out.lt).cell (i := 0) (v := .int .i64 r.x) rfl, (HBS.out.below h2.1 HBS.out.lt).cell (i := 1) (v := .int .i64 r.y) rfl, (HBS.out.below h2.1 HBS.out.lt).cell (i := 2) (v := .int .i64 r.w) rfl, (HBS.out.below h2.1 HBS.out.lt).cell (i := 3) (v := .int .i64 r.h) rfl⟩, fun w2 w3 h2 hb2 => ⟨h2.1.trans (hb2.mono h2.1.size), h2.2.below hb2 h2.2.lt⟩⟩) hA ?_
     clear z0 z1 z2 hK K hA wA hCalm
     have hCalm : Calm (fun w' => w'.cell? ⟨Ba, 0, none⟩ = some (.int .i64 x.1.1.x) /\ w'.cell? ⟨Ba, 1, none⟩ = some (.int .i64 x.1.1.y) /\ w'.cell? ⟨Bb, 0, none⟩ = some (.int .i64 x.1.2.x) /\ w'.cell? ⟨Bb, 1, none⟩ = some (.int .i64 x.1.2.y) /\ w'.cell? ⟨w.heap.size, 0, none⟩ = some (.int .i64 r.x) /\ w'.cell? ⟨w.heap.size, 1, none⟩ = some (.int .i64 r.y) /\ w'.cell? ⟨w.heap.size, 2, none⟩ = some (.int .i64 r.w) /\ w'.cell? ⟨w.heap.size, 3, none⟩ = some (.int .i64 r.h)) (fun w' => Below W.heap.size W w' /\ Blk w' v2.heap.size 69 #[.string sn, .string sd, .int .i64 sk]) := ⟨fun w2 h2 => ⟨(HKA.out.below h2.1 HKA.out.lt).cell (i := 0) (v := .int .i64 x.1.1.x) rfl, (HKA.out.below h2.1 HKA.out.lt).cell (i := 1) (v := .int .i64 x.1.1.y) rfl, (HKB.out.below h2.1 HKB.out.lt).cell (i := 0) (v := .int .i64 x.1.2.x) rfl, (HKB.out.below h2.1 HKB.out.lt).cell (i := 1) (v := .int .i64 x.1.2.y) rfl, (HBS.out.below h2.1 HBS.out.lt).cell (i := 0) (v := .int .i64 r.x) rfl, (HBS.out.below h2.1 HBS.out.lt).cell (i := 1) (v := .int .i64 r.y) rfl, (HBS.out.below h2.1 HBS.out.lt).cell (i := 2) (v := .int .i64 r.w) rfl, (HBS.out.below h2.1 HBS.out.lt).cell (i := 3) (v := .int .i64 r.h) rfl⟩, fun w2 w3 h2 hb2 => ⟨h2.1.trans (hb2.mono h2.1.size), h2.2.below hb2 h2.2.lt⟩⟩
     try simp only [Act.put, q8a, q8b, q8c]
     refine growF_call (by kernel_rfl) 7 (some 43) (.agg #[.string nn, .string nd, .int .i64 nk]) 42 [.tmp 36, .tmp 41, .tmp 42] #[69, 3, 3] rfl rfl (by kernel_rfl) (fun _ _ _ h => h) (by kernel_rfl) hCalm rfl (enters_of Tryz.func42 (by kernel_rfl) rfl) (fun wz _ => HPL.out wz) (by kernel_rfl) ?_
     try simp only [Act.put, q8a, q8b, q8c]
     refine growF_each [8] (by kernel_rfl) (by decide) ?_
     refine growF_cons 8 rfl (by kernel_rfl) (fun wA hA K hK => ?_) growF_nil
     have z0 := hA.2.cell (i := 0) (v := .string sn) rfl; have f0 := hA.2.frozen 0
     have z1 := hA.2.cell (i := 1) (v := .string sd) rfl; have f1 := hA.2.frozen 1
     have z2 := hA.2.cell (i := 2) (v := .int .i64 sk) rfl; have f2 := hA.2.frozen 2
     go_simp
     refine hK.out _ _ (fun w' => (KpX (v2.heap.size) (v2.heap.size + 2) W w' /\ KeepsFrom W0.heap.size W w') /\ (Blk w' v2.heap.size 69 #[.string nn, .string nd, .int .i64 nk] /\ Below w.heap.size w w') /\ w'.cell? ⟨Ba, 0, none⟩ = some (.int .i64 x.1.1.x) /\ w'.cell? ⟨Ba, 1, none⟩ = some (.int .i64 x.1.1.y) /\ w'.cell? ⟨Bb, 0, none⟩ = some (.int .i64 x.1.2.x) /\ w'.cell? ⟨Bb, 1, none⟩ = some (.int .i64 x.1.2.y) /\ w'.cell? ⟨w.heap.size, 0, none⟩ = some (.int .i64 r.x) /\ w'.cell? ⟨w.heap.size, 1, none⟩ = some (.int .i64 r.y) /\ w'.cell? ⟨w.heap.size, 2, none⟩ = some (.int .i64 r.w) /\ w'.cell? ⟨w.heap.size, 3, none⟩ = some (.int .i64 r.h)) (⟨fun w2 h2 => h2.2.2, fun w2 w3 h2 hb2 => ⟨⟨h2.1.1.trans (KpX.of_below hb2 (Nat.le_trans (by have := HLW.out; have := HSZ.out; omega) h2.1.1.1)), h2.1.2.trans (keeps_of_below hb2)⟩, ⟨h2.2.1.1.below hb2 h2.2.1.1.lt, h2.2.1.2.trans (hb2.mono h2.2.1.2.size)⟩, ⟨(World.cell?_of_block (hb2.block _ (cell_lt (h2.2.2.1)))).trans (h2.2.2.1), (World.cell?_of_block (hb2.block _ (cell_lt (h2.2.2.2.1)))).trans (h2.2.2.2.1), (World.cell?_of_block (hb2.block _ (cell_lt (h2.2.2.2.2.1)))).trans (h2.2.2.2.2.1), (World.cell?_of_block (hb2.block _ (cell_lt (h2.2.2.2.2.2.1)))).trans (h2.2.2.2.2.2.1), (World.cell?_of_block (hb2.block _ (cell_lt (h2.2.2.2.2.2.2.1)))).trans (h2.2.2.2.2.2.2.1), (World.cell?_of_block (hb2.block _ (cell_lt (h2.2.2.2.2.2.2.2.1)))).trans (h2.2.2.2.2.2.2.2.1), (World.cell?_of_block (hb2.block _ (cell_lt (h2.2.2.2.2.2.2.2.2.1)))).trans (h2.2.2.2.2.2.2.2.2.1), (World.cell?_of_block (hb2.block _ (cell_lt (h2.2.2.2.2.2.2.2.2.2)))).trans (h2.2.2.2.2.2.2.2.2.2)⟩⟩⟩) ⟨⟨((((KpX.of_below hA.1 ((by have := HLW.out; have := HSZ.out; omega))).trans (KpX.store _ _ _ _ _)).trans (KpX.store _ _ _ _ _)).trans (KpX.store _ _ _ _ _)), ((((keeps_of_below hA.1).trans ((KeepsOthers.setCell _ _ _).from _)).trans ((KeepsOthers.setCell _ _ _).from _)).trans ((KeepsOthers.setCell _ _ _).from _))⟩, ⟨(((hA.2.set 0 _).set 1 _).set 2 _), ((((HB1.out.trans (hA.1.mono HB1.out.size)).setCell (p := ⟨v2.heap.size, 0, none⟩) (by show w.heap.size <= v2.heap.size; have := HWV.out; omega) _).setCell (p := ⟨v2.heap.size, 1, none⟩) (by show w.heap.size <= v2.heap.size; have := HWV.out; omega) _).setCell (p := ⟨v2.heap.size, 2, none⟩) (by show w.heap.size <= v2.heap.size; have := HWV.out; omega) _)⟩, ⟨(cell_far ((cell_far ((cell_far ((HKA.out.below hA.1 HKA.out.lt).cell (i := 0) (v := .int .i64 x.1.1.x) rfl) (p := ⟨v2.heap.size, 0, none⟩) (by first | exact HA1.out | exact HA2.out | exact HA3.out) _)) (p := ⟨v2.heap.size, 1, none⟩) (by first | exact HA1.out | exact HA2.out | exact HA3.out) _)) (p := ⟨v2.heap.size, 2, none⟩) (by first | exact HA1.out | exact HA2.out | exact HA3.out) _), (cell_far ((cell_far ((cell_far ((HKA.out.below hA.1 HKA.out.lt).cell (i := 1) (v := .int .i64 x.1.1.y) rfl) (p := ⟨v2.heap.size, 0, none⟩) (by first | exact HA1.out | exact HA2.out | exact HA3.out) _)) (p := ⟨v2.heap.size, 1, none⟩) (by first | exact HA1.out | exact HA2.out | exact HA3.out) _)) (p := ⟨v2.heap.size, 2, none⟩) (by first | exact HA1.out | exact HA2.out | exact HA3.out) _), (cell_far ((cell_far ((cell_far ((HKB.out.below hA.1 HKB.out.lt).cell (i := 0) (v := .int .i64 x.1.2.x) rfl) (p := ⟨v2.heap.size, 0, none⟩) (by first | exact HA1.out | exact HA2.out | exact HA3.out) _)) (p := ⟨v2.heap.size, 1, none⟩) (by first | exact HA1.out | exact HA2.out | exact HA3.out) _)) (p := ⟨v2.heap.size, 2, none⟩) (by first | exact HA1.out | exact HA2.out | exact HA3.out) _), (cell_far ((cell_far ((cell_far ((HKB.out.below hA.1 HKB.out.lt).cell (i := 1) (v := .int .i64 x.1.2.y) rfl) (p := ⟨v2.heap.size, 0, none⟩) (by first | exact HA1.out | exact HA2.out | exact HA3.out) _)) (p := ⟨v2.heap.size, 1, none⟩) (by first | exact HA1.out | exact HA2.out | exact HA3.out) _)) (p := ⟨v2.heap.size, 2, none⟩) (by first | exact HA1.out | exact HA2.out | exact HA3.out) _), (cell_far ((cell_far ((cell_far ((HBS.out.below hA.1 HBS.out.lt).cell (i := 0) (v := .int .i64 r.x) rfl) (p := ⟨v2.heap.size, 0, none⟩) (by first | exact HA1.out | exact HA2.out | exact HA3.out) _)) (p := ⟨v2.heap.size, 1, none⟩) (by first | exact HA1.out | exact HA2.out | exact HA3.out) _)) (p := ⟨v2.heap.size, 2, none⟩) (by first | exact HA1.out | exact HA2.out | exact HA3.out) _), (cell_far ((cell_far ((cell_far ((HBS.out.below hA.1 HBS.out.lt).cell (i := 1) (v := .int .i64 r.y) rfl) (p := ⟨v2.heap.size, 0, none⟩) (by first | exact HA1.out | exact HA2.out | exact HA3.out) _)) (p := ⟨v2.heap.size, 1, none⟩) (by first | exact HA1.out | exact HA2.out | exact HA3.out) _)) (p := ⟨v2.heap.size, 2, none⟩) (by first | exact HA1.out | exact HA2.out | exact HA3.out) _), (cell_far ((cell_far ((cell_far ((HBS.out.below hA.1 HBS.out.lt).cell (i := 2) (v := .int .i64 r.w) rfl) (p := ⟨v2.heap.size, 0, none⟩) (by first | exact HA1.out | exact HA2.out | exact HA3.out) _)) (p := ⟨v2.heap.size, 1, none⟩) (by first | exact HA1.out | exact HA2.out | exact HA3.out) _)) (p := ⟨v2.heap.size, 2, none⟩) (by first | exact HA1.out | exact HA2.out | exact HA3.out) _), (cell_far ((cell_far ((cell_far ((HBS.out.below hA.1 HBS.out.lt).cell (i := 3) (v := .int .i64 r.h) rfl) (p := ⟨v2.heap.size, 0, none⟩) (by first | exact HA1.out | exact HA2.out | exact HA3.out) _)) (p := ⟨v2.heap.size, 1, none⟩) (by first | exact HA1.out | exact HA2.out | exact HA3.out) _)) (p := ⟨v2.heap.size, 2, none⟩) (by first | exact HA1.out | exact HA2.out | exact HA3.out) _)⟩⟩ ?_
     clear z0 f0 z1 f1 z2 f2 hK K hA wA hCalm
     have hCalm : Calm (fun w' => w'.cell? ⟨Ba, 0, none⟩ = some (.int .i64 x.1.1.x) /\ w'.cell? ⟨Ba, 1, none⟩ = some (.int .i64 x.1.1.y) /\ w'.cell? ⟨Bb, 0, none⟩ = some (.int .i64 x.1.2.x) /\ w'.cell? ⟨Bb, 1, none⟩ = some (.int .i64 x.1.2.y) /\ w'.cell? ⟨w.heap.size, 0, none⟩ = some (.int .i64 r.x) /\ w'.cell? ⟨w.heap.size, 1, none⟩ = some (.int .i64 r.y) /\ w'.cell? ⟨w.heap.size, 2, none⟩ = some (.int .i64 r.w) /\ w'.cell? ⟨w.heap.size, 3, none⟩ = some (.int .i64 r.h)) (fun w' => (KpX (v2.heap.size) (v2.heap.size + 2) W w' /\ KeepsFrom W0.heap.size W w') /\ (Blk w' v2.heap.size 69 #[.string nn, .string nd, .int .i64 nk] /\ Below w.heap.size w w') /\ w'.cell? ⟨Ba, 0, none⟩ = some (.int .i64 x.1.1.x) /\ w'.cell? ⟨Ba, 1, none⟩ = some (.int .i64 x.1.1.y) /\ w'.cell? ⟨Bb, 0, none⟩ = some (.int .i64 x.1.2.x) /\ w'.cell? ⟨Bb, 1, none⟩ = some (.int .i64 x.1.2.y) /\ w'.cell? ⟨w.heap.size, 0, none⟩ = some (.int .i64 r.x) /\ w'.cell? ⟨w.heap.size, 1, none⟩ = some (.int .i64 r.y) /\ w'.cell? ⟨w.heap.size, 2, none⟩ = some (.int .i64 r.w) /\ w'.cell? ⟨w.heap.size, 3, none⟩ = some (.int .i64 r.h)) := ⟨fun w2 h2 => h2.2.2, fun w2 w3 h2 hb2 => ⟨⟨h2.1.1.trans (KpX.of_below hb2 (Nat.le_trans (by have := HLW.out; have := HSZ.out; omega) h2.1.1.1)), h2.1.2.trans (keeps_of_below hb2)⟩, ⟨h2.2.1.1.below hb2 h2.2.1.1.lt, h2.2.1.2.trans (hb2.mono h2.2.1.2.size)⟩, ⟨(World.cell?_of_block (hb2.block _ (cell_lt (h2.2.2.1)))).trans (h2.2.2.1), (World.cell?_of_block (hb2.block _ (cell_lt (h2.2.2.2.1)))).trans (h2.2.2.2.1), (World.cell?_of_block (hb2.block _ (cell_lt (h2.2.2.2.2.1)))).trans (h2.2.2.2.2.1), (World.cell?_of_block (hb2.block _ (cell_lt (h2.2.2.2.2.2.1)))).trans (h2.2.2.2.2.2.1), (World.cell?_of_block (hb2.block _ (cell_lt (h2.2.2.2.2.2.2.1)))).trans (h2.2.2.2.2.2.2.1), (World.cell?_of_block (hb2.block _ (cell_lt (h2.2.2.2.2.2.2.2.1)))).trans (h2.2.2.2.2.2.2.2.1), (World.cell?_of_block (hb2.block _ (cell_lt (h2.2.2.2.2.2.2.2.2.1)))).trans (h2.2.2.2.2.2.2.2.2.1), (World.cell?_of_block (hb2.block _ (cell_lt (h2.2.2.2.2.2.2.2.2.2)))).trans (h2.2.2.2.2.2.2.2.2.2)⟩⟩⟩
     try simp only [Act.put]
     refine growF_done (by kernel_rfl) (fun wA hA => ?_) _
     have hk1 := hA.1.1; have hk2 := hA.1.2; have hk3 := hA.2.1.1; have hk4 := hA.2.1.2
     gi_wp2
     have hw9 := HWV.out; have ha9 := HA3.out
     refine ⟨hk2, hk1, ⟨⟨⟨by rw [<- HNV.out]; exact hk3, ?_⟩, ?_⟩, Nat.le_trans HLW.out hk1.1⟩, hk4⟩
     · exact (hk1.2 _ (by omega) ha9).trans HBS.out
     · exact (hk1.2 _ (by omega) (by omega)).trans HBZ.out
end Go.Proofs.YtpjbihfkedbenaaGreat
