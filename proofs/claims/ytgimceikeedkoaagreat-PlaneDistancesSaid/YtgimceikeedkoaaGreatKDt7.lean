/- PlaneDistances answers true. Conditions: ints. -/
import Derived.Test.YtgimceikeedkoaaGreatKSd7
import Derived.Test.YtgimceikeedkoaaGreatGI
namespace Go.Proofs.YtgimceikeedkoaaGreat
open Go.RowKit Go.Lib

theorem cmp_red {n d m c : Int} (hd : 0 < d) (hc : 0 < c) (hs : n.natAbs < 10 ^ 20 ∧ d.natAbs < 10 ^ 20 ∧ m.natAbs < 10 ^ 20 ∧ c.natAbs < 10 ^ 20) :
    ∃ k, (n * c ≤ m * d → k ≤ 0) ∧ (m * d ≤ n * c → 0 ≤ k) ∧ ∀ W, Yl 40 #[.agg #[.string (fn7 n d), .string (fd7 n d)], .agg #[.string (fn7 m c), .string (fd7 m c)]] W (.int .i64 k) := by
  have f1 := fq_red (pow20 hs.1) (pow20 hs.2.1) (show d ≠ 0 by omega)
  have f2 := fq_red (pow20 hs.2.2.1) (pow20 hs.2.2.2) (show c ≠ 0 by omega)
  have h := fun W => fcmp_any (fn7 n d) (fd7 n d) (fn7 m c) (fd7 m c) W (fq_size f1) (fq_size f2)
  rw [show rdQ (fn7 n d).data.toList (fd7 n d).data.toList = some (red n d) from fq_rd f1, show rdQ (fn7 m c).data.toList (fd7 m c).data.toList = some (red m c) from fq_rd f2] at h
  refine ⟨_, ?_, ?_, h⟩
  · intro hle
    have e1 := red_mul (n := n) (d := d); have e2 := red_mul (n := m) (d := c)
    have g1 : 0 < sgcd n d := by rw [sgcd_pos hd]; have := gpos (n := n) (show d ≠ 0 by omega); omega
    have g2 : 0 < sgcd m c := by rw [sgcd_pos hc]; have := gpos (n := m) (show c ≠ 0 by omega); omega
    unfold cmpQ ordI
    generalize red n d = p at *
    generalize red m c = q at *
    generalize sgcd n d = g at *
    generalize sgcd m c = k at *
    simp only
    have hx : p.1 * q.2 ≤ q.1 * p.2 := by
      refine Int.not_lt.1 fun hlt => ?_
      have h1 : n * c = p.1 * q.2 * (g * k) := by rw [e1.1, e2.2]; grind
      have h2 : m * d = q.1 * p.2 * (g * k) := by rw [e1.2, e2.1]; grind
      have := Int.mul_lt_mul_of_pos_right hlt (Int.mul_pos g1 g2)
      omega
    split
    · omega
    · split <;> omega
  · intro hle
    have e1 := red_mul (n := n) (d := d); have e2 := red_mul (n := m) (d := c)
    have g1 : 0 < sgcd n d := by rw [sgcd_pos hd]; have := gpos (n := n) (show d ≠ 0 by omega); omega
    have g2 : 0 < sgcd m c := by rw [sgcd_pos hc]; have := gpos (n := m) (show c ≠ 0 by omega); omega
    unfold cmpQ ordI
    generalize red n d = p at *
    generalize red m c = q at *
    generalize sgcd n d = g at *
    generalize sgcd m c = k at *
    simp only
    have hx : q.1 * p.2 ≤ p.1 * q.2 := by
      refine Int.not_lt.1 fun hlt => ?_
      have h1 : n * c = p.1 * q.2 * (g * k) := by rw [e1.1, e2.2]; grind
      have h2 : m * d = q.1 * p.2 * (g * k) := by rw [e1.2, e2.1]; grind
      have := Int.mul_lt_mul_of_pos_right hlt (Int.mul_pos g1 g2)
      omega
    split
    · omega
    · split <;> omega
theorem dot7_le {u : P7} (h : (-8190 ≤ u.x ∧ u.x ≤ 8190) ∧ (-8190 ≤ u.y ∧ u.y ≤ 8190)) : 0 ≤ dot7 u u ∧ dot7 u u ≤ 200000000 := by
  have h1 := mul_small (m := 8190) (n := 8190) h.1 h.1; have h2 := mul_small (m := 8190) (n := 8190) h.2 h.2
  have h3 := dot7_nonneg u
  unfold dot7 at h3 ⊢; omega
theorem dq7_small {p a b : P7} (hp : p.ok) (ha : a.ok) (hb : b.ok) : (dq7 p a b).1.natAbs < 10 ^ 20 ∧ (dq7 p a b).2.natAbs < 10 ^ 20 := by
  have k1 := fr7_sm ha hp; have k2 := fr7_sm hb hp; have k3 := fr7_sm ha hb
  have hx := crs7_fit ha hb ha hp
  have g2 : 0 ≤ dot7 (fr7 a p) (fr7 a p) ∧ dot7 (fr7 a p) (fr7 a p) ≤ 200000000 := dot7_le (by unfold P7.ok at hp ha; unfold fr7; simp only; omega)
  have g4 : 0 ≤ dot7 (fr7 b p) (fr7 b p) ∧ dot7 (fr7 b p) (fr7 b p) ≤ 200000000 := dot7_le (by unfold P7.ok at hp hb; unfold fr7; simp only; omega)
  have g5 : 0 ≤ dot7 (fr7 a b) (fr7 a b) ∧ dot7 (fr7 a b) (fr7 a b) ≤ 200000000 := dot7_le (by unfold P7.ok at ha hb; unfold fr7; simp only; omega)
  have hxx := mul_small (m := 40000000) (n := 40000000) hx hx
  unfold dq7
  split
  · simp only; omega
  · split
    · simp only; omega
    · simp only; omega
theorem zS_zero7 {x : Int} (h : x.natAbs < 10 ^ 200) (e : zS x = zS 0) : x = 0 := by
  have h1 := zS_rd h
  rw [e, zS_rd (show (0 : Int).natAbs < 10 ^ 200 from pow20 (by decide))] at h1
  exact (Option.some.inj h1).symm
set_option maxRecDepth 100000 in
set_option maxHeartbeats 32000000 in
theorem plane_distances (a0 a1 a2 a3 a4 a5 u v : Int) (w : World) (h0 : I64 a0) (h1 : I64 a1) (h2 : I64 a2) (h3 : I64 a3) (h4 : I64 a4) (h5 : I64 a5) (hu : I64 u) (hv : I64 v) : Yl 7 #[.agg #[.int .i64 a0, .int .i64 a1, .int .i64 a2, .int .i64 a3, .int .i64 a4, .int .i64 a5], .agg #[.int .i64 u, .int .i64 v]] w (.bool true) := by
  have HSN := Lib.hid sane7_any
  have HPA := Lib.hid (fun W => rplace7_any a0 a1 W h0 h1); have HPB := Lib.hid (fun W => rplace7_any a2 a3 W h2 h3); have HPC := Lib.hid (fun W => rplace7_any a4 a5 W h4 h5)
  have ka := plc7_ok a0 a1; have kb := plc7_ok a2 a3; have kc := plc7_ok a4 a5
  have ma := mv7_ok a0 a1 u v; have mb := mv7_ok a2 a3 u v; have mc := mv7_ok a4 a5 u v
  generalize plc7 a0 a1 = p at *
  generalize plc7 a2 a3 = a at *
  generalize plc7 a4 a5 = b at *
  have HMA := Lib.hid (fun W => moved_any p u v W ka.sm hu hv); have HMB := Lib.hid (fun W => moved_any a u v W kb.sm hu hv); have HMC := Lib.hid (fun W => moved_any b u v W kc.sm hu hv)
  have HD1 := Lib.hid (fun W => dist_yes p a b W ka kb kc); have HD2 := Lib.hid (fun W => dist_yes p b a W ka kc kb); have HD4 := Lib.hid (fun W => dist_yes p a a W ka kb kb); have HD5 := Lib.hid (fun W => dist_yes p b b W ka kc kc)
  have HD3 := Lib.hid (fun W => dist_yes (mv7 p (pk7 u 1000) (pk7 v 1000)) (mv7 a (pk7 u 1000) (pk7 v 1000)) (mv7 b (pk7 u 1000) (pk7 v 1000)) W ma mb mc)
  rw [dq7_moved] at HD3
  rw [← dq7_back p a b] at HD2
  rw [dq7_same] at HD4 HD5
  generalize mv7 p (pk7 u 1000) (pk7 v 1000) = p' at *
  generalize mv7 a (pk7 u 1000) (pk7 v 1000) = a' at *
  generalize mv7 b (pk7 u 1000) (pk7 v 1000) = b' at *
  have hq := dq7_small ka kb kc
  have hden := dq7_den p a b
  have hnn := dq7_nonneg p a b
  have hle1 := dq7_le p a b
  have hle2 := dq7_le p b a
  rw [← dq7_back p a b] at hle2
  have hon := dq7_on p a b
  rw [← cr7_on ka kb kc] at hon
  have HX := Lib.hid (fun W => cross_any p p a b W)
  generalize cr7 p p a b = x at *
  have g1 : 0 ≤ dot7 (fr7 a p) (fr7 a p) ∧ dot7 (fr7 a p) (fr7 a p) ≤ 200000000 := dot7_le (by unfold P7.ok at ka kb; unfold fr7; simp only; omega)
  have g2 : 0 ≤ dot7 (fr7 b p) (fr7 b p) ∧ dot7 (fr7 b p) (fr7 b p) ≤ 200000000 := dot7_le (by unfold P7.ok at ka kc; unfold fr7; simp only; omega)
  have s1 : (-4095 ≤ p.x - a.x ∧ p.x - a.x ≤ 4095) ∧ (-4095 ≤ p.y - a.y ∧ p.y - a.y ≤ 4095) := by unfold P7.ok at ka kb; omega
  have hdd : dot7 (fr7 a p) (fr7 a p) = (p.x - a.x) * (p.x - a.x) + (p.y - a.y) * (p.y - a.y) := rfl
  obtain ⟨dx, hdx⟩ : ∃ x, x = p.x - a.x := ⟨_, rfl⟩
  obtain ⟨dy, hdy⟩ : ∃ x, x = p.y - a.y := ⟨_, rfl⟩
  have e1 : IntKind.i64.wrap (p.x - a.x) = dx := by rw [hdx]; exact IntWalk.i64_in _ (by omega)
  have e2 : IntKind.i64.wrap (p.y - a.y) = dy := by rw [hdy]; exact IntWalk.i64_in _ (by omega)
  rw [← hdx, ← hdy] at hdd s1
  have p1 := mul_small (m := 4095) (n := 4095) s1.1 s1.1
  have p2 := mul_small (m := 4095) (n := 4095) s1.2 s1.2
  obtain ⟨xx, hxx⟩ : ∃ x, x = dx * dx := ⟨_, rfl⟩
  obtain ⟨yy, hyy⟩ : ∃ x, x = dy * dy := ⟨_, rfl⟩
  rw [← hxx, ← hyy] at hdd
  rw [← hxx] at p1
  rw [← hyy] at p2
  have e3 : IntKind.i64.wrap (dx * dx) = xx := by rw [hxx]; exact IntWalk.i64_in _ (by omega)
  have e4 : IntKind.i64.wrap (dy * dy) = yy := by rw [hyy]; exact IntWalk.i64_in _ (by omega)
  generalize dot7 (fr7 a p) (fr7 a p) = D1 at *
  generalize dot7 (fr7 b p) (fr7 b p) = D2 at *
  have e5 : IntKind.i64.wrap (xx + yy) = D1 := by rw [hdd]; exact IntWalk.i64_in _ (by omega)
  generalize dq7 p a b = nd at *
  obtain ⟨N, D⟩ := nd
  dsimp only at *
  obtain ⟨k1, _, hk1, HC1⟩ := cmp_red (n := N) (d := D) (m := 0) (c := 1) hden (by omega) ⟨hq.1, hq.2, by decide, by decide⟩
  obtain ⟨k2, hk2, _, HC2⟩ := cmp_red (n := N) (d := D) (m := D1) (c := 1) hden (by omega) ⟨hq.1, hq.2, by omega, by decide⟩
  obtain ⟨k3, hk3, _, HC3⟩ := cmp_red (n := N) (d := D) (m := D2) (c := 1) hden (by omega) ⟨hq.1, hq.2, by omega, by decide⟩
  have c1 : 0 ≤ k1 := hk1 (by omega)
  have c2 : k2 ≤ 0 := hk2 (by omega)
  have c3 : k3 ≤ 0 := hk3 (by omega)
  have HC1 := Lib.hid HC1; have HC2 := Lib.hid HC2; have HC3 := Lib.hid HC3
  have HZ := Lib.hid (fun W => ratio_yes 0 1 W (by decide) (by decide) (by decide)); have HP1 := Lib.hid (fun W => ratio_yes D1 1 W (by omega) (by decide) (by decide))
  have hz1 : x = true → fn7 N D = fn7 0 1 ∧ fd7 N D = fd7 0 1 := fun h => by
    have h2 := hon.2 h
    have h3 : red N D = red 0 1 := by rw [h2]; exact (red_eq (by omega) (by omega)).2 (by omega)
    unfold fn7 fd7
    rw [h3]; exact ⟨rfl, rfl⟩
  have hz2 : x = false → (fn7 N D).toList ≠ (fn7 0 1).toList := fun h e => by
    have h1 : ∀ x y : ByteArray, x.toList = y.toList → x = y := fun x y h => by
      rw [toList_data, toList_data] at h
      rw [← bs_self x, h, bs_self]
    have h2 := zS_zero7 (Nat.lt_of_le_of_lt (red_abs (n := N) (d := D) (by omega)).1 (pow20 hq.1)) (h1 _ _ e)
    have h3 := red_mul (n := N) (d := D)
    rw [h2, Int.zero_mul] at h3
    have := hon.1 h3.1
    rw [h] at this; cases this
  generalize fn7 N D = sn at *
  generalize fd7 N D = sd at *
  generalize fn7 0 1 = z1 at *
  generalize fd7 0 1 = z2 at *
  generalize fn7 D1 1 = o1 at *
  generalize fd7 D1 1 = o2 at *
  generalize fn7 D2 1 = q1 at *
  generalize fd7 D2 1 = q2 at *
  have HY1 := Lib.hid hz1; have HY2 := Lib.hid hz2
  clear hz1 hz2 hon hq hden hnn hle1 hle2 hk1 hk2 hk3 g1 g2 s1 hdd hdx hdy p1 p2 hxx hyy ka kb kc ma mb mc h0 h1 h2 h3 h4 h5 hu hv
  have X_0 : Hid (Blk ((w.alloc (.cells #[.int .i64 a0, .int .i64 a1, .int .i64 a2, .int .i64 a3, .int .i64 a4, .int .i64 a5] 56)).alloc (.cells #[.int .i64 u, .int .i64 v] 55)) w.heap.size 56 #[.int .i64 a0, .int .i64 a1, .int .i64 a2, .int .i64 a3, .int .i64 a4, .int .i64 a5]) := allocs_blk [(#[.int .i64 a0, .int .i64 a1, .int .i64 a2, .int .i64 a3, .int .i64 a4, .int .i64 a5], 56), (#[.int .i64 u, .int .i64 v], 55)] w 0 _ rfl
  have Y_0 : Hid (Blk ((w.alloc (.cells #[.int .i64 a0, .int .i64 a1, .int .i64 a2, .int .i64 a3, .int .i64 a4, .int .i64 a5] 56)).alloc (.cells #[.int .i64 u, .int .i64 v] 55)) (w.heap.size + 1) 55 #[.int .i64 u, .int .i64 v]) := allocs_blk [(#[.int .i64 a0, .int .i64 a1, .int .i64 a2, .int .i64 a3, .int .i64 a4, .int .i64 a5], 56), (#[.int .i64 u, .int .i64 v], 55)] w 1 _ rfl
  have HB_0 : Hid (Below w.heap.size w ((w.alloc (.cells #[.int .i64 a0, .int .i64 a1, .int .i64 a2, .int .i64 a3, .int .i64 a4, .int .i64 a5] 56)).alloc (.cells #[.int .i64 u, .int .i64 v] 55))) := allocs_below [(#[.int .i64 a0, .int .i64 a1, .int .i64 a2, .int .i64 a3, .int .i64 a4, .int .i64 a5], 56), (#[.int .i64 u, .int .i64 v], 55)] w (Below.refl w.heap.size w) (Nat.le_refl _)
  go_enter Tryz.func7, Tryz.ntmps7
  go_wp2_with fail
  refine (HSN.out _).mono ?_
  rintro e v0 ⟨rfl, hb⟩
  have X_1 : Hid (Blk v0 w.heap.size 56 #[.int .i64 a0, .int .i64 a1, .int .i64 a2, .int .i64 a3, .int .i64 a4, .int .i64 a5]) := Lib.hid (X_0.out.below hb X_0.out.lt)
  have Y_1 : Hid (Blk v0 (w.heap.size + 1) 55 #[.int .i64 u, .int .i64 v]) := Lib.hid (Y_0.out.below hb Y_0.out.lt)
  have HB_1 : Hid (Below w.heap.size w v0) := Lib.hid (HB_0.out.trans (hb.mono HB_0.out.size))
  clear hb X_0 Y_0 HB_0
  have yy0 := X_1.out.cell (i := 0) (v := .int .i64 a0) rfl; have yy1 := X_1.out.cell (i := 1) (v := .int .i64 a1) rfl; have yy2 := X_1.out.cell (i := 2) (v := .int .i64 a2) rfl; have yy3 := X_1.out.cell (i := 3) (v := .int .i64 a3) rfl; have yy4 := X_1.out.cell (i := 4) (v := .int .i64 a4) rfl; have yy5 := X_1.out.cell (i := 5) (v := .int .i64 a5) rfl
  go_wp2_with fail
  refine (HPA.out _).mono ?_
  rintro e v1 ⟨rfl, hb⟩
  clear yy0 yy1 yy2 yy3 yy4 yy5
  have X_2 : Hid (Blk (v1.alloc (.cells #[.int .i64 p.x, .int .i64 p.y] 26)) w.heap.size 56 #[.int .i64 a0, .int .i64 a1, .int .i64 a2, .int .i64 a3, .int .i64 a4, .int .i64 a5]) := Lib.hid (allocs_keep [(#[.int .i64 p.x, .int .i64 p.y], 26)] _ (X_1.out.below hb X_1.out.lt))
  have Y_2 : Hid (Blk (v1.alloc (.cells #[.int .i64 p.x, .int .i64 p.y] 26)) (w.heap.size + 1) 55 #[.int .i64 u, .int .i64 v]) := Lib.hid (allocs_keep [(#[.int .i64 p.x, .int .i64 p.y], 26)] _ (Y_1.out.below hb Y_1.out.lt))
  have HB_2 : Hid (Below w.heap.size w (v1.alloc (.cells #[.int .i64 p.x, .int .i64 p.y] 26))) := Lib.hid (allocs_below [(#[.int .i64 p.x, .int .i64 p.y], 26)] _ (HB_1.out.trans (hb.mono HB_1.out.size)) (HB_1.out.trans (hb.mono HB_1.out.size)).size)
  have P_2 : Hid (Blk (v1.alloc (.cells #[.int .i64 p.x, .int .i64 p.y] 26)) v1.heap.size 26 #[.int .i64 p.x, .int .i64 p.y]) := Lib.hid (allocs_blk [(#[.int .i64 p.x, .int .i64 p.y], 26)] v1 0 _ rfl)
  clear hb X_1 Y_1 HB_1
  have yy0 := X_2.out.cell (i := 0) (v := .int .i64 a0) rfl; have yy1 := X_2.out.cell (i := 1) (v := .int .i64 a1) rfl; have yy2 := X_2.out.cell (i := 2) (v := .int .i64 a2) rfl; have yy3 := X_2.out.cell (i := 3) (v := .int .i64 a3) rfl; have yy4 := X_2.out.cell (i := 4) (v := .int .i64 a4) rfl; have yy5 := X_2.out.cell (i := 5) (v := .int .i64 a5) rfl
  go_wp2_with fail
  refine (HPB.out _).mono ?_
  rintro e v2 ⟨rfl, hb⟩
  clear yy0 yy1 yy2 yy3 yy4 yy5
  have X_3 : Hid (Blk (v2.alloc (.cells #[.int .i64 a.x, .int .i64 a.y] 26)) w.heap.size 56 #[.int .i64 a0, .int .i64 a1, .int .i64 a2, .int .i64 a3, .int .i64 a4, .int .i64 a5]) := Lib.hid (allocs_keep [(#[.int .i64 a.x, .int .i64 a.y], 26)] _ (X_2.out.below hb X_2.out.lt))
  have Y_3 : Hid (Blk (v2.alloc (.cells #[.int .i64 a.x, .int .i64 a.y] 26)) (w.heap.size + 1) 55 #[.int .i64 u, .int .i64 v]) := Lib.hid (allocs_keep [(#[.int .i64 a.x, .int .i64 a.y], 26)] _ (Y_2.out.below hb Y_2.out.lt))
  have P_3 : Hid (Blk (v2.alloc (.cells #[.int .i64 a.x, .int .i64 a.y] 26)) v1.heap.size 26 #[.int .i64 p.x, .int .i64 p.y]) := Lib.hid (allocs_keep [(#[.int .i64 a.x, .int .i64 a.y], 26)] _ (P_2.out.below hb P_2.out.lt))
  have HB_3 : Hid (Below w.heap.size w (v2.alloc (.cells #[.int .i64 a.x, .int .i64 a.y] 26))) := Lib.hid (allocs_below [(#[.int .i64 a.x, .int .i64 a.y], 26)] _ (HB_2.out.trans (hb.mono HB_2.out.size)) (HB_2.out.trans (hb.mono HB_2.out.size)).size)
  have A_3 : Hid (Blk (v2.alloc (.cells #[.int .i64 a.x, .int .i64 a.y] 26)) v2.heap.size 26 #[.int .i64 a.x, .int .i64 a.y]) := Lib.hid (allocs_blk [(#[.int .i64 a.x, .int .i64 a.y], 26)] v2 0 _ rfl)
  clear hb X_2 Y_2 P_2 HB_2
  have yy0 := X_3.out.cell (i := 0) (v := .int .i64 a0) rfl; have yy1 := X_3.out.cell (i := 1) (v := .int .i64 a1) rfl; have yy2 := X_3.out.cell (i := 2) (v := .int .i64 a2) rfl; have yy3 := X_3.out.cell (i := 3) (v := .int .i64 a3) rfl; have yy4 := X_3.out.cell (i := 4) (v := .int .i64 a4) rfl; have yy5 := X_3.out.cell (i := 5) (v := .int .i64 a5) rfl
  go_wp2_with fail
  refine (HPC.out _).mono ?_
  rintro e v3 ⟨rfl, hb⟩
  clear yy0 yy1 yy2 yy3 yy4 yy5
  have X_4 : Hid (Blk (v3.alloc (.cells #[.int .i64 b.x, .int .i64 b.y] 26)) w.heap.size 56 #[.int .i64 a0, .int .i64 a1, .int .i64 a2, .int .i64 a3, .int .i64 a4, .int .i64 a5]) := Lib.hid (allocs_keep [(#[.int .i64 b.x, .int .i64 b.y], 26)] _ (X_3.out.below hb X_3.out.lt))
  have Y_4 : Hid (Blk (v3.alloc (.cells #[.int .i64 b.x, .int .i64 b.y] 26)) (w.heap.size + 1) 55 #[.int .i64 u, .int .i64 v]) := Lib.hid (allocs_keep [(#[.int .i64 b.x, .int .i64 b.y], 26)] _ (Y_3.out.below hb Y_3.out.lt))
  have P_4 : Hid (Blk (v3.alloc (.cells #[.int .i64 b.x, .int .i64 b.y] 26)) v1.heap.size 26 #[.int .i64 p.x, .int .i64 p.y]) := Lib.hid (allocs_keep [(#[.int .i64 b.x, .int .i64 b.y], 26)] _ (P_3.out.below hb P_3.out.lt))
  have A_4 : Hid (Blk (v3.alloc (.cells #[.int .i64 b.x, .int .i64 b.y] 26)) v2.heap.size 26 #[.int .i64 a.x, .int .i64 a.y]) := Lib.hid (allocs_keep [(#[.int .i64 b.x, .int .i64 b.y], 26)] _ (A_3.out.below hb A_3.out.lt))
  have HB_4 : Hid (Below w.heap.size w (v3.alloc (.cells #[.int .i64 b.x, .int .i64 b.y] 26))) := Lib.hid (allocs_below [(#[.int .i64 b.x, .int .i64 b.y], 26)] _ (HB_3.out.trans (hb.mono HB_3.out.size)) (HB_3.out.trans (hb.mono HB_3.out.size)).size)
  have B_4 : Hid (Blk (v3.alloc (.cells #[.int .i64 b.x, .int .i64 b.y] 26)) v3.heap.size 26 #[.int .i64 b.x, .int .i64 b.y]) := Lib.hid (allocs_blk [(#[.int .i64 b.x, .int .i64 b.y], 26)] v3 0 _ rfl)
  clear hb X_3 Y_3 P_3 A_3 HB_3
  have yy0 := P_4.out.cell (i := 0) (v := .int .i64 p.x) rfl; have yy1 := P_4.out.cell (i := 1) (v := .int .i64 p.y) rfl
  have yy2 := A_4.out.cell (i := 0) (v := .int .i64 a.x) rfl; have yy3 := A_4.out.cell (i := 1) (v := .int .i64 a.y) rfl
  have yy4 := B_4.out.cell (i := 0) (v := .int .i64 b.x) rfl; have yy5 := B_4.out.cell (i := 1) (v := .int .i64 b.y) rfl
  go_wp2_with fail
  refine (HD1.out _).mono ?_
  rintro e v4 ⟨rfl, hb⟩
  clear yy0 yy1 yy2 yy3 yy4 yy5
  have X_5 : Hid (Blk (v4.alloc (.cells #[.string sn, .string sd] 47)) w.heap.size 56 #[.int .i64 a0, .int .i64 a1, .int .i64 a2, .int .i64 a3, .int .i64 a4, .int .i64 a5]) := Lib.hid (allocs_keep [(#[.string sn, .string sd], 47)] _ (X_4.out.below hb X_4.out.lt))
  have Y_5 : Hid (Blk (v4.alloc (.cells #[.string sn, .string sd] 47)) (w.heap.size + 1) 55 #[.int .i64 u, .int .i64 v]) := Lib.hid (allocs_keep [(#[.string sn, .string sd], 47)] _ (Y_4.out.below hb Y_4.out.lt))
  have P_5 : Hid (Blk (v4.alloc (.cells #[.string sn, .string sd] 47)) v1.heap.size 26 #[.int .i64 p.x, .int .i64 p.y]) := Lib.hid (allocs_keep [(#[.string sn, .string sd], 47)] _ (P_4.out.below hb P_4.out.lt))
  have A_5 : Hid (Blk (v4.alloc (.cells #[.string sn, .string sd] 47)) v2.heap.size 26 #[.int .i64 a.x, .int .i64 a.y]) := Lib.hid (allocs_keep [(#[.string sn, .string sd], 47)] _ (A_4.out.below hb A_4.out.lt))
  have B_5 : Hid (Blk (v4.alloc (.cells #[.string sn, .string sd] 47)) v3.heap.size 26 #[.int .i64 b.x, .int .i64 b.y]) := Lib.hid (allocs_keep [(#[.string sn, .string sd], 47)] _ (B_4.out.below hb B_4.out.lt))
  have HB_5 : Hid (Below w.heap.size w (v4.alloc (.cells #[.string sn, .string sd] 47))) := Lib.hid (allocs_below [(#[.string sn, .string sd], 47)] _ (HB_4.out.trans (hb.mono HB_4.out.size)) (HB_4.out.trans (hb.mono HB_4.out.size)).size)
  have F_5 : Hid (Blk (v4.alloc (.cells #[.string sn, .string sd] 47)) v4.heap.size 47 #[.string sn, .string sd]) := Lib.hid (allocs_blk [(#[.string sn, .string sd], 47)] v4 0 _ rfl)
  clear hb X_4 Y_4 P_4 A_4 B_4 HB_4
  have yy0 := P_5.out.cell (i := 0) (v := .int .i64 p.x) rfl; have yy1 := P_5.out.cell (i := 1) (v := .int .i64 p.y) rfl
  have yy2 := A_5.out.cell (i := 0) (v := .int .i64 a.x) rfl; have yy3 := A_5.out.cell (i := 1) (v := .int .i64 a.y) rfl
  have yy4 := B_5.out.cell (i := 0) (v := .int .i64 b.x) rfl; have yy5 := B_5.out.cell (i := 1) (v := .int .i64 b.y) rfl
  go_wp2_with fail
  refine (HD2.out _).mono ?_
  rintro e v5 ⟨rfl, hb⟩
  clear yy0 yy1 yy2 yy3 yy4 yy5
  have X_6 : Hid (Blk (v5.alloc (.cells #[.string sn, .string sd] 47)) w.heap.size 56 #[.int .i64 a0, .int .i64 a1, .int .i64 a2, .int .i64 a3, .int .i64 a4, .int .i64 a5]) := Lib.hid (allocs_keep [(#[.string sn, .string sd], 47)] _ (X_5.out.below hb X_5.out.lt))
  have Y_6 : Hid (Blk (v5.alloc (.cells #[.string sn, .string sd] 47)) (w.heap.size + 1) 55 #[.int .i64 u, .int .i64 v]) := Lib.hid (allocs_keep [(#[.string sn, .string sd], 47)] _ (Y_5.out.below hb Y_5.out.lt))
  have P_6 : Hid (Blk (v5.alloc (.cells #[.string sn, .string sd] 47)) v1.heap.size 26 #[.int .i64 p.x, .int .i64 p.y]) := Lib.hid (allocs_keep [(#[.string sn, .string sd], 47)] _ (P_5.out.below hb P_5.out.lt))
  have A_6 : Hid (Blk (v5.alloc (.cells #[.string sn, .string sd] 47)) v2.heap.size 26 #[.int .i64 a.x, .int .i64 a.y]) := Lib.hid (allocs_keep [(#[.string sn, .string sd], 47)] _ (A_5.out.below hb A_5.out.lt))
  have B_6 : Hid (Blk (v5.alloc (.cells #[.string sn, .string sd] 47)) v3.heap.size 26 #[.int .i64 b.x, .int .i64 b.y]) := Lib.hid (allocs_keep [(#[.string sn, .string sd], 47)] _ (B_5.out.below hb B_5.out.lt))
  have F_6 : Hid (Blk (v5.alloc (.cells #[.string sn, .string sd] 47)) v4.heap.size 47 #[.string sn, .string sd]) := Lib.hid (allocs_keep [(#[.string sn, .string sd], 47)] _ (F_5.out.below hb F_5.out.lt))
  have HB_6 : Hid (Below w.heap.size w (v5.alloc (.cells #[.string sn, .string sd] 47))) := Lib.hid (allocs_below [(#[.string sn, .string sd], 47)] _ (HB_5.out.trans (hb.mono HB_5.out.size)) (HB_5.out.trans (hb.mono HB_5.out.size)).size)
  have G_6 : Hid (Blk (v5.alloc (.cells #[.string sn, .string sd] 47)) v5.heap.size 47 #[.string sn, .string sd]) := Lib.hid (allocs_blk [(#[.string sn, .string sd], 47)] v5 0 _ rfl)
  clear hb X_5 Y_5 P_5 A_5 B_5 F_5 HB_5
  go_wp2_with fail
  refine wp_region_grow (S := (fun w' => w'.cell? ⟨v1.heap.size, 0, none⟩ = some (.int .i64 p.x) ∧ w'.cell? ⟨v1.heap.size, 1, none⟩ = some (.int .i64 p.y) ∧ w'.cell? ⟨v2.heap.size, 0, none⟩ = some (.int .i64 a.x) ∧ w'.cell? ⟨v2.heap.size, 1, none⟩ = some (.int .i64 a.y) ∧ w'.cell? ⟨v3.heap.size, 0, none⟩ = some (.int .i64 b.x) ∧ w'.cell? ⟨v3.heap.size, 1, none⟩ = some (.int .i64 b.y) ∧ w'.cell? ⟨(w.heap.size + 1), 0, none⟩ = some (.int .i64 u) ∧ w'.cell? ⟨(w.heap.size + 1), 1, none⟩ = some (.int .i64 v))) ((fun w' => Below (v5.alloc (.cells #[.string sn, .string sd] 47)).heap.size (v5.alloc (.cells #[.string sn, .string sd] 47)) w')) (by kernel_rfl) (⟨fun w2 h2 => ⟨(P_6.out.below h2 P_6.out.lt).cell (i := 0) (v := .int .i64 p.x) rfl, (P_6.out.below h2 P_6.out.lt).cell (i := 1) (v := .int .i64 p.y) rfl, (A_6.out.below h2 A_6.out.lt).cell (i := 0) (v := .int .i64 a.x) rfl, (A_6.out.below h2 A_6.out.lt).cell (i := 1) (v := .int .i64 a.y) rfl, (B_6.out.below h2 B_6.out.lt).cell (i := 0) (v := .int .i64 b.x) rfl, (B_6.out.below h2 B_6.out.lt).cell (i := 1) (v := .int .i64 b.y) rfl, (Y_6.out.below h2 Y_6.out.lt).cell (i := 0) (v := .int .i64 u) rfl, (Y_6.out.below h2 Y_6.out.lt).cell (i := 1) (v := .int .i64 v) rfl⟩, fun w2 w3 h2 hb2 => h2.trans (hb2.mono h2.size)⟩) ((Below.refl (v5.alloc (.cells #[.string sn, .string sd] 47)).heap.size (v5.alloc (.cells #[.string sn, .string sd] 47))).drew) (fun hCalm => ?_)
  refine grow_take 0 (some 46) ?_ rfl rfl (by kernel_rfl) (fun _ _ _ h => h) (by kernel_rfl) hCalm ?_ ?_
  rotate_left
  · intro wS hS; (try dsimp only at hS); go_simp <;> with_reducible rfl
  try simp only [Act.put, List.setIfInBounds_toArray, List.set_cons_zero, List.set_cons_succ]
  refine grow_take 1 (some 47) ?_ rfl rfl (by kernel_rfl) (fun _ _ _ h => h) (by kernel_rfl) hCalm ?_ ?_
  rotate_left
  · intro wS hS; (try dsimp only at hS); go_simp <;> with_reducible rfl
  try simp only [Act.put, List.setIfInBounds_toArray, List.set_cons_zero, List.set_cons_succ]
  refine grow_take 3 (some 49) ?_ rfl rfl (by kernel_rfl) (fun _ _ _ h => h) (by kernel_rfl) hCalm ?_ ?_
  rotate_left
  · intro wS hS; (try dsimp only at hS); go_simp <;> with_reducible rfl
  try simp only [Act.put, List.setIfInBounds_toArray, List.set_cons_zero, List.set_cons_succ]
  refine grow_take 4 (some 50) ?_ rfl rfl (by kernel_rfl) (fun _ _ _ h => h) (by kernel_rfl) hCalm ?_ ?_
  rotate_left
  · intro wS hS; (try dsimp only at hS); go_simp <;> with_reducible rfl
  try simp only [Act.put, List.setIfInBounds_toArray, List.set_cons_zero, List.set_cons_succ]
  refine grow_take 6 (some 52) ?_ rfl rfl (by kernel_rfl) (fun _ _ _ h => h) (by kernel_rfl) hCalm ?_ ?_
  rotate_left
  · intro wS hS; (try dsimp only at hS); go_simp <;> with_reducible rfl
  try simp only [Act.put, List.setIfInBounds_toArray, List.set_cons_zero, List.set_cons_succ]
  refine grow_take 7 (some 53) ?_ rfl rfl (by kernel_rfl) (fun _ _ _ h => h) (by kernel_rfl) hCalm ?_ ?_
  rotate_left
  · intro wS hS; (try dsimp only at hS); go_simp <;> with_reducible rfl
  try simp only [Act.put, List.setIfInBounds_toArray, List.set_cons_zero, List.set_cons_succ]
  refine grow_call 2 (some 48) (p7v p') 38 [.tmp 46, .tmp 47] #[26, 55] rfl rfl (by kernel_rfl) (fun _ _ _ h => h) (by kernel_rfl) hCalm rfl (enters_of Tryz.func38 (by kernel_rfl) rfl) (fun wz _ => HMA.out wz) (by kernel_rfl) ?_
  try simp only [Act.put, List.setIfInBounds_toArray, List.set_cons_zero, List.set_cons_succ]
  refine grow_call 5 (some 51) (p7v a') 38 [.tmp 49, .tmp 50] #[26, 55] rfl rfl (by kernel_rfl) (fun _ _ _ h => h) (by kernel_rfl) hCalm rfl (enters_of Tryz.func38 (by kernel_rfl) rfl) (fun wz _ => HMB.out wz) (by kernel_rfl) ?_
  try simp only [Act.put, List.setIfInBounds_toArray, List.set_cons_zero, List.set_cons_succ]
  refine grow_call 8 (some 54) (p7v b') 38 [.tmp 52, .tmp 53] #[26, 55] rfl rfl (by kernel_rfl) (fun _ _ _ h => h) (by kernel_rfl) hCalm rfl (enters_of Tryz.func38 (by kernel_rfl) rfl) (fun wz _ => HMC.out wz) (by kernel_rfl) ?_
  try simp only [Act.put, List.setIfInBounds_toArray, List.set_cons_zero, List.set_cons_succ]
  refine grow_call 9 (some 55) (.tuple #[.agg #[.string sn, .string sd], .int .i64 0]) 29 [.tmp 48, .tmp 51, .tmp 54] #[26, 26, 26] rfl rfl (by kernel_rfl) (fun _ _ _ h => h) (by kernel_rfl) hCalm rfl (enters_of Tryz.func29 (by kernel_rfl) rfl) (fun wz _ => HD3.out wz) (by kernel_rfl) ?_
  try simp only [Act.put, List.setIfInBounds_toArray, List.set_cons_zero, List.set_cons_succ]
  refine grow_take 10 (some 45) ?_ rfl rfl (by kernel_rfl) (fun _ _ _ h => h) (by kernel_rfl) hCalm ?_ ?_
  rotate_left
  · intro wS hS; (try dsimp only at hS); go_simp <;> with_reducible rfl
  try simp only [Act.put, List.setIfInBounds_toArray, List.set_cons_zero, List.set_cons_succ]
  refine grow_take 11 (some 56) ?_ rfl rfl (by kernel_rfl) (fun _ _ _ h => h) (by kernel_rfl) hCalm ?_ ?_
  rotate_left
  · intro wS hS; (try dsimp only at hS); go_simp <;> with_reducible rfl
  try simp only [Act.put, List.setIfInBounds_toArray, List.set_cons_zero, List.set_cons_succ]
  refine grow_take 12 (some 57) ?_ rfl rfl (by kernel_rfl) (fun _ _ _ h => h) (by kernel_rfl) hCalm ?_ ?_
  rotate_left
  · intro wS hS; (try dsimp only at hS); go_simp <;> with_reducible rfl
  try simp only [Act.put, List.setIfInBounds_toArray, List.set_cons_zero, List.set_cons_succ]
  refine grow_each [13] (by kernel_rfl) (by decide) ?_
  refine grow_cons 13 rfl (by kernel_rfl) (fun wA hA K hK => ?_) grow_nil
  obtain ⟨pE, hpE⟩ : ∃ b, b = wA.heap.size := ⟨_, rfl⟩
  have le_pE : (v5.alloc (.cells #[.string sn, .string sd] 47)).heap.size ≤ pE := by rw [hpE]; exact hA.size
  have hnew : Blk (wA.alloc (.cells #[.string ⟨#[]⟩, .string ⟨#[]⟩] 47)) pE 47 #[.string ⟨#[]⟩, .string ⟨#[]⟩] := by rw [hpE]; exact Blk.new wA _ _
  go_simp
  rw [← hpE]
  clear hCalm; refine grow_put hK (fun w' => Below (v5.alloc (.cells #[.string sn, .string sd] 47)).heap.size (v5.alloc (.cells #[.string sn, .string sd] 47)) w' ∧ Blk w' pE 47 #[.string ⟨#[]⟩, .string ⟨#[]⟩]) ⟨fun w2 h2 => ⟨(P_6.out.below h2.1 P_6.out.lt).cell (i := 0) (v := .int .i64 p.x) rfl, (P_6.out.below h2.1 P_6.out.lt).cell (i := 1) (v := .int .i64 p.y) rfl, (A_6.out.below h2.1 A_6.out.lt).cell (i := 0) (v := .int .i64 a.x) rfl, (A_6.out.below h2.1 A_6.out.lt).cell (i := 1) (v := .int .i64 a.y) rfl, (B_6.out.below h2.1 B_6.out.lt).cell (i := 0) (v := .int .i64 b.x) rfl, (B_6.out.below h2.1 B_6.out.lt).cell (i := 1) (v := .int .i64 b.y) rfl, (Y_6.out.below h2.1 Y_6.out.lt).cell (i := 0) (v := .int .i64 u) rfl, (Y_6.out.below h2.1 Y_6.out.lt).cell (i := 1) (v := .int .i64 v) rfl⟩, fun w2 w3 h2 hb2 => ⟨h2.1.trans (hb2.mono h2.1.size), h2.2.below hb2 h2.2.lt⟩⟩ ⟨hA.alloc hA.size _, hnew⟩ (fun hCalm => ?_)
  clear hnew hpE hK K hA wA
  try simp only [Act.put, List.setIfInBounds_toArray, List.set_cons_zero, List.set_cons_succ]
  refine grow_each [14] (by kernel_rfl) (by decide) ?_
  refine grow_cons 14 rfl (by kernel_rfl) (fun wA hA K hK => ?_) grow_nil
  have z0 := hA.2.cell (i := 0) (v := .string ⟨#[]⟩) rfl; have f0 := hA.2.frozen 0
  have z1 := hA.2.cell (i := 1) (v := .string ⟨#[]⟩) rfl; have f1 := hA.2.frozen 1
  go_simp
  clear hCalm; refine grow_put hK (fun w' => Below (v5.alloc (.cells #[.string sn, .string sd] 47)).heap.size (v5.alloc (.cells #[.string sn, .string sd] 47)) w' ∧ Blk w' pE 47 #[(.string sn), (.string sd)]) ⟨fun w2 h2 => ⟨(P_6.out.below h2.1 P_6.out.lt).cell (i := 0) (v := .int .i64 p.x) rfl, (P_6.out.below h2.1 P_6.out.lt).cell (i := 1) (v := .int .i64 p.y) rfl, (A_6.out.below h2.1 A_6.out.lt).cell (i := 0) (v := .int .i64 a.x) rfl, (A_6.out.below h2.1 A_6.out.lt).cell (i := 1) (v := .int .i64 a.y) rfl, (B_6.out.below h2.1 B_6.out.lt).cell (i := 0) (v := .int .i64 b.x) rfl, (B_6.out.below h2.1 B_6.out.lt).cell (i := 1) (v := .int .i64 b.y) rfl, (Y_6.out.below h2.1 Y_6.out.lt).cell (i := 0) (v := .int .i64 u) rfl, (Y_6.out.below h2.1 Y_6.out.lt).cell (i := 1) (v := .int .i64 v) rfl⟩, fun w2 w3 h2 hb2 => ⟨h2.1.trans (hb2.mono h2.1.size), h2.2.below hb2 h2.2.lt⟩⟩ ⟨((hA.1.setCell (p := ⟨pE, 0, none⟩) (by show (v5.alloc (.cells #[.string sn, .string sd] 47)).heap.size ≤ pE; omega) _).setCell (p := ⟨pE, 1, none⟩) (by show (v5.alloc (.cells #[.string sn, .string sd] 47)).heap.size ≤ pE; omega) _), ((hA.2.set 0 _).set 1 _)⟩ (fun hCalm => ?_)
  clear z0 f0 z1 f1 hK K hA wA
  try simp only [Act.put]
  refine grow_take 15 (some 13) ?_ rfl rfl (by kernel_rfl) (fun _ _ _ h => h) (by kernel_rfl) hCalm ?_ ?_
  rotate_left
  · intro wS hS; (try dsimp only at hS); go_simp <;> with_reducible rfl
  try simp only [Act.put, List.setIfInBounds_toArray, List.set_cons_zero, List.set_cons_succ]
  refine grow_done (by kernel_rfl) (fun wA hA => ?_) _
  have hE := Lib.hid hA.2
  have hb := hA.1; clear hA hCalm
  obtain ⟨v6, hv6⟩ : ∃ x, x = wA := ⟨_, rfl⟩
  rw [← hv6] at hb hE ⊢
  clear hv6
  have X_7 : Hid (Blk v6 w.heap.size 56 #[.int .i64 a0, .int .i64 a1, .int .i64 a2, .int .i64 a3, .int .i64 a4, .int .i64 a5]) := Lib.hid (X_6.out.below hb X_6.out.lt)
  have Y_7 : Hid (Blk v6 (w.heap.size + 1) 55 #[.int .i64 u, .int .i64 v]) := Lib.hid (Y_6.out.below hb Y_6.out.lt)
  have P_7 : Hid (Blk v6 v1.heap.size 26 #[.int .i64 p.x, .int .i64 p.y]) := Lib.hid (P_6.out.below hb P_6.out.lt)
  have A_7 : Hid (Blk v6 v2.heap.size 26 #[.int .i64 a.x, .int .i64 a.y]) := Lib.hid (A_6.out.below hb A_6.out.lt)
  have B_7 : Hid (Blk v6 v3.heap.size 26 #[.int .i64 b.x, .int .i64 b.y]) := Lib.hid (B_6.out.below hb B_6.out.lt)
  have F_7 : Hid (Blk v6 v4.heap.size 47 #[.string sn, .string sd]) := Lib.hid (F_6.out.below hb F_6.out.lt)
  have G_7 : Hid (Blk v6 v5.heap.size 47 #[.string sn, .string sd]) := Lib.hid (G_6.out.below hb G_6.out.lt)
  have HB_7 : Hid (Below w.heap.size w v6) := Lib.hid (HB_6.out.trans (hb.mono HB_6.out.size))
  clear hb X_6 Y_6 P_6 A_6 B_6 F_6 G_6 HB_6
  have E_7 := hE; clear hE
  have yy0 := P_7.out.cell (i := 0) (v := .int .i64 p.x) rfl; have yy1 := P_7.out.cell (i := 1) (v := .int .i64 p.y) rfl
  have yy2 := A_7.out.cell (i := 0) (v := .int .i64 a.x) rfl; have yy3 := A_7.out.cell (i := 1) (v := .int .i64 a.y) rfl
  go_wp2_with fail
  refine (HD4.out _).mono ?_
  rintro e v7 ⟨rfl, hb⟩
  clear yy0 yy1 yy2 yy3
  have X_8 : Hid (Blk (v7.alloc (.cells #[.string o1, .string o2] 47)) w.heap.size 56 #[.int .i64 a0, .int .i64 a1, .int .i64 a2, .int .i64 a3, .int .i64 a4, .int .i64 a5]) := Lib.hid (allocs_keep [(#[.string o1, .string o2], 47)] _ (X_7.out.below hb X_7.out.lt))
  have Y_8 : Hid (Blk (v7.alloc (.cells #[.string o1, .string o2] 47)) (w.heap.size + 1) 55 #[.int .i64 u, .int .i64 v]) := Lib.hid (allocs_keep [(#[.string o1, .string o2], 47)] _ (Y_7.out.below hb Y_7.out.lt))
  have P_8 : Hid (Blk (v7.alloc (.cells #[.string o1, .string o2] 47)) v1.heap.size 26 #[.int .i64 p.x, .int .i64 p.y]) := Lib.hid (allocs_keep [(#[.string o1, .string o2], 47)] _ (P_7.out.below hb P_7.out.lt))
  have A_8 : Hid (Blk (v7.alloc (.cells #[.string o1, .string o2] 47)) v2.heap.size 26 #[.int .i64 a.x, .int .i64 a.y]) := Lib.hid (allocs_keep [(#[.string o1, .string o2], 47)] _ (A_7.out.below hb A_7.out.lt))
  have B_8 : Hid (Blk (v7.alloc (.cells #[.string o1, .string o2] 47)) v3.heap.size 26 #[.int .i64 b.x, .int .i64 b.y]) := Lib.hid (allocs_keep [(#[.string o1, .string o2], 47)] _ (B_7.out.below hb B_7.out.lt))
  have F_8 : Hid (Blk (v7.alloc (.cells #[.string o1, .string o2] 47)) v4.heap.size 47 #[.string sn, .string sd]) := Lib.hid (allocs_keep [(#[.string o1, .string o2], 47)] _ (F_7.out.below hb F_7.out.lt))
  have G_8 : Hid (Blk (v7.alloc (.cells #[.string o1, .string o2] 47)) v5.heap.size 47 #[.string sn, .string sd]) := Lib.hid (allocs_keep [(#[.string o1, .string o2], 47)] _ (G_7.out.below hb G_7.out.lt))
  have E_8 : Hid (Blk (v7.alloc (.cells #[.string o1, .string o2] 47)) pE 47 #[.string sn, .string sd]) := Lib.hid (allocs_keep [(#[.string o1, .string o2], 47)] _ (E_7.out.below hb E_7.out.lt))
  have HB_8 : Hid (Below w.heap.size w (v7.alloc (.cells #[.string o1, .string o2] 47))) := Lib.hid (allocs_below [(#[.string o1, .string o2], 47)] _ (HB_7.out.trans (hb.mono HB_7.out.size)) (HB_7.out.trans (hb.mono HB_7.out.size)).size)
  have O_8 : Hid (Blk (v7.alloc (.cells #[.string o1, .string o2] 47)) v7.heap.size 47 #[.string o1, .string o2]) := Lib.hid (allocs_blk [(#[.string o1, .string o2], 47)] v7 0 _ rfl)
  clear hb X_7 Y_7 P_7 A_7 B_7 F_7 G_7 E_7 HB_7
  have yy0 := P_8.out.cell (i := 0) (v := .int .i64 p.x) rfl; have yy1 := P_8.out.cell (i := 1) (v := .int .i64 p.y) rfl
  have yy2 := B_8.out.cell (i := 0) (v := .int .i64 b.x) rfl; have yy3 := B_8.out.cell (i := 1) (v := .int .i64 b.y) rfl
  go_wp2_with fail
  refine (HD5.out _).mono ?_
  rintro e v8 ⟨rfl, hb⟩
  clear yy0 yy1 yy2 yy3
  have X_9 : Hid (Blk (v8.alloc (.cells #[.string q1, .string q2] 47)) w.heap.size 56 #[.int .i64 a0, .int .i64 a1, .int .i64 a2, .int .i64 a3, .int .i64 a4, .int .i64 a5]) := Lib.hid (allocs_keep [(#[.string q1, .string q2], 47)] _ (X_8.out.below hb X_8.out.lt))
  have Y_9 : Hid (Blk (v8.alloc (.cells #[.string q1, .string q2] 47)) (w.heap.size + 1) 55 #[.int .i64 u, .int .i64 v]) := Lib.hid (allocs_keep [(#[.string q1, .string q2], 47)] _ (Y_8.out.below hb Y_8.out.lt))
  have P_9 : Hid (Blk (v8.alloc (.cells #[.string q1, .string q2] 47)) v1.heap.size 26 #[.int .i64 p.x, .int .i64 p.y]) := Lib.hid (allocs_keep [(#[.string q1, .string q2], 47)] _ (P_8.out.below hb P_8.out.lt))
  have A_9 : Hid (Blk (v8.alloc (.cells #[.string q1, .string q2] 47)) v2.heap.size 26 #[.int .i64 a.x, .int .i64 a.y]) := Lib.hid (allocs_keep [(#[.string q1, .string q2], 47)] _ (A_8.out.below hb A_8.out.lt))
  have B_9 : Hid (Blk (v8.alloc (.cells #[.string q1, .string q2] 47)) v3.heap.size 26 #[.int .i64 b.x, .int .i64 b.y]) := Lib.hid (allocs_keep [(#[.string q1, .string q2], 47)] _ (B_8.out.below hb B_8.out.lt))
  have F_9 : Hid (Blk (v8.alloc (.cells #[.string q1, .string q2] 47)) v4.heap.size 47 #[.string sn, .string sd]) := Lib.hid (allocs_keep [(#[.string q1, .string q2], 47)] _ (F_8.out.below hb F_8.out.lt))
  have G_9 : Hid (Blk (v8.alloc (.cells #[.string q1, .string q2] 47)) v5.heap.size 47 #[.string sn, .string sd]) := Lib.hid (allocs_keep [(#[.string q1, .string q2], 47)] _ (G_8.out.below hb G_8.out.lt))
  have E_9 : Hid (Blk (v8.alloc (.cells #[.string q1, .string q2] 47)) pE 47 #[.string sn, .string sd]) := Lib.hid (allocs_keep [(#[.string q1, .string q2], 47)] _ (E_8.out.below hb E_8.out.lt))
  have O_9 : Hid (Blk (v8.alloc (.cells #[.string q1, .string q2] 47)) v7.heap.size 47 #[.string o1, .string o2]) := Lib.hid (allocs_keep [(#[.string q1, .string q2], 47)] _ (O_8.out.below hb O_8.out.lt))
  have HB_9 : Hid (Below w.heap.size w (v8.alloc (.cells #[.string q1, .string q2] 47))) := Lib.hid (allocs_below [(#[.string q1, .string q2], 47)] _ (HB_8.out.trans (hb.mono HB_8.out.size)) (HB_8.out.trans (hb.mono HB_8.out.size)).size)
  have Q_9 : Hid (Blk (v8.alloc (.cells #[.string q1, .string q2] 47)) v8.heap.size 47 #[.string q1, .string q2]) := Lib.hid (allocs_blk [(#[.string q1, .string q2], 47)] v8 0 _ rfl)
  clear hb X_8 Y_8 P_8 A_8 B_8 F_8 G_8 E_8 O_8 HB_8
  have yy0 := F_9.out.cell (i := 0) (v := .string sn) rfl; have yy1 := F_9.out.cell (i := 1) (v := .string sd) rfl
  have yy2 := G_9.out.cell (i := 0) (v := .string sn) rfl; have yy3 := G_9.out.cell (i := 1) (v := .string sd) rfl
  have yy4 := E_9.out.cell (i := 0) (v := .string sn) rfl; have yy5 := E_9.out.cell (i := 1) (v := .string sd) rfl
  go_wp2_with fail
  refine (HZ.out _).mono ?_
  rintro e v9 ⟨rfl, hb⟩
  clear yy0 yy1 yy2 yy3 yy4 yy5
  have X_10 : Hid (Blk (v9.alloc (.cells #[.string z1, .string z2] 47)) w.heap.size 56 #[.int .i64 a0, .int .i64 a1, .int .i64 a2, .int .i64 a3, .int .i64 a4, .int .i64 a5]) := Lib.hid (allocs_keep [(#[.string z1, .string z2], 47)] _ (X_9.out.below hb X_9.out.lt))
  have Y_10 : Hid (Blk (v9.alloc (.cells #[.string z1, .string z2] 47)) (w.heap.size + 1) 55 #[.int .i64 u, .int .i64 v]) := Lib.hid (allocs_keep [(#[.string z1, .string z2], 47)] _ (Y_9.out.below hb Y_9.out.lt))
  have P_10 : Hid (Blk (v9.alloc (.cells #[.string z1, .string z2] 47)) v1.heap.size 26 #[.int .i64 p.x, .int .i64 p.y]) := Lib.hid (allocs_keep [(#[.string z1, .string z2], 47)] _ (P_9.out.below hb P_9.out.lt))
  have A_10 : Hid (Blk (v9.alloc (.cells #[.string z1, .string z2] 47)) v2.heap.size 26 #[.int .i64 a.x, .int .i64 a.y]) := Lib.hid (allocs_keep [(#[.string z1, .string z2], 47)] _ (A_9.out.below hb A_9.out.lt))
  have B_10 : Hid (Blk (v9.alloc (.cells #[.string z1, .string z2] 47)) v3.heap.size 26 #[.int .i64 b.x, .int .i64 b.y]) := Lib.hid (allocs_keep [(#[.string z1, .string z2], 47)] _ (B_9.out.below hb B_9.out.lt))
  have F_10 : Hid (Blk (v9.alloc (.cells #[.string z1, .string z2] 47)) v4.heap.size 47 #[.string sn, .string sd]) := Lib.hid (allocs_keep [(#[.string z1, .string z2], 47)] _ (F_9.out.below hb F_9.out.lt))
  have G_10 : Hid (Blk (v9.alloc (.cells #[.string z1, .string z2] 47)) v5.heap.size 47 #[.string sn, .string sd]) := Lib.hid (allocs_keep [(#[.string z1, .string z2], 47)] _ (G_9.out.below hb G_9.out.lt))
  have E_10 : Hid (Blk (v9.alloc (.cells #[.string z1, .string z2] 47)) pE 47 #[.string sn, .string sd]) := Lib.hid (allocs_keep [(#[.string z1, .string z2], 47)] _ (E_9.out.below hb E_9.out.lt))
  have O_10 : Hid (Blk (v9.alloc (.cells #[.string z1, .string z2] 47)) v7.heap.size 47 #[.string o1, .string o2]) := Lib.hid (allocs_keep [(#[.string z1, .string z2], 47)] _ (O_9.out.below hb O_9.out.lt))
  have Q_10 : Hid (Blk (v9.alloc (.cells #[.string z1, .string z2] 47)) v8.heap.size 47 #[.string q1, .string q2]) := Lib.hid (allocs_keep [(#[.string z1, .string z2], 47)] _ (Q_9.out.below hb Q_9.out.lt))
  have HB_10 : Hid (Below w.heap.size w (v9.alloc (.cells #[.string z1, .string z2] 47))) := Lib.hid (allocs_below [(#[.string z1, .string z2], 47)] _ (HB_9.out.trans (hb.mono HB_9.out.size)) (HB_9.out.trans (hb.mono HB_9.out.size)).size)
  have Z_10 : Hid (Blk (v9.alloc (.cells #[.string z1, .string z2] 47)) v9.heap.size 47 #[.string z1, .string z2]) := Lib.hid (allocs_blk [(#[.string z1, .string z2], 47)] v9 0 _ rfl)
  clear hb X_9 Y_9 P_9 A_9 B_9 F_9 G_9 E_9 O_9 Q_9 HB_9
  have yy0 := P_10.out.cell (i := 0) (v := .int .i64 p.x) rfl; have yy1 := P_10.out.cell (i := 1) (v := .int .i64 p.y) rfl
  have yy2 := A_10.out.cell (i := 0) (v := .int .i64 a.x) rfl; have yy3 := A_10.out.cell (i := 1) (v := .int .i64 a.y) rfl
  go_wp2_with fail
  clear yy0 yy1 yy2 yy3
  cases x
  case false =>
    have hne : ¬ sn.toList = z1.toList := HY2.out rfl
    refine wp_region_grow (S := (fun w' => w'.cell? ⟨v4.heap.size, 0, none⟩ = some (.string sn) ∧ w'.cell? ⟨v4.heap.size, 1, none⟩ = some (.string sd) ∧ w'.cell? ⟨v9.heap.size, 0, none⟩ = some (.string z1) ∧ w'.cell? ⟨v9.heap.size, 1, none⟩ = some (.string z2) ∧ w'.cell? ⟨v1.heap.size, 0, none⟩ = some (.int .i64 p.x) ∧ w'.cell? ⟨v1.heap.size, 1, none⟩ = some (.int .i64 p.y) ∧ w'.cell? ⟨v2.heap.size, 0, none⟩ = some (.int .i64 a.x) ∧ w'.cell? ⟨v2.heap.size, 1, none⟩ = some (.int .i64 a.y) ∧ w'.cell? ⟨v3.heap.size, 0, none⟩ = some (.int .i64 b.x) ∧ w'.cell? ⟨v3.heap.size, 1, none⟩ = some (.int .i64 b.y) ∧ w'.cell? ⟨v7.heap.size, 0, none⟩ = some (.string o1) ∧ w'.cell? ⟨v7.heap.size, 1, none⟩ = some (.string o2) ∧ w'.cell? ⟨v8.heap.size, 0, none⟩ = some (.string q1) ∧ w'.cell? ⟨v8.heap.size, 1, none⟩ = some (.string q2))) ((fun w' => Below (v9.alloc (.cells #[.string z1, .string z2] 47)).heap.size (v9.alloc (.cells #[.string z1, .string z2] 47)) w')) (by kernel_rfl) (⟨fun w2 h2 => ⟨(F_10.out.below h2 F_10.out.lt).cell (i := 0) (v := .string sn) rfl, (F_10.out.below h2 F_10.out.lt).cell (i := 1) (v := .string sd) rfl, (Z_10.out.below h2 Z_10.out.lt).cell (i := 0) (v := .string z1) rfl, (Z_10.out.below h2 Z_10.out.lt).cell (i := 1) (v := .string z2) rfl, (P_10.out.below h2 P_10.out.lt).cell (i := 0) (v := .int .i64 p.x) rfl, (P_10.out.below h2 P_10.out.lt).cell (i := 1) (v := .int .i64 p.y) rfl, (A_10.out.below h2 A_10.out.lt).cell (i := 0) (v := .int .i64 a.x) rfl, (A_10.out.below h2 A_10.out.lt).cell (i := 1) (v := .int .i64 a.y) rfl, (B_10.out.below h2 B_10.out.lt).cell (i := 0) (v := .int .i64 b.x) rfl, (B_10.out.below h2 B_10.out.lt).cell (i := 1) (v := .int .i64 b.y) rfl, (O_10.out.below h2 O_10.out.lt).cell (i := 0) (v := .string o1) rfl, (O_10.out.below h2 O_10.out.lt).cell (i := 1) (v := .string o2) rfl, (Q_10.out.below h2 Q_10.out.lt).cell (i := 0) (v := .string q1) rfl, (Q_10.out.below h2 Q_10.out.lt).cell (i := 1) (v := .string q2) rfl⟩, fun w2 w3 h2 hb2 => h2.trans (hb2.mono h2.size)⟩) ((Below.refl (v9.alloc (.cells #[.string z1, .string z2] 47)).heap.size (v9.alloc (.cells #[.string z1, .string z2] 47))).drew) (fun hCalm => ?_)
    refine grow_take 0 (some 124) ?_ rfl rfl (by kernel_rfl) (fun _ _ _ h => h) (by kernel_rfl) hCalm ?_ ?_
    rotate_left
    · intro wS hS; (try dsimp only at hS); go_simp <;> with_reducible rfl
    try simp only [Act.put, List.setIfInBounds_toArray, List.set_cons_zero, List.set_cons_succ]
    refine grow_take 1 (some 125) ?_ rfl rfl (by kernel_rfl) (fun _ _ _ h => h) (by kernel_rfl) hCalm ?_ ?_
    rotate_left
    · intro wS hS; (try dsimp only at hS); go_simp <;> with_reducible rfl
    try simp only [Act.put, List.setIfInBounds_toArray, List.set_cons_zero, List.set_cons_succ]
    refine grow_take 2 (some 126) (.bool false) rfl rfl (by kernel_rfl) (fun _ _ _ h => h) (by kernel_rfl) hCalm ?_ ?_
    · intro wS hS; (try dsimp only at hS); go_simp
      all_goals simp [hne]
    try simp only [Act.put, List.setIfInBounds_toArray, List.set_cons_zero, List.set_cons_succ]
    refine grow_take 3 (some 127) ?_ rfl rfl (by kernel_rfl) (fun _ _ _ h => h) (by kernel_rfl) hCalm ?_ ?_
    rotate_left
    · intro wS hS; (try dsimp only at hS); go_simp <;> with_reducible rfl
    try simp only [Act.put, List.setIfInBounds_toArray, List.set_cons_zero, List.set_cons_succ]
    refine grow_take 4 (some 128) ?_ rfl rfl (by kernel_rfl) (fun _ _ _ h => h) (by kernel_rfl) hCalm ?_ ?_
    rotate_left
    · intro wS hS; (try dsimp only at hS); go_simp <;> with_reducible rfl
    try simp only [Act.put, List.setIfInBounds_toArray, List.set_cons_zero, List.set_cons_succ]
    refine grow_take 5 (some 129) ?_ rfl rfl (by kernel_rfl) (fun _ _ _ h => h) (by kernel_rfl) hCalm ?_ ?_
    rotate_left
    · intro wS hS; (try dsimp only at hS); go_simp <;> with_reducible rfl
    try simp only [Act.put, List.setIfInBounds_toArray, List.set_cons_zero, List.set_cons_succ]
    refine grow_take 6 (some 130) ?_ rfl rfl (by kernel_rfl) (fun _ _ _ h => h) (by kernel_rfl) hCalm ?_ ?_
    rotate_left
    · intro wS hS; (try dsimp only at hS); go_simp <;> with_reducible rfl
    try simp only [Act.put, List.setIfInBounds_toArray, List.set_cons_zero, List.set_cons_succ]
    refine grow_call 7 (some 131) (.bool false) 33 [.tmp 127, .tmp 128, .tmp 129, .tmp 130] #[26, 26, 26, 26] rfl rfl (by kernel_rfl) (fun _ _ _ h => h) (by kernel_rfl) hCalm rfl (enters_of Tryz.func33 (by kernel_rfl) rfl) (fun wz _ => HX.out wz) (by kernel_rfl) ?_
    try simp only [Act.put, List.setIfInBounds_toArray, List.set_cons_zero, List.set_cons_succ]
    refine grow_take 8 (some 132) (.bool true) rfl rfl (by kernel_rfl) (fun _ _ _ h => h) (by kernel_rfl) hCalm ?_ ?_
    · intro wS hS; (try dsimp only at hS); go_simp
      all_goals simp
    try simp only [Act.put, List.setIfInBounds_toArray, List.set_cons_zero, List.set_cons_succ]
    refine grow_take 9 (some 133) ?_ rfl rfl (by kernel_rfl) (fun _ _ _ h => h) (by kernel_rfl) hCalm ?_ ?_
    rotate_left
    · intro wS hS; (try dsimp only at hS); go_simp <;> with_reducible rfl
    try simp only [Act.put, List.setIfInBounds_toArray, List.set_cons_zero, List.set_cons_succ]
    refine grow_take 10 (some 134) ?_ rfl rfl (by kernel_rfl) (fun _ _ _ h => h) (by kernel_rfl) hCalm ?_ ?_
    rotate_left
    · intro wS hS; (try dsimp only at hS); go_simp <;> with_reducible rfl
    try simp only [Act.put, List.setIfInBounds_toArray, List.set_cons_zero, List.set_cons_succ]
    refine grow_take 11 (some 135) ?_ rfl rfl (by kernel_rfl) (fun _ _ _ h => h) (by kernel_rfl) hCalm ?_ ?_
    rotate_left
    · intro wS hS; (try dsimp only at hS); go_simp <;> with_reducible rfl
    try simp only [Act.put, List.setIfInBounds_toArray, List.set_cons_zero, List.set_cons_succ]
    refine grow_call 12 (some 136) (.int .i64 k1) 40 [.tmp 134, .tmp 135] #[47, 47] rfl rfl (by kernel_rfl) (fun _ _ _ h => h) (by kernel_rfl) hCalm rfl (enters_of Tryz.func40 (by kernel_rfl) rfl) (fun wz _ => HC1.out wz) (by kernel_rfl) ?_
    try simp only [Act.put, List.setIfInBounds_toArray, List.set_cons_zero, List.set_cons_succ]
    refine grow_take 13 (some 137) (.bool true) rfl rfl (by kernel_rfl) (fun _ _ _ h => h) (by kernel_rfl) hCalm ?_ ?_
    · intro wS hS; (try dsimp only at hS); go_simp
      all_goals omega
    try simp only [Act.put, List.setIfInBounds_toArray, List.set_cons_zero, List.set_cons_succ]
    refine grow_take 14 (some 138) ?_ rfl rfl (by kernel_rfl) (fun _ _ _ h => h) (by kernel_rfl) hCalm ?_ ?_
    rotate_left
    · intro wS hS; (try dsimp only at hS); go_simp <;> with_reducible rfl
    try simp only [Act.put, List.setIfInBounds_toArray, List.set_cons_zero, List.set_cons_succ]
    refine grow_take 15 (some 139) ?_ rfl rfl (by kernel_rfl) (fun _ _ _ h => h) (by kernel_rfl) hCalm ?_ ?_
    rotate_left
    · intro wS hS; (try dsimp only at hS); go_simp <;> with_reducible rfl
    try simp only [Act.put, List.setIfInBounds_toArray, List.set_cons_zero, List.set_cons_succ]
    refine grow_take 16 (some 140) ?_ rfl rfl (by kernel_rfl) (fun _ _ _ h => h) (by kernel_rfl) hCalm ?_ ?_
    rotate_left
    · intro wS hS; (try dsimp only at hS); go_simp <;> with_reducible rfl
    try simp only [Act.put, List.setIfInBounds_toArray, List.set_cons_zero, List.set_cons_succ]
    refine grow_take 17 (some 141) ?_ rfl rfl (by kernel_rfl) (fun _ _ _ h => h) (by kernel_rfl) hCalm ?_ ?_
    rotate_left
    · intro wS hS; (try dsimp only at hS); go_simp <;> with_reducible rfl
    try simp only [Act.put, List.setIfInBounds_toArray, List.set_cons_zero, List.set_cons_succ]
    refine grow_call 18 (some 142) (.int .i64 k2) 40 [.tmp 140, .tmp 141] #[47, 47] rfl rfl (by kernel_rfl) (fun _ _ _ h => h) (by kernel_rfl) hCalm rfl (enters_of Tryz.func40 (by kernel_rfl) rfl) (fun wz _ => HC2.out wz) (by kernel_rfl) ?_
    try simp only [Act.put, List.setIfInBounds_toArray, List.set_cons_zero, List.set_cons_succ]
    refine grow_take 19 (some 143) (.bool true) rfl rfl (by kernel_rfl) (fun _ _ _ h => h) (by kernel_rfl) hCalm ?_ ?_
    · intro wS hS; (try dsimp only at hS); go_simp
      all_goals omega
    try simp only [Act.put, List.setIfInBounds_toArray, List.set_cons_zero, List.set_cons_succ]
    refine grow_take 20 (some 144) ?_ rfl rfl (by kernel_rfl) (fun _ _ _ h => h) (by kernel_rfl) hCalm ?_ ?_
    rotate_left
    · intro wS hS; (try dsimp only at hS); go_simp <;> with_reducible rfl
    try simp only [Act.put, List.setIfInBounds_toArray, List.set_cons_zero, List.set_cons_succ]
    refine grow_take 21 (some 145) ?_ rfl rfl (by kernel_rfl) (fun _ _ _ h => h) (by kernel_rfl) hCalm ?_ ?_
    rotate_left
    · intro wS hS; (try dsimp only at hS); go_simp <;> with_reducible rfl
    try simp only [Act.put, List.setIfInBounds_toArray, List.set_cons_zero, List.set_cons_succ]
    refine grow_take 22 (some 146) ?_ rfl rfl (by kernel_rfl) (fun _ _ _ h => h) (by kernel_rfl) hCalm ?_ ?_
    rotate_left
    · intro wS hS; (try dsimp only at hS); go_simp <;> with_reducible rfl
    try simp only [Act.put, List.setIfInBounds_toArray, List.set_cons_zero, List.set_cons_succ]
    refine grow_take 23 (some 147) ?_ rfl rfl (by kernel_rfl) (fun _ _ _ h => h) (by kernel_rfl) hCalm ?_ ?_
    rotate_left
    · intro wS hS; (try dsimp only at hS); go_simp <;> with_reducible rfl
    try simp only [Act.put, List.setIfInBounds_toArray, List.set_cons_zero, List.set_cons_succ]
    refine grow_call 24 (some 148) (.int .i64 k3) 40 [.tmp 146, .tmp 147] #[47, 47] rfl rfl (by kernel_rfl) (fun _ _ _ h => h) (by kernel_rfl) hCalm rfl (enters_of Tryz.func40 (by kernel_rfl) rfl) (fun wz _ => HC3.out wz) (by kernel_rfl) ?_
    try simp only [Act.put, List.setIfInBounds_toArray, List.set_cons_zero, List.set_cons_succ]
    refine grow_take 25 (some 149) (.bool true) rfl rfl (by kernel_rfl) (fun _ _ _ h => h) (by kernel_rfl) hCalm ?_ ?_
    · intro wS hS; (try dsimp only at hS); go_simp
      all_goals omega
    try simp only [Act.put, List.setIfInBounds_toArray, List.set_cons_zero, List.set_cons_succ]
    refine grow_take 26 (some 150) ?_ rfl rfl (by kernel_rfl) (fun _ _ _ h => h) (by kernel_rfl) hCalm ?_ ?_
    rotate_left
    · intro wS hS; (try dsimp only at hS); go_simp <;> with_reducible rfl
    try simp only [Act.put, List.setIfInBounds_toArray, List.set_cons_zero, List.set_cons_succ]
    refine grow_take 27 (some 151) ?_ rfl rfl (by kernel_rfl) (fun _ _ _ h => h) (by kernel_rfl) hCalm ?_ ?_
    rotate_left
    · intro wS hS; (try dsimp only at hS); go_simp <;> with_reducible rfl
    try simp only [Act.put, List.setIfInBounds_toArray, List.set_cons_zero, List.set_cons_succ]
    refine grow_take 28 (some 152) ?_ rfl rfl (by kernel_rfl) (fun _ _ _ h => h) (by kernel_rfl) hCalm ?_ ?_
    rotate_left
    · intro wS hS; (try dsimp only at hS); go_simp <;> with_reducible rfl
    try simp only [Act.put, List.setIfInBounds_toArray, List.set_cons_zero, List.set_cons_succ]
    refine grow_take 29 (some 153) ?_ rfl rfl (by kernel_rfl) (fun _ _ _ h => h) (by kernel_rfl) hCalm ?_ ?_
    rotate_left
    · intro wS hS; (try dsimp only at hS); go_simp <;> with_reducible rfl
    try simp only [Act.put, List.setIfInBounds_toArray, List.set_cons_zero, List.set_cons_succ]
    refine grow_call 30 (some 154) (.agg #[.string o1, .string o2]) 39 [.tmp 153, .const (Go.Value.int Go.IntKind.i64 1)] #[3, 3] rfl rfl (by kernel_rfl) (fun _ _ _ h => h) (by kernel_rfl) hCalm rfl (enters_of Tryz.func39 (by kernel_rfl) rfl) (fun wz _ => HP1.out wz) (by kernel_rfl) ?_
    try simp only [Act.put, List.setIfInBounds_toArray, List.set_cons_zero, List.set_cons_succ]
    refine grow_take 31 (some 155) (.bool true) rfl rfl (by kernel_rfl) (fun _ _ _ h => h) (by kernel_rfl) hCalm ?_ ?_
    · intro wS hS; (try dsimp only at hS); go_simp
      all_goals simp
    try simp only [Act.put, List.setIfInBounds_toArray, List.set_cons_zero, List.set_cons_succ]
    refine grow_take 32 (some 156) ?_ rfl rfl (by kernel_rfl) (fun _ _ _ h => h) (by kernel_rfl) hCalm ?_ ?_
    rotate_left
    · intro wS hS; (try dsimp only at hS); go_simp <;> with_reducible rfl
    try simp only [Act.put, List.setIfInBounds_toArray, List.set_cons_zero, List.set_cons_succ]
    refine grow_take 33 (some 4) ?_ rfl rfl (by kernel_rfl) (fun _ _ _ h => h) (by kernel_rfl) hCalm ?_ ?_
    rotate_left
    · intro wS hS; (try dsimp only at hS); go_simp <;> with_reducible rfl
    try simp only [Act.put, List.setIfInBounds_toArray, List.set_cons_zero, List.set_cons_succ]
    refine grow_done (by kernel_rfl) (fun wA hA => ?_) _
    have HBE := Lib.hid (HB_10.out.trans (hA.mono HB_10.out.size))
    go_wp2_with fail
    go_ret
    exact ⟨rfl, HBE.out⟩
  case true =>
    obtain ⟨rfl, rfl⟩ := HY1.out rfl
    refine wp_region_grow (S := (fun w' => w'.cell? ⟨v4.heap.size, 0, none⟩ = some (.string sn) ∧ w'.cell? ⟨v4.heap.size, 1, none⟩ = some (.string sd) ∧ w'.cell? ⟨v9.heap.size, 0, none⟩ = some (.string sn) ∧ w'.cell? ⟨v9.heap.size, 1, none⟩ = some (.string sd) ∧ w'.cell? ⟨v1.heap.size, 0, none⟩ = some (.int .i64 p.x) ∧ w'.cell? ⟨v1.heap.size, 1, none⟩ = some (.int .i64 p.y) ∧ w'.cell? ⟨v2.heap.size, 0, none⟩ = some (.int .i64 a.x) ∧ w'.cell? ⟨v2.heap.size, 1, none⟩ = some (.int .i64 a.y) ∧ w'.cell? ⟨v3.heap.size, 0, none⟩ = some (.int .i64 b.x) ∧ w'.cell? ⟨v3.heap.size, 1, none⟩ = some (.int .i64 b.y) ∧ w'.cell? ⟨v7.heap.size, 0, none⟩ = some (.string o1) ∧ w'.cell? ⟨v7.heap.size, 1, none⟩ = some (.string o2) ∧ w'.cell? ⟨v8.heap.size, 0, none⟩ = some (.string q1) ∧ w'.cell? ⟨v8.heap.size, 1, none⟩ = some (.string q2))) ((fun w' => Below (v9.alloc (.cells #[.string sn, .string sd] 47)).heap.size (v9.alloc (.cells #[.string sn, .string sd] 47)) w')) (by kernel_rfl) (⟨fun w2 h2 => ⟨(F_10.out.below h2 F_10.out.lt).cell (i := 0) (v := .string sn) rfl, (F_10.out.below h2 F_10.out.lt).cell (i := 1) (v := .string sd) rfl, (Z_10.out.below h2 Z_10.out.lt).cell (i := 0) (v := .string sn) rfl, (Z_10.out.below h2 Z_10.out.lt).cell (i := 1) (v := .string sd) rfl, (P_10.out.below h2 P_10.out.lt).cell (i := 0) (v := .int .i64 p.x) rfl, (P_10.out.below h2 P_10.out.lt).cell (i := 1) (v := .int .i64 p.y) rfl, (A_10.out.below h2 A_10.out.lt).cell (i := 0) (v := .int .i64 a.x) rfl, (A_10.out.below h2 A_10.out.lt).cell (i := 1) (v := .int .i64 a.y) rfl, (B_10.out.below h2 B_10.out.lt).cell (i := 0) (v := .int .i64 b.x) rfl, (B_10.out.below h2 B_10.out.lt).cell (i := 1) (v := .int .i64 b.y) rfl, (O_10.out.below h2 O_10.out.lt).cell (i := 0) (v := .string o1) rfl, (O_10.out.below h2 O_10.out.lt).cell (i := 1) (v := .string o2) rfl, (Q_10.out.below h2 Q_10.out.lt).cell (i := 0) (v := .string q1) rfl, (Q_10.out.below h2 Q_10.out.lt).cell (i := 1) (v := .string q2) rfl⟩, fun w2 w3 h2 hb2 => h2.trans (hb2.mono h2.size)⟩) ((Below.refl (v9.alloc (.cells #[.string sn, .string sd] 47)).heap.size (v9.alloc (.cells #[.string sn, .string sd] 47))).drew) (fun hCalm => ?_)
    refine grow_take 0 (some 124) ?_ rfl rfl (by kernel_rfl) (fun _ _ _ h => h) (by kernel_rfl) hCalm ?_ ?_
    rotate_left
    · intro wS hS; (try dsimp only at hS); go_simp <;> with_reducible rfl
    try simp only [Act.put, List.setIfInBounds_toArray, List.set_cons_zero, List.set_cons_succ]
    refine grow_take 1 (some 125) ?_ rfl rfl (by kernel_rfl) (fun _ _ _ h => h) (by kernel_rfl) hCalm ?_ ?_
    rotate_left
    · intro wS hS; (try dsimp only at hS); go_simp <;> with_reducible rfl
    try simp only [Act.put, List.setIfInBounds_toArray, List.set_cons_zero, List.set_cons_succ]
    refine grow_take 2 (some 126) (.bool true) rfl rfl (by kernel_rfl) (fun _ _ _ h => h) (by kernel_rfl) hCalm ?_ ?_
    · intro wS hS; (try dsimp only at hS); go_simp
      all_goals simp
    try simp only [Act.put, List.setIfInBounds_toArray, List.set_cons_zero, List.set_cons_succ]
    refine grow_take 3 (some 127) ?_ rfl rfl (by kernel_rfl) (fun _ _ _ h => h) (by kernel_rfl) hCalm ?_ ?_
    rotate_left
    · intro wS hS; (try dsimp only at hS); go_simp <;> with_reducible rfl
    try simp only [Act.put, List.setIfInBounds_toArray, List.set_cons_zero, List.set_cons_succ]
    refine grow_take 4 (some 128) ?_ rfl rfl (by kernel_rfl) (fun _ _ _ h => h) (by kernel_rfl) hCalm ?_ ?_
    rotate_left
    · intro wS hS; (try dsimp only at hS); go_simp <;> with_reducible rfl
    try simp only [Act.put, List.setIfInBounds_toArray, List.set_cons_zero, List.set_cons_succ]
    refine grow_take 5 (some 129) ?_ rfl rfl (by kernel_rfl) (fun _ _ _ h => h) (by kernel_rfl) hCalm ?_ ?_
    rotate_left
    · intro wS hS; (try dsimp only at hS); go_simp <;> with_reducible rfl
    try simp only [Act.put, List.setIfInBounds_toArray, List.set_cons_zero, List.set_cons_succ]
    refine grow_take 6 (some 130) ?_ rfl rfl (by kernel_rfl) (fun _ _ _ h => h) (by kernel_rfl) hCalm ?_ ?_
    rotate_left
    · intro wS hS; (try dsimp only at hS); go_simp <;> with_reducible rfl
    try simp only [Act.put, List.setIfInBounds_toArray, List.set_cons_zero, List.set_cons_succ]
    refine grow_call 7 (some 131) (.bool true) 33 [.tmp 127, .tmp 128, .tmp 129, .tmp 130] #[26, 26, 26, 26] rfl rfl (by kernel_rfl) (fun _ _ _ h => h) (by kernel_rfl) hCalm rfl (enters_of Tryz.func33 (by kernel_rfl) rfl) (fun wz _ => HX.out wz) (by kernel_rfl) ?_
    try simp only [Act.put, List.setIfInBounds_toArray, List.set_cons_zero, List.set_cons_succ]
    refine grow_take 8 (some 132) (.bool true) rfl rfl (by kernel_rfl) (fun _ _ _ h => h) (by kernel_rfl) hCalm ?_ ?_
    · intro wS hS; (try dsimp only at hS); go_simp
      all_goals simp
    try simp only [Act.put, List.setIfInBounds_toArray, List.set_cons_zero, List.set_cons_succ]
    refine grow_take 9 (some 133) ?_ rfl rfl (by kernel_rfl) (fun _ _ _ h => h) (by kernel_rfl) hCalm ?_ ?_
    rotate_left
    · intro wS hS; (try dsimp only at hS); go_simp <;> with_reducible rfl
    try simp only [Act.put, List.setIfInBounds_toArray, List.set_cons_zero, List.set_cons_succ]
    refine grow_take 10 (some 134) ?_ rfl rfl (by kernel_rfl) (fun _ _ _ h => h) (by kernel_rfl) hCalm ?_ ?_
    rotate_left
    · intro wS hS; (try dsimp only at hS); go_simp <;> with_reducible rfl
    try simp only [Act.put, List.setIfInBounds_toArray, List.set_cons_zero, List.set_cons_succ]
    refine grow_take 11 (some 135) ?_ rfl rfl (by kernel_rfl) (fun _ _ _ h => h) (by kernel_rfl) hCalm ?_ ?_
    rotate_left
    · intro wS hS; (try dsimp only at hS); go_simp <;> with_reducible rfl
    try simp only [Act.put, List.setIfInBounds_toArray, List.set_cons_zero, List.set_cons_succ]
    refine grow_call 12 (some 136) (.int .i64 k1) 40 [.tmp 134, .tmp 135] #[47, 47] rfl rfl (by kernel_rfl) (fun _ _ _ h => h) (by kernel_rfl) hCalm rfl (enters_of Tryz.func40 (by kernel_rfl) rfl) (fun wz _ => HC1.out wz) (by kernel_rfl) ?_
    try simp only [Act.put, List.setIfInBounds_toArray, List.set_cons_zero, List.set_cons_succ]
    refine grow_take 13 (some 137) (.bool true) rfl rfl (by kernel_rfl) (fun _ _ _ h => h) (by kernel_rfl) hCalm ?_ ?_
    · intro wS hS; (try dsimp only at hS); go_simp
      all_goals omega
    try simp only [Act.put, List.setIfInBounds_toArray, List.set_cons_zero, List.set_cons_succ]
    refine grow_take 14 (some 138) ?_ rfl rfl (by kernel_rfl) (fun _ _ _ h => h) (by kernel_rfl) hCalm ?_ ?_
    rotate_left
    · intro wS hS; (try dsimp only at hS); go_simp <;> with_reducible rfl
    try simp only [Act.put, List.setIfInBounds_toArray, List.set_cons_zero, List.set_cons_succ]
    refine grow_take 15 (some 139) ?_ rfl rfl (by kernel_rfl) (fun _ _ _ h => h) (by kernel_rfl) hCalm ?_ ?_
    rotate_left
    · intro wS hS; (try dsimp only at hS); go_simp <;> with_reducible rfl
    try simp only [Act.put, List.setIfInBounds_toArray, List.set_cons_zero, List.set_cons_succ]
    refine grow_take 16 (some 140) ?_ rfl rfl (by kernel_rfl) (fun _ _ _ h => h) (by kernel_rfl) hCalm ?_ ?_
    rotate_left
    · intro wS hS; (try dsimp only at hS); go_simp <;> with_reducible rfl
    try simp only [Act.put, List.setIfInBounds_toArray, List.set_cons_zero, List.set_cons_succ]
    refine grow_take 17 (some 141) ?_ rfl rfl (by kernel_rfl) (fun _ _ _ h => h) (by kernel_rfl) hCalm ?_ ?_
    rotate_left
    · intro wS hS; (try dsimp only at hS); go_simp <;> with_reducible rfl
    try simp only [Act.put, List.setIfInBounds_toArray, List.set_cons_zero, List.set_cons_succ]
    refine grow_call 18 (some 142) (.int .i64 k2) 40 [.tmp 140, .tmp 141] #[47, 47] rfl rfl (by kernel_rfl) (fun _ _ _ h => h) (by kernel_rfl) hCalm rfl (enters_of Tryz.func40 (by kernel_rfl) rfl) (fun wz _ => HC2.out wz) (by kernel_rfl) ?_
    try simp only [Act.put, List.setIfInBounds_toArray, List.set_cons_zero, List.set_cons_succ]
    refine grow_take 19 (some 143) (.bool true) rfl rfl (by kernel_rfl) (fun _ _ _ h => h) (by kernel_rfl) hCalm ?_ ?_
    · intro wS hS; (try dsimp only at hS); go_simp
      all_goals omega
    try simp only [Act.put, List.setIfInBounds_toArray, List.set_cons_zero, List.set_cons_succ]
    refine grow_take 20 (some 144) ?_ rfl rfl (by kernel_rfl) (fun _ _ _ h => h) (by kernel_rfl) hCalm ?_ ?_
    rotate_left
    · intro wS hS; (try dsimp only at hS); go_simp <;> with_reducible rfl
    try simp only [Act.put, List.setIfInBounds_toArray, List.set_cons_zero, List.set_cons_succ]
    refine grow_take 21 (some 145) ?_ rfl rfl (by kernel_rfl) (fun _ _ _ h => h) (by kernel_rfl) hCalm ?_ ?_
    rotate_left
    · intro wS hS; (try dsimp only at hS); go_simp <;> with_reducible rfl
    try simp only [Act.put, List.setIfInBounds_toArray, List.set_cons_zero, List.set_cons_succ]
    refine grow_take 22 (some 146) ?_ rfl rfl (by kernel_rfl) (fun _ _ _ h => h) (by kernel_rfl) hCalm ?_ ?_
    rotate_left
    · intro wS hS; (try dsimp only at hS); go_simp <;> with_reducible rfl
    try simp only [Act.put, List.setIfInBounds_toArray, List.set_cons_zero, List.set_cons_succ]
    refine grow_take 23 (some 147) ?_ rfl rfl (by kernel_rfl) (fun _ _ _ h => h) (by kernel_rfl) hCalm ?_ ?_
    rotate_left
    · intro wS hS; (try dsimp only at hS); go_simp <;> with_reducible rfl
    try simp only [Act.put, List.setIfInBounds_toArray, List.set_cons_zero, List.set_cons_succ]
    refine grow_call 24 (some 148) (.int .i64 k3) 40 [.tmp 146, .tmp 147] #[47, 47] rfl rfl (by kernel_rfl) (fun _ _ _ h => h) (by kernel_rfl) hCalm rfl (enters_of Tryz.func40 (by kernel_rfl) rfl) (fun wz _ => HC3.out wz) (by kernel_rfl) ?_
    try simp only [Act.put, List.setIfInBounds_toArray, List.set_cons_zero, List.set_cons_succ]
    refine grow_take 25 (some 149) (.bool true) rfl rfl (by kernel_rfl) (fun _ _ _ h => h) (by kernel_rfl) hCalm ?_ ?_
    · intro wS hS; (try dsimp only at hS); go_simp
      all_goals omega
    try simp only [Act.put, List.setIfInBounds_toArray, List.set_cons_zero, List.set_cons_succ]
    refine grow_take 26 (some 150) ?_ rfl rfl (by kernel_rfl) (fun _ _ _ h => h) (by kernel_rfl) hCalm ?_ ?_
    rotate_left
    · intro wS hS; (try dsimp only at hS); go_simp <;> with_reducible rfl
    try simp only [Act.put, List.setIfInBounds_toArray, List.set_cons_zero, List.set_cons_succ]
    refine grow_take 27 (some 151) ?_ rfl rfl (by kernel_rfl) (fun _ _ _ h => h) (by kernel_rfl) hCalm ?_ ?_
    rotate_left
    · intro wS hS; (try dsimp only at hS); go_simp <;> with_reducible rfl
    try simp only [Act.put, List.setIfInBounds_toArray, List.set_cons_zero, List.set_cons_succ]
    refine grow_take 28 (some 152) ?_ rfl rfl (by kernel_rfl) (fun _ _ _ h => h) (by kernel_rfl) hCalm ?_ ?_
    rotate_left
    · intro wS hS; (try dsimp only at hS); go_simp <;> with_reducible rfl
    try simp only [Act.put, List.setIfInBounds_toArray, List.set_cons_zero, List.set_cons_succ]
    refine grow_take 29 (some 153) ?_ rfl rfl (by kernel_rfl) (fun _ _ _ h => h) (by kernel_rfl) hCalm ?_ ?_
    rotate_left
    · intro wS hS; (try dsimp only at hS); go_simp <;> with_reducible rfl
    try simp only [Act.put, List.setIfInBounds_toArray, List.set_cons_zero, List.set_cons_succ]
    refine grow_call 30 (some 154) (.agg #[.string o1, .string o2]) 39 [.tmp 153, .const (Go.Value.int Go.IntKind.i64 1)] #[3, 3] rfl rfl (by kernel_rfl) (fun _ _ _ h => h) (by kernel_rfl) hCalm rfl (enters_of Tryz.func39 (by kernel_rfl) rfl) (fun wz _ => HP1.out wz) (by kernel_rfl) ?_
    try simp only [Act.put, List.setIfInBounds_toArray, List.set_cons_zero, List.set_cons_succ]
    refine grow_take 31 (some 155) (.bool true) rfl rfl (by kernel_rfl) (fun _ _ _ h => h) (by kernel_rfl) hCalm ?_ ?_
    · intro wS hS; (try dsimp only at hS); go_simp
      all_goals simp
    try simp only [Act.put, List.setIfInBounds_toArray, List.set_cons_zero, List.set_cons_succ]
    refine grow_take 32 (some 156) ?_ rfl rfl (by kernel_rfl) (fun _ _ _ h => h) (by kernel_rfl) hCalm ?_ ?_
    rotate_left
    · intro wS hS; (try dsimp only at hS); go_simp <;> with_reducible rfl
    try simp only [Act.put, List.setIfInBounds_toArray, List.set_cons_zero, List.set_cons_succ]
    refine grow_take 33 (some 4) ?_ rfl rfl (by kernel_rfl) (fun _ _ _ h => h) (by kernel_rfl) hCalm ?_ ?_
    rotate_left
    · intro wS hS; (try dsimp only at hS); go_simp <;> with_reducible rfl
    try simp only [Act.put, List.setIfInBounds_toArray, List.set_cons_zero, List.set_cons_succ]
    refine grow_done (by kernel_rfl) (fun wA hA => ?_) _
    have HBE := Lib.hid (HB_10.out.trans (hA.mono HB_10.out.size))
    go_wp2_with fail
    go_ret
    exact ⟨rfl, HBE.out⟩
end Go.Proofs.YtgimceikeedkoaaGreat
