/- RationalMachine: the law's walk. Conditions: ints. -/
import Derived.Deep.CutRange
import Derived.Test.YtnacgdkihkfjkaaGQ
import Derived.Test.YtnacgdkihkfjkaaGJ
import Derived.Test.YtnacgdkihkfjkaaKFldL4
import Derived.Test.YtnacgdkihkfjkaaGF
namespace Go.Proofs.Ytnacgdkihkfjkaa
open Go.RowKit Go.Lib

theorem pick_sub (c : Int) (w : World) (h : -9223372036854775808 ≤ c ∧ c ≤ 9223372036854775807) : Calls Try.prog 17 #[.int .i64 c, .int .i64 60001] w fun e w' => ∃ N : Int, (-30000 ≤ N ∧ N ≤ 30000) ∧ e = .returned (.int .i64 (N + 30000)) ∧ w = w' :=
  (pick_any c 60001 w h (by omega)).mono fun e w' ⟨k, hk, he, hw⟩ => ⟨(k : Int) - 30000, by omega, by rw [he]; congr 2; omega, hw⟩
theorem pick_add (c : Int) (w : World) (h : -9223372036854775808 ≤ c ∧ c ≤ 9223372036854775807) : Calls Try.prog 17 #[.int .i64 c, .int .i64 30000] w fun e w' => ∃ D : Int, (1 ≤ D ∧ D ≤ 30000) ∧ 1 + (D - 1) = D ∧ e = .returned (.int .i64 (D - 1)) ∧ w = w' :=
  (pick_any c 30000 w h (by omega)).mono fun e w' ⟨k, hk, he, hw⟩ => ⟨1 + (k : Int), by omega, by omega, by rw [he]; congr 2; omega, hw⟩
theorem mac_to {x : Int} (h1 : x.natAbs < 10 ^ 200) (h : -1800000000 ≤ x ∧ x ≤ 1800000000) (w : World) : Calls Try.prog 21 #[.string (zS x)] w fun e w' => e = .returned (.tuple #[.int .i64 x, .int .i64 0]) ∧ Below w.heap.size w w' := by
  have ht := qtoint_any (zS x) w (zs x x h1 h1).1
  unfold toR at ht
  rw [zS_rd h1] at ht
  have e : ((some x).bind fun z => if -9223372036854775808 ≤ z ∧ z ≤ 9223372036854775807 then some z else none) = some x := by show (if _ then _ else _) = _; rw [if_pos (by omega)]
  rw [e] at ht
  exact ht
theorem mac_of {N D : Int} (hN : -30000 ≤ N ∧ N ≤ 30000) (hD : 1 ≤ D ∧ D ≤ 30000) (w : World) : Calls Try.prog 19 #[.int .i64 N, .int .i64 D] w fun e w' => e = .returned (.tuple #[.agg #[.string (qN (some (red N D))), .string (qD (some (red N D)))], .int .i64 0]) ∧ Below w.heap.size w w' := by
  have h := of_any N D w (by omega) (by omega)
  unfold ofR at h
  rw [if_neg (by omega)] at h
  exact h
theorem mac_valid {x y : Int} (h : Good (x, y)) (w : World) : Calls Try.prog 16 #[.agg #[.string (zS x), .string (zS y)]] w fun e w' => e = .returned (.bool true) ∧ Below w.heap.size w w' := by
  have hv := fvalid_any (zS x) (zS y) w (good_zs h).1 (good_zs h).2
  rw [good_rd h] at hv
  exact hv
set_option maxRecDepth 100000 in
set_option maxHeartbeats 40000000 in
theorem machine_law (n d m c : Int) (w : World) (hn : -9223372036854775808 ≤ n ∧ n ≤ 9223372036854775807) (hd : -9223372036854775808 ≤ d ∧ d ≤ 9223372036854775807) (hm : -9223372036854775808 ≤ m ∧ m ≤ 9223372036854775807) (hc : -9223372036854775808 ≤ c ∧ c ≤ 9223372036854775807) :
    Calls Try.prog 4 #[.int .i64 n, .int .i64 d, .int .i64 m, .int .i64 c] w fun e w' => e = .returned (.bool true) ∧ Below w.heap.size w w' := by
  have HSA := Lib.hid (fun W => sane_any W)
  have K1 := Lib.hid (fun W => pick_sub n W hn); have K2 := Lib.hid (fun W => pick_sub m W hm); have K3 := Lib.hid (fun W => pick_add d W hd); have K4 := Lib.hid (fun W => pick_add c W hc)
  clear hn hd hm hc
  go_enter Try.func4, Try.ntmps4
  go_wp2_with fail
  refine (HSA.out _).mono ?_
  rintro e w1 ⟨rfl, hb⟩
  have HB_0 := Lib.hid hb
  clear hb
  go_wp2_with fail
  refine (K1.out _).mono ?_
  rintro e w2 ⟨N, hN, rfl, rfl⟩
  go_wp2_with fail
  refine (K2.out _).mono ?_
  rintro e w2 ⟨M, hM, rfl, rfl⟩
  go_wp2_with fail
  refine (K3.out _).mono ?_
  rintro e w2 ⟨D, hD, hDe, rfl, rfl⟩
  go_wp2_with fail
  refine (K4.out _).mono ?_
  rintro e w2 ⟨C, hC, hCe, rfl, rfl⟩
  go_wp2_with fail
  clear hDe hCe
  have OF1 := Lib.hid (fun W => mac_of hN hD W)
  have OF2 := Lib.hid (fun W => mac_of hM hC W)
  have ga := (red_small hN hD).2.2.2
  have gb := (red_small hM hC).2.2.2
  have hcv := mac_cv hN hM hD hC
  have hr0 := mac_add hN hM hD hC
  have hr1 := mac_sub hN hM hD hC
  have hr2 := mac_mul hN hM hD hC
  have hr3 : (M = 0 ∧ divQ (some (red N D)) (some (red M C)) = none) ∨ (M ≠ 0 ∧ MacR (divQ (some (red N D)) (some (red M C))) (N * C) (D * M)) := by
    by_cases h : M = 0
    · left; refine ⟨h, ?_⟩; rw [h]; exact mac_no hN hD hC
    · exact .inr ⟨h, mac_div hN hM hD hC h⟩
  have hf := fun W => four_O (gdO_some ga) (gdO_some gb) W
  have hcc := fun W => cmpc_good ga gb W
  rw [hcv] at hcc
  have e1 := prod_le (a := 30000) (b := 30000) (by omega) (by omega) hN (show -30000 ≤ C ∧ C ≤ 30000 by omega)
  have e2 := prod_le (a := 30000) (b := 30000) (by omega) (by omega) hM (show -30000 ≤ D ∧ D ≤ 30000 by omega)
  have e3 := prod_le (a := 30000) (b := 30000) (by omega) (by omega) (show -30000 ≤ D ∧ D ≤ 30000 by omega) (show -30000 ≤ C ∧ C ≤ 30000 by omega)
  have e4 := prod_le (a := 30000) (b := 30000) (by omega) (by omega) hN hM
  have e5 := prod_le (a := 30000) (b := 30000) (by omega) (by omega) (show -30000 ≤ D ∧ D ≤ 30000 by omega) hM
  generalize red N D = qa at *
  generalize red M C = qb at *
  obtain ⟨pa, hpa⟩ : ∃ p, p = some qa := ⟨_, rfl⟩
  obtain ⟨pb, hpb⟩ : ∃ p, p = some qb := ⟨_, rfl⟩
  rw [← hpa, ← hpb] at hf hr0 hr1 hr2 hr3
  rw [← hpa] at OF1
  rw [← hpb] at OF2
  obtain ⟨x0, y0, z0, g0, b0, c0, d0⟩ := hr0
  obtain ⟨x1, y1, z1, g1, b1, c1, d1⟩ := hr1
  obtain ⟨x2, y2, z2, g2, b2, c2, d2⟩ := hr2
  rw [z0, z1, z2] at hf
  obtain ⟨n3, d3, z3, hq3⟩ : ∃ (n3 d3 : ByteArray) (z3 : Int), n3 = qN (divQ pa pb) ∧ d3 = qD (divQ pa pb) ∧ z3 = qE (divQ pa pb) := ⟨_, _, _, rfl, rfl, rfl⟩
  rw [← hq3.1, ← hq3.2.1, ← hq3.2.2] at hf
  have h3 : (M = 0 ∧ n3 = ⟨#[]⟩ ∧ d3 = ⟨#[]⟩ ∧ z3 = 40) ∨ (M ≠ 0 ∧ ∃ x3 y3 : Int, n3 = zS x3 ∧ d3 = zS y3 ∧ z3 = 0 ∧ Good (x3, y3) ∧ (1 ≤ y3 ∧ y3 ≤ 900000000) ∧ (-1800000000 ≤ x3 ∧ x3 ≤ 1800000000) ∧ x3 * (D * M) = N * C * y3) := by
    obtain ⟨t1, t2, t3⟩ := hq3
    rcases hr3 with ⟨h, h2⟩ | ⟨h, x3, y3, h2, g, b, c, d⟩
    · rw [h2] at t1 t2 t3; exact .inl ⟨h, t1, t2, t3⟩
    · rw [h2] at t1 t2 t3; exact .inr ⟨h, x3, y3, t1, t2, t3, g, b, c, d⟩
  have FO : Hid (∀ W, Calls Try.prog 20 #[.agg #[.string (qN pa), .string (qD pa)], .agg #[.string (qN pb), .string (qD pb)]] W fun e w' => e = .returned (.tuple #[.agg #[.string (zS x0), .string (zS y0), .string (zS x1), .string (zS y1), .string (zS x2), .string (zS y2), .string n3, .string d3], .agg #[.int .i64 0, .int .i64 0, .int .i64 0, .int .i64 z3]]) ∧ Below W.heap.size W w') := hf
  have CC : Hid (∀ W, Calls Try.prog 22 #[.agg #[.string (qN pa), .string (qD pa)], .agg #[.string (qN pb), .string (qD pb)]] W fun e w' => e = .returned (.int .i64 (ordI (N * C) (M * D))) ∧ Below W.heap.size W w') := fun W => by rw [hpa, hpb]; exact hcc W
  obtain ⟨P1, hP1⟩ : ∃ x, x = N * C := ⟨_, rfl⟩
  obtain ⟨P2, hP2⟩ : ∃ x, x = M * D := ⟨_, rfl⟩
  obtain ⟨P3, hP3⟩ : ∃ x, x = D * C := ⟨_, rfl⟩
  obtain ⟨P4, hP4⟩ : ∃ x, x = N * M := ⟨_, rfl⟩
  obtain ⟨P5, hP5⟩ : ∃ x, x = D * M := ⟨_, rfl⟩
  rw [← hP1, ← hP2] at CC
  rw [← hP1, ← hP2, ← hP3] at d0 d1
  rw [← hP4, ← hP3] at d2
  rw [← hP1, ← hP5] at h3
  rw [← hP1] at e1; rw [← hP2] at e2; rw [← hP3] at e3; rw [← hP4] at e4; rw [← hP5] at e5
  have w1' : IntKind.i64.wrap (N * C) = P1 := by rw [← hP1]; exact IntWalk.i64_in _ (by omega)
  have w2' : IntKind.i64.wrap (M * D) = P2 := by rw [← hP2]; exact IntWalk.i64_in _ (by omega)
  have w3' : IntKind.i64.wrap (D * C) = P3 := by rw [← hP3]; exact IntWalk.i64_in _ (by omega)
  have w4' : IntKind.i64.wrap (N * M) = P4 := by rw [← hP4]; exact IntWalk.i64_in _ (by omega)
  have w5' : IntKind.i64.wrap (D * M) = P5 := by rw [← hP5]; exact IntWalk.i64_in _ (by omega)
  obtain ⟨Q0, hQ0⟩ : ∃ x, x = P1 + P2 := ⟨_, rfl⟩
  obtain ⟨Q1, hQ1⟩ : ∃ x, x = P1 - P2 := ⟨_, rfl⟩
  have w6' : IntKind.i64.wrap (P1 + P2) = Q0 := by rw [← hQ0]; exact IntWalk.i64_in _ (by omega)
  have w7' : IntKind.i64.wrap (P1 - P2) = Q1 := by rw [← hQ1]; exact IntWalk.i64_in _ (by omega)
  rw [← hQ0] at d0
  rw [← hQ1] at d1
  have e6 : -1800000000 ≤ Q0 ∧ Q0 ≤ 1800000000 := by omega
  have e7 : -1800000000 ≤ Q1 ∧ Q1 ≤ 1800000000 := by omega
  have w8' : ∀ {x y a b : Int}, (-1800000000 ≤ x ∧ x ≤ 1800000000) → (-900000000 ≤ a ∧ a ≤ 900000000) → x * a = b * y → ∃ V, IntKind.i64.wrap (x * a) = V ∧ IntKind.i64.wrap (b * y) = V := fun {x y a b} h1 h2 h3 => by
    have := prod_le (a := 1800000000) (b := 900000000) (by omega) (by omega) h1 h2
    exact ⟨x * a, IntWalk.i64_in _ (by omega), by rw [← h3]; exact IntWalk.i64_in _ (by omega)⟩
  obtain ⟨V0, va0, vb0⟩ := w8' c0 (show -900000000 ≤ P3 ∧ P3 ≤ 900000000 by omega) d0
  obtain ⟨V1, va1, vb1⟩ := w8' c1 (show -900000000 ≤ P3 ∧ P3 ≤ 900000000 by omega) d1
  obtain ⟨V2, va2, vb2⟩ := w8' c2 (show -900000000 ≤ P3 ∧ P3 ≤ 900000000 by omega) d2
  have h3' : (M = 0 ∧ n3 = ⟨#[]⟩ ∧ d3 = ⟨#[]⟩ ∧ z3 = 40) ∨ (M ≠ 0 ∧ ∃ x3 y3 : Int, n3 = zS x3 ∧ d3 = zS y3 ∧ z3 = 0 ∧ Good (x3, y3) ∧ (1 ≤ y3 ∧ y3 ≤ 900000000) ∧ (-1800000000 ≤ x3 ∧ x3 ≤ 1800000000) ∧ ∃ V3, IntKind.i64.wrap (x3 * P5) = V3 ∧ IntKind.i64.wrap (P1 * y3) = V3) := by
    rcases h3 with h | ⟨h, x3, y3, t1, t2, t3, g, b, c, d⟩
    · exact .inl h
    · exact .inr ⟨h, x3, y3, t1, t2, t3, g, b, c, w8' c (show -900000000 ≤ P5 ∧ P5 ≤ 900000000 by omega) d⟩
  have TX0 := Lib.hid (fun W => mac_to g0.2.1 c0 W); have TY0 := Lib.hid (fun W => mac_to (x := y0) g0.2.2 (by omega) W); have VV0 := Lib.hid (fun W => mac_valid g0 W)
  have WV0 : Hid ((1 ≤ y0) ∧ IntKind.i64.wrap (x0 * P3) = V0 ∧ IntKind.i64.wrap (Q0 * y0) = V0) := ⟨b0.1, va0, vb0⟩
  have TX1 := Lib.hid (fun W => mac_to g1.2.1 c1 W); have TY1 := Lib.hid (fun W => mac_to (x := y1) g1.2.2 (by omega) W); have VV1 := Lib.hid (fun W => mac_valid g1 W)
  have WV1 : Hid ((1 ≤ y1) ∧ IntKind.i64.wrap (x1 * P3) = V1 ∧ IntKind.i64.wrap (Q1 * y1) = V1) := ⟨b1.1, va1, vb1⟩
  have TX2 := Lib.hid (fun W => mac_to g2.2.1 c2 W); have TY2 := Lib.hid (fun W => mac_to (x := y2) g2.2.2 (by omega) W); have VV2 := Lib.hid (fun W => mac_valid g2 W)
  have WV2 : Hid ((1 ≤ y2) ∧ IntKind.i64.wrap (x2 * P3) = V2 ∧ IntKind.i64.wrap (P4 * y2) = V2) := ⟨b2.1, va2, vb2⟩
  have H3 := Lib.hid h3'
  clear hf hcc hcv e1 e2 e3 e4 e5 e6 e7 w8' h3 h3' hq3 hr3 ga gb hN hM hD hC hP1 hP2 hP3 hP4 hP5 hQ0 hQ1 hpa hpb z0 g0 b0 c0 d0 va0 vb0 z1 g1 b1 c1 d1 va1 vb1 z2 g2 b2 c2 d2 va2 vb2
  have WW := Lib.hid (And.intro w1' (And.intro w2' (And.intro w3' (And.intro w4' (And.intro w5' (And.intro w6' w7'))))))
  clear w1' w2' w3' w4' w5' w6' w7'
  with_reducible refine (OF1.out _).mono ?_
  rintro e v0 ⟨rfl, hb⟩
  have HB_1 : Hid (Below w.heap.size w (v0.alloc (.cells #[.string (qN pa), .string (qD pa)] 23))) := Lib.hid (allocs_below [(#[.string (qN pa), .string (qD pa)], 23)] _ (HB_0.out.trans (hb.mono HB_0.out.size)) (HB_0.out.trans (hb.mono HB_0.out.size)).size)
  have A_1 : Hid (Blk (v0.alloc (.cells #[.string (qN pa), .string (qD pa)] 23)) v0.heap.size 23 #[.string (qN pa), .string (qD pa)]) := Lib.hid (allocs_blk [(#[.string (qN pa), .string (qD pa)], 23)] v0 0 _ rfl)
  clear hb HB_0
  go_wp2_with fail
  refine (OF2.out _).mono ?_
  rintro e v1 ⟨rfl, hb⟩
  have A_2 : Hid (Blk (v1.alloc (.cells #[.string (qN pb), .string (qD pb)] 23)) v0.heap.size 23 #[.string (qN pa), .string (qD pa)]) := Lib.hid (allocs_keep [(#[.string (qN pb), .string (qD pb)], 23)] _ (A_1.out.below hb A_1.out.lt))
  have HB_2 : Hid (Below w.heap.size w (v1.alloc (.cells #[.string (qN pb), .string (qD pb)] 23))) := Lib.hid (allocs_below [(#[.string (qN pb), .string (qD pb)], 23)] _ (HB_1.out.trans (hb.mono HB_1.out.size)) (HB_1.out.trans (hb.mono HB_1.out.size)).size)
  have B_2 : Hid (Blk (v1.alloc (.cells #[.string (qN pb), .string (qD pb)] 23)) v1.heap.size 23 #[.string (qN pb), .string (qD pb)]) := Lib.hid (allocs_blk [(#[.string (qN pb), .string (qD pb)], 23)] v1 0 _ rfl)
  clear hb A_1 HB_1
  have yy0 := A_2.out.cell (i := 0) (v := .string (qN pa)) rfl; have yy1 := A_2.out.cell (i := 1) (v := .string (qD pa)) rfl
  have yy2 := B_2.out.cell (i := 0) (v := .string (qN pb)) rfl; have yy3 := B_2.out.cell (i := 1) (v := .string (qD pb)) rfl
  go_wp2_with fail
  refine (FO.out _).mono ?_
  rintro e v2 ⟨rfl, hb⟩
  clear yy0 yy1 yy2 yy3
  have A_3 : Hid (Blk ((v2.alloc (.cells #[.string (zS x0), .string (zS y0), .string (zS x1), .string (zS y1), .string (zS x2), .string (zS y2), .string n3, .string d3] 39)).alloc (.cells #[.int .i64 0, .int .i64 0, .int .i64 0, .int .i64 z3] 40)) v0.heap.size 23 #[.string (qN pa), .string (qD pa)]) := Lib.hid (allocs_keep [(#[.string (zS x0), .string (zS y0), .string (zS x1), .string (zS y1), .string (zS x2), .string (zS y2), .string n3, .string d3], 39), (#[.int .i64 0, .int .i64 0, .int .i64 0, .int .i64 z3], 40)] _ (A_2.out.below hb A_2.out.lt))
  have B_3 : Hid (Blk ((v2.alloc (.cells #[.string (zS x0), .string (zS y0), .string (zS x1), .string (zS y1), .string (zS x2), .string (zS y2), .string n3, .string d3] 39)).alloc (.cells #[.int .i64 0, .int .i64 0, .int .i64 0, .int .i64 z3] 40)) v1.heap.size 23 #[.string (qN pb), .string (qD pb)]) := Lib.hid (allocs_keep [(#[.string (zS x0), .string (zS y0), .string (zS x1), .string (zS y1), .string (zS x2), .string (zS y2), .string n3, .string d3], 39), (#[.int .i64 0, .int .i64 0, .int .i64 0, .int .i64 z3], 40)] _ (B_2.out.below hb B_2.out.lt))
  have HB_3 : Hid (Below w.heap.size w ((v2.alloc (.cells #[.string (zS x0), .string (zS y0), .string (zS x1), .string (zS y1), .string (zS x2), .string (zS y2), .string n3, .string d3] 39)).alloc (.cells #[.int .i64 0, .int .i64 0, .int .i64 0, .int .i64 z3] 40))) := Lib.hid (allocs_below [(#[.string (zS x0), .string (zS y0), .string (zS x1), .string (zS y1), .string (zS x2), .string (zS y2), .string n3, .string d3], 39), (#[.int .i64 0, .int .i64 0, .int .i64 0, .int .i64 z3], 40)] _ (HB_2.out.trans (hb.mono HB_2.out.size)) (HB_2.out.trans (hb.mono HB_2.out.size)).size)
  have R_3 : Hid (Blk ((v2.alloc (.cells #[.string (zS x0), .string (zS y0), .string (zS x1), .string (zS y1), .string (zS x2), .string (zS y2), .string n3, .string d3] 39)).alloc (.cells #[.int .i64 0, .int .i64 0, .int .i64 0, .int .i64 z3] 40)) v2.heap.size 39 #[.string (zS x0), .string (zS y0), .string (zS x1), .string (zS y1), .string (zS x2), .string (zS y2), .string n3, .string d3]) := Lib.hid (allocs_blk [(#[.string (zS x0), .string (zS y0), .string (zS x1), .string (zS y1), .string (zS x2), .string (zS y2), .string n3, .string d3], 39), (#[.int .i64 0, .int .i64 0, .int .i64 0, .int .i64 z3], 40)] v2 0 _ rfl)
  have E_3 : Hid (Blk ((v2.alloc (.cells #[.string (zS x0), .string (zS y0), .string (zS x1), .string (zS y1), .string (zS x2), .string (zS y2), .string n3, .string d3] 39)).alloc (.cells #[.int .i64 0, .int .i64 0, .int .i64 0, .int .i64 z3] 40)) (v2.heap.size + 1) 40 #[.int .i64 0, .int .i64 0, .int .i64 0, .int .i64 z3]) := Lib.hid (allocs_blk [(#[.string (zS x0), .string (zS y0), .string (zS x1), .string (zS y1), .string (zS x2), .string (zS y2), .string n3, .string d3], 39), (#[.int .i64 0, .int .i64 0, .int .i64 0, .int .i64 z3], 40)] v2 1 _ rfl)
  clear hb A_2 B_2 HB_2
  obtain ⟨w1', w2', w3', w4', w5', w6', w7'⟩ := WW.out
  go_upto_region 10 with fail
  have A_4 : Hid (Blk (((v2.alloc (.cells #[.string (zS x0), .string (zS y0), .string (zS x1), .string (zS y1), .string (zS x2), .string (zS y2), .string n3, .string d3] 39)).alloc (.cells #[.int .i64 0, .int .i64 0, .int .i64 0, .int .i64 z3] 40)).alloc (.cells #[.int .i64 Q0, .int .i64 P3, .int .i64 Q1, .int .i64 P3, .int .i64 P4, .int .i64 P3, .int .i64 P1, .int .i64 P5] 44)) v0.heap.size 23 #[.string (qN pa), .string (qD pa)]) := Lib.hid (A_3.out.alloc _)
  have B_4 : Hid (Blk (((v2.alloc (.cells #[.string (zS x0), .string (zS y0), .string (zS x1), .string (zS y1), .string (zS x2), .string (zS y2), .string n3, .string d3] 39)).alloc (.cells #[.int .i64 0, .int .i64 0, .int .i64 0, .int .i64 z3] 40)).alloc (.cells #[.int .i64 Q0, .int .i64 P3, .int .i64 Q1, .int .i64 P3, .int .i64 P4, .int .i64 P3, .int .i64 P1, .int .i64 P5] 44)) v1.heap.size 23 #[.string (qN pb), .string (qD pb)]) := Lib.hid (B_3.out.alloc _)
  have R_4 : Hid (Blk (((v2.alloc (.cells #[.string (zS x0), .string (zS y0), .string (zS x1), .string (zS y1), .string (zS x2), .string (zS y2), .string n3, .string d3] 39)).alloc (.cells #[.int .i64 0, .int .i64 0, .int .i64 0, .int .i64 z3] 40)).alloc (.cells #[.int .i64 Q0, .int .i64 P3, .int .i64 Q1, .int .i64 P3, .int .i64 P4, .int .i64 P3, .int .i64 P1, .int .i64 P5] 44)) v2.heap.size 39 #[.string (zS x0), .string (zS y0), .string (zS x1), .string (zS y1), .string (zS x2), .string (zS y2), .string n3, .string d3]) := Lib.hid (R_3.out.alloc _)
  have E_4 : Hid (Blk (((v2.alloc (.cells #[.string (zS x0), .string (zS y0), .string (zS x1), .string (zS y1), .string (zS x2), .string (zS y2), .string n3, .string d3] 39)).alloc (.cells #[.int .i64 0, .int .i64 0, .int .i64 0, .int .i64 z3] 40)).alloc (.cells #[.int .i64 Q0, .int .i64 P3, .int .i64 Q1, .int .i64 P3, .int .i64 P4, .int .i64 P3, .int .i64 P1, .int .i64 P5] 44)) (v2.heap.size + 1) 40 #[.int .i64 0, .int .i64 0, .int .i64 0, .int .i64 z3]) := Lib.hid (E_3.out.alloc _)
  have HB_4 : Hid (Below w.heap.size w (((v2.alloc (.cells #[.string (zS x0), .string (zS y0), .string (zS x1), .string (zS y1), .string (zS x2), .string (zS y2), .string n3, .string d3] 39)).alloc (.cells #[.int .i64 0, .int .i64 0, .int .i64 0, .int .i64 z3] 40)).alloc (.cells #[.int .i64 Q0, .int .i64 P3, .int .i64 Q1, .int .i64 P3, .int .i64 P4, .int .i64 P3, .int .i64 P1, .int .i64 P5] 44))) := Lib.hid (HB_3.out.alloc HB_3.out.size _)
  have W_4 : Hid (Blk (((v2.alloc (.cells #[.string (zS x0), .string (zS y0), .string (zS x1), .string (zS y1), .string (zS x2), .string (zS y2), .string n3, .string d3] 39)).alloc (.cells #[.int .i64 0, .int .i64 0, .int .i64 0, .int .i64 z3] 40)).alloc (.cells #[.int .i64 Q0, .int .i64 P3, .int .i64 Q1, .int .i64 P3, .int .i64 P4, .int .i64 P3, .int .i64 P1, .int .i64 P5] 44)) (v2.heap.size + 2) 44 #[.int .i64 Q0, .int .i64 P3, .int .i64 Q1, .int .i64 P3, .int .i64 P4, .int .i64 P3, .int .i64 P1, .int .i64 P5]) := by
    have h := Blk.new ((v2.alloc (.cells #[.string (zS x0), .string (zS y0), .string (zS x1), .string (zS y1), .string (zS x2), .string (zS y2), .string n3, .string d3] 39)).alloc (.cells #[.int .i64 0, .int .i64 0, .int .i64 0, .int .i64 z3] 40)) 44 #[.int .i64 Q0, .int .i64 P3, .int .i64 Q1, .int .i64 P3, .int .i64 P4, .int .i64 P3, .int .i64 P1, .int .i64 P5]
    exact Lib.hid (by simpa using h)
  clear HB_3 A_3 B_3 R_3 E_3
  clear w3' w4' w5' w6' w7'
  go_wp2_with fail
  go_loopw [17] (fun ii wr => ∃ i : Int, ii = .int .i64 i ∧ (i = 0 ∨ i = 1 ∨ i = 2 ∨ i = 3 ∨ i = 4) ∧ Below w.heap.size w wr ∧ Blk wr v0.heap.size 23 #[.string (qN pa), .string (qD pa)] ∧ Blk wr v1.heap.size 23 #[.string (qN pb), .string (qD pb)] ∧ Blk wr v2.heap.size 39 #[.string (zS x0), .string (zS y0), .string (zS x1), .string (zS y1), .string (zS x2), .string (zS y2), .string n3, .string d3] ∧ Blk wr (v2.heap.size + 1) 40 #[.int .i64 0, .int .i64 0, .int .i64 0, .int .i64 z3] ∧ Blk wr (v2.heap.size + 2) 44 #[.int .i64 Q0, .int .i64 P3, .int .i64 Q1, .int .i64 P3, .int .i64 P4, .int .i64 P3, .int .i64 P1, .int .i64 P5]) (fun ii _ => 4 - (intOf ii).toNat)
  case atStart => exact ⟨0, rfl, .inl rfl, HB_4.out, A_4.out, B_4.out, R_4.out, E_4.out, W_4.out⟩
  case round =>
    clear HB_4 A_4 B_4 R_4 E_4 W_4
    obtain ⟨i, rfl, hi, hb, hA, hB, hR, hE, hW⟩ := hrel
    have HB_5 := Lib.hid hb; have A_5 := Lib.hid hA; have B_5 := Lib.hid hB; have R_5 := Lib.hid hR; have E_5 := Lib.hid hE; have W_5 := Lib.hid hW
    clear hb hA hB hR hE hW
    rcases hi with rfl | rfl | rfl | rfl | rfl
    · skip
      have yy0 := R_5.out.cell (i := 0) (v := .string (zS x0)) rfl; have yy1 := R_5.out.cell (i := 1) (v := .string (zS y0)) rfl
      have yy2 := E_5.out.cell (i := 0) (v := .int .i64 0) rfl
      have yy3 := W_5.out.cell (i := 0) (v := .int .i64 Q0) rfl; have yy4 := W_5.out.cell (i := 1) (v := .int .i64 P3) rfl
      go_wp2_with fail
      refine (TX0.out _).mono ?_
      rintro e v5 ⟨rfl, hb⟩
      clear yy0 yy1 yy2 yy3 yy4
      have A_6 : Hid (Blk v5 v0.heap.size 23 #[.string (qN pa), .string (qD pa)]) := Lib.hid (A_5.out.below hb A_5.out.lt)
      have B_6 : Hid (Blk v5 v1.heap.size 23 #[.string (qN pb), .string (qD pb)]) := Lib.hid (B_5.out.below hb B_5.out.lt)
      have R_6 : Hid (Blk v5 v2.heap.size 39 #[.string (zS x0), .string (zS y0), .string (zS x1), .string (zS y1), .string (zS x2), .string (zS y2), .string n3, .string d3]) := Lib.hid (R_5.out.below hb R_5.out.lt)
      have E_6 : Hid (Blk v5 (v2.heap.size + 1) 40 #[.int .i64 0, .int .i64 0, .int .i64 0, .int .i64 z3]) := Lib.hid (E_5.out.below hb E_5.out.lt)
      have W_6 : Hid (Blk v5 (v2.heap.size + 2) 44 #[.int .i64 Q0, .int .i64 P3, .int .i64 Q1, .int .i64 P3, .int .i64 P4, .int .i64 P3, .int .i64 P1, .int .i64 P5]) := Lib.hid (W_5.out.below hb W_5.out.lt)
      have HB_6 : Hid (Below w.heap.size w v5) := Lib.hid (HB_5.out.trans (hb.mono HB_5.out.size))
      clear hb A_5 B_5 R_5 E_5 W_5 HB_5
      have yy0 := R_6.out.cell (i := 0) (v := .string (zS x0)) rfl; have yy1 := R_6.out.cell (i := 1) (v := .string (zS y0)) rfl
      have yy2 := E_6.out.cell (i := 0) (v := .int .i64 0) rfl
      have yy3 := W_6.out.cell (i := 0) (v := .int .i64 Q0) rfl; have yy4 := W_6.out.cell (i := 1) (v := .int .i64 P3) rfl
      go_wp2_with fail
      refine (TY0.out _).mono ?_
      rintro e v6 ⟨rfl, hb⟩
      clear yy0 yy1 yy2 yy3 yy4
      have A_7 : Hid (Blk v6 v0.heap.size 23 #[.string (qN pa), .string (qD pa)]) := Lib.hid (A_6.out.below hb A_6.out.lt)
      have B_7 : Hid (Blk v6 v1.heap.size 23 #[.string (qN pb), .string (qD pb)]) := Lib.hid (B_6.out.below hb B_6.out.lt)
      have R_7 : Hid (Blk v6 v2.heap.size 39 #[.string (zS x0), .string (zS y0), .string (zS x1), .string (zS y1), .string (zS x2), .string (zS y2), .string n3, .string d3]) := Lib.hid (R_6.out.below hb R_6.out.lt)
      have E_7 : Hid (Blk v6 (v2.heap.size + 1) 40 #[.int .i64 0, .int .i64 0, .int .i64 0, .int .i64 z3]) := Lib.hid (E_6.out.below hb E_6.out.lt)
      have W_7 : Hid (Blk v6 (v2.heap.size + 2) 44 #[.int .i64 Q0, .int .i64 P3, .int .i64 Q1, .int .i64 P3, .int .i64 P4, .int .i64 P3, .int .i64 P1, .int .i64 P5]) := Lib.hid (W_6.out.below hb W_6.out.lt)
      have HB_7 : Hid (Below w.heap.size w v6) := Lib.hid (HB_6.out.trans (hb.mono HB_6.out.size))
      clear hb A_6 B_6 R_6 E_6 W_6 HB_6
      go_upto_region 18 with fail
      obtain ⟨wc0, hwc0⟩ : ∃ W, W = v6 := ⟨_, rfl⟩
      go_cut [165] from 128 to 165 (fun b wx => b = .bool false ∧ Below v6.heap.size v6 wx)
      case first =>
        have HK : Hid (∀ w', Below v6.heap.size v6 w' → w'.cell? ⟨v2.heap.size, 0, none⟩ = some (.string (zS x0)) ∧ w'.cell? ⟨v2.heap.size, 1, none⟩ = some (.string (zS y0)) ∧ w'.cell? ⟨(v2.heap.size + 1), 0, none⟩ = some (.int .i64 0) ∧ w'.cell? ⟨(v2.heap.size + 2), 0, none⟩ = some (.int .i64 Q0) ∧ w'.cell? ⟨(v2.heap.size + 2), 1, none⟩ = some (.int .i64 P3)) := fun W hW => ⟨(R_7.out.below hW R_7.out.lt).cell (i := 0) rfl, (R_7.out.below hW R_7.out.lt).cell (i := 1) rfl, (E_7.out.below hW E_7.out.lt).cell (i := 0) rfl, (W_7.out.below hW W_7.out.lt).cell (i := 0) rfl, (W_7.out.below hW W_7.out.lt).cell (i := 1) rfl⟩
        have HY : Hid (Below v6.heap.size v6 v6.drew) := (Below.refl _ _).drew
        have hk0 := HK.out _ HY.out
        obtain ⟨hy1, hv1, hv2⟩ := WV0.out
        have hy2 : decide (y0 < 1) = false := by rw [decide_eq_false_iff_not]; omega
        clear hy1 hwc0
        go_region_held3 (fun w' => w'.cell? ⟨v2.heap.size, 0, none⟩ = some (.string (zS x0)) ∧ w'.cell? ⟨v2.heap.size, 1, none⟩ = some (.string (zS y0)) ∧ w'.cell? ⟨(v2.heap.size + 1), 0, none⟩ = some (.int .i64 0) ∧ w'.cell? ⟨(v2.heap.size + 2), 0, none⟩ = some (.int .i64 Q0) ∧ w'.cell? ⟨(v2.heap.size + 2), 1, none⟩ = some (.int .i64 P3)) (first | exact HK.out _ HY.out | exact hk0 | go_keep)
          (first | (go_at_call 16; (with_reducible refine (VV0.out _).mono ?_); rintro e v ⟨rfl, h9⟩; have HY := Lib.hid (HY.out.trans (h9.mono HY.out.size)); clear h9))
        all_goals
          go_wp2_with fail
          go_meet
          exact ⟨rfl, HY.out⟩
      case rest =>
        obtain ⟨rfl, hcb⟩ := hcut
        clear hwc0
        have A_8 := Lib.hid (A_7.out.below hcb A_7.out.lt)
        have B_8 := Lib.hid (B_7.out.below hcb B_7.out.lt)
        have R_8 := Lib.hid (R_7.out.below hcb R_7.out.lt)
        have E_8 := Lib.hid (E_7.out.below hcb E_7.out.lt)
        have W_8 := Lib.hid (W_7.out.below hcb W_7.out.lt)
        have HB_8 := Lib.hid (HB_7.out.trans (hcb.mono HB_7.out.size))
        clear hcb A_7 B_7 R_7 E_7 W_7 HB_7
        go_wp2_with fail
        go_roundw
        case rel => exact ⟨1, rfl, (by simp), HB_8.out, A_8.out, B_8.out, R_8.out, E_8.out, W_8.out⟩
        case measure => simp [intOf]
    · skip
      have yy0 := R_5.out.cell (i := 2) (v := .string (zS x1)) rfl; have yy1 := R_5.out.cell (i := 3) (v := .string (zS y1)) rfl
      have yy2 := E_5.out.cell (i := 1) (v := .int .i64 0) rfl
      have yy3 := W_5.out.cell (i := 2) (v := .int .i64 Q1) rfl; have yy4 := W_5.out.cell (i := 3) (v := .int .i64 P3) rfl
      go_wp2_with fail
      refine (TX1.out _).mono ?_
      rintro e v5 ⟨rfl, hb⟩
      clear yy0 yy1 yy2 yy3 yy4
      have A_6 : Hid (Blk v5 v0.heap.size 23 #[.string (qN pa), .string (qD pa)]) := Lib.hid (A_5.out.below hb A_5.out.lt)
      have B_6 : Hid (Blk v5 v1.heap.size 23 #[.string (qN pb), .string (qD pb)]) := Lib.hid (B_5.out.below hb B_5.out.lt)
      have R_6 : Hid (Blk v5 v2.heap.size 39 #[.string (zS x0), .string (zS y0), .string (zS x1), .string (zS y1), .string (zS x2), .string (zS y2), .string n3, .string d3]) := Lib.hid (R_5.out.below hb R_5.out.lt)
      have E_6 : Hid (Blk v5 (v2.heap.size + 1) 40 #[.int .i64 0, .int .i64 0, .int .i64 0, .int .i64 z3]) := Lib.hid (E_5.out.below hb E_5.out.lt)
      have W_6 : Hid (Blk v5 (v2.heap.size + 2) 44 #[.int .i64 Q0, .int .i64 P3, .int .i64 Q1, .int .i64 P3, .int .i64 P4, .int .i64 P3, .int .i64 P1, .int .i64 P5]) := Lib.hid (W_5.out.below hb W_5.out.lt)
      have HB_6 : Hid (Below w.heap.size w v5) := Lib.hid (HB_5.out.trans (hb.mono HB_5.out.size))
      clear hb A_5 B_5 R_5 E_5 W_5 HB_5
      have yy0 := R_6.out.cell (i := 2) (v := .string (zS x1)) rfl; have yy1 := R_6.out.cell (i := 3) (v := .string (zS y1)) rfl
      have yy2 := E_6.out.cell (i := 1) (v := .int .i64 0) rfl
      have yy3 := W_6.out.cell (i := 2) (v := .int .i64 Q1) rfl; have yy4 := W_6.out.cell (i := 3) (v := .int .i64 P3) rfl
      go_wp2_with fail
      refine (TY1.out _).mono ?_
      rintro e v6 ⟨rfl, hb⟩
      clear yy0 yy1 yy2 yy3 yy4
      have A_7 : Hid (Blk v6 v0.heap.size 23 #[.string (qN pa), .string (qD pa)]) := Lib.hid (A_6.out.below hb A_6.out.lt)
      have B_7 : Hid (Blk v6 v1.heap.size 23 #[.string (qN pb), .string (qD pb)]) := Lib.hid (B_6.out.below hb B_6.out.lt)
      have R_7 : Hid (Blk v6 v2.heap.size 39 #[.string (zS x0), .string (zS y0), .string (zS x1), .string (zS y1), .string (zS x2), .string (zS y2), .string n3, .string d3]) := Lib.hid (R_6.out.below hb R_6.out.lt)
      have E_7 : Hid (Blk v6 (v2.heap.size + 1) 40 #[.int .i64 0, .int .i64 0, .int .i64 0, .int .i64 z3]) := Lib.hid (E_6.out.below hb E_6.out.lt)
      have W_7 : Hid (Blk v6 (v2.heap.size + 2) 44 #[.int .i64 Q0, .int .i64 P3, .int .i64 Q1, .int .i64 P3, .int .i64 P4, .int .i64 P3, .int .i64 P1, .int .i64 P5]) := Lib.hid (W_6.out.below hb W_6.out.lt)
      have HB_7 : Hid (Below w.heap.size w v6) := Lib.hid (HB_6.out.trans (hb.mono HB_6.out.size))
      clear hb A_6 B_6 R_6 E_6 W_6 HB_6
      go_upto_region 18 with fail
      obtain ⟨wc0, hwc0⟩ : ∃ W, W = v6 := ⟨_, rfl⟩
      go_cut [165] from 128 to 165 (fun b wx => b = .bool false ∧ Below v6.heap.size v6 wx)
      case first =>
        have HK : Hid (∀ w', Below v6.heap.size v6 w' → w'.cell? ⟨v2.heap.size, 2, none⟩ = some (.string (zS x1)) ∧ w'.cell? ⟨v2.heap.size, 3, none⟩ = some (.string (zS y1)) ∧ w'.cell? ⟨(v2.heap.size + 1), 1, none⟩ = some (.int .i64 0) ∧ w'.cell? ⟨(v2.heap.size + 2), 2, none⟩ = some (.int .i64 Q1) ∧ w'.cell? ⟨(v2.heap.size + 2), 3, none⟩ = some (.int .i64 P3)) := fun W hW => ⟨(R_7.out.below hW R_7.out.lt).cell (i := 2) rfl, (R_7.out.below hW R_7.out.lt).cell (i := 3) rfl, (E_7.out.below hW E_7.out.lt).cell (i := 1) rfl, (W_7.out.below hW W_7.out.lt).cell (i := 2) rfl, (W_7.out.below hW W_7.out.lt).cell (i := 3) rfl⟩
        have HY : Hid (Below v6.heap.size v6 v6.drew) := (Below.refl _ _).drew
        have hk0 := HK.out _ HY.out
        obtain ⟨hy1, hv1, hv2⟩ := WV1.out
        have hy2 : decide (y1 < 1) = false := by rw [decide_eq_false_iff_not]; omega
        clear hy1 hwc0
        go_region_held3 (fun w' => w'.cell? ⟨v2.heap.size, 2, none⟩ = some (.string (zS x1)) ∧ w'.cell? ⟨v2.heap.size, 3, none⟩ = some (.string (zS y1)) ∧ w'.cell? ⟨(v2.heap.size + 1), 1, none⟩ = some (.int .i64 0) ∧ w'.cell? ⟨(v2.heap.size + 2), 2, none⟩ = some (.int .i64 Q1) ∧ w'.cell? ⟨(v2.heap.size + 2), 3, none⟩ = some (.int .i64 P3)) (first | exact HK.out _ HY.out | exact hk0 | go_keep)
          (first | (go_at_call 16; (with_reducible refine (VV1.out _).mono ?_); rintro e v ⟨rfl, h9⟩; have HY := Lib.hid (HY.out.trans (h9.mono HY.out.size)); clear h9))
        all_goals
          go_wp2_with fail
          go_meet
          exact ⟨rfl, HY.out⟩
      case rest =>
        obtain ⟨rfl, hcb⟩ := hcut
        clear hwc0
        have A_8 := Lib.hid (A_7.out.below hcb A_7.out.lt)
        have B_8 := Lib.hid (B_7.out.below hcb B_7.out.lt)
        have R_8 := Lib.hid (R_7.out.below hcb R_7.out.lt)
        have E_8 := Lib.hid (E_7.out.below hcb E_7.out.lt)
        have W_8 := Lib.hid (W_7.out.below hcb W_7.out.lt)
        have HB_8 := Lib.hid (HB_7.out.trans (hcb.mono HB_7.out.size))
        clear hcb A_7 B_7 R_7 E_7 W_7 HB_7
        go_wp2_with fail
        go_roundw
        case rel => exact ⟨2, rfl, (by simp), HB_8.out, A_8.out, B_8.out, R_8.out, E_8.out, W_8.out⟩
        case measure => simp [intOf]
    · skip
      have yy0 := R_5.out.cell (i := 4) (v := .string (zS x2)) rfl; have yy1 := R_5.out.cell (i := 5) (v := .string (zS y2)) rfl
      have yy2 := E_5.out.cell (i := 2) (v := .int .i64 0) rfl
      have yy3 := W_5.out.cell (i := 4) (v := .int .i64 P4) rfl; have yy4 := W_5.out.cell (i := 5) (v := .int .i64 P3) rfl
      go_wp2_with fail
      refine (TX2.out _).mono ?_
      rintro e v5 ⟨rfl, hb⟩
      clear yy0 yy1 yy2 yy3 yy4
      have A_6 : Hid (Blk v5 v0.heap.size 23 #[.string (qN pa), .string (qD pa)]) := Lib.hid (A_5.out.below hb A_5.out.lt)
      have B_6 : Hid (Blk v5 v1.heap.size 23 #[.string (qN pb), .string (qD pb)]) := Lib.hid (B_5.out.below hb B_5.out.lt)
      have R_6 : Hid (Blk v5 v2.heap.size 39 #[.string (zS x0), .string (zS y0), .string (zS x1), .string (zS y1), .string (zS x2), .string (zS y2), .string n3, .string d3]) := Lib.hid (R_5.out.below hb R_5.out.lt)
      have E_6 : Hid (Blk v5 (v2.heap.size + 1) 40 #[.int .i64 0, .int .i64 0, .int .i64 0, .int .i64 z3]) := Lib.hid (E_5.out.below hb E_5.out.lt)
      have W_6 : Hid (Blk v5 (v2.heap.size + 2) 44 #[.int .i64 Q0, .int .i64 P3, .int .i64 Q1, .int .i64 P3, .int .i64 P4, .int .i64 P3, .int .i64 P1, .int .i64 P5]) := Lib.hid (W_5.out.below hb W_5.out.lt)
      have HB_6 : Hid (Below w.heap.size w v5) := Lib.hid (HB_5.out.trans (hb.mono HB_5.out.size))
      clear hb A_5 B_5 R_5 E_5 W_5 HB_5
      have yy0 := R_6.out.cell (i := 4) (v := .string (zS x2)) rfl; have yy1 := R_6.out.cell (i := 5) (v := .string (zS y2)) rfl
      have yy2 := E_6.out.cell (i := 2) (v := .int .i64 0) rfl
      have yy3 := W_6.out.cell (i := 4) (v := .int .i64 P4) rfl; have yy4 := W_6.out.cell (i := 5) (v := .int .i64 P3) rfl
      go_wp2_with fail
      refine (TY2.out _).mono ?_
      rintro e v6 ⟨rfl, hb⟩
      clear yy0 yy1 yy2 yy3 yy4
      have A_7 : Hid (Blk v6 v0.heap.size 23 #[.string (qN pa), .string (qD pa)]) := Lib.hid (A_6.out.below hb A_6.out.lt)
      have B_7 : Hid (Blk v6 v1.heap.size 23 #[.string (qN pb), .string (qD pb)]) := Lib.hid (B_6.out.below hb B_6.out.lt)
      have R_7 : Hid (Blk v6 v2.heap.size 39 #[.string (zS x0), .string (zS y0), .string (zS x1), .string (zS y1), .string (zS x2), .string (zS y2), .string n3, .string d3]) := Lib.hid (R_6.out.below hb R_6.out.lt)
      have E_7 : Hid (Blk v6 (v2.heap.size + 1) 40 #[.int .i64 0, .int .i64 0, .int .i64 0, .int .i64 z3]) := Lib.hid (E_6.out.below hb E_6.out.lt)
      have W_7 : Hid (Blk v6 (v2.heap.size + 2) 44 #[.int .i64 Q0, .int .i64 P3, .int .i64 Q1, .int .i64 P3, .int .i64 P4, .int .i64 P3, .int .i64 P1, .int .i64 P5]) := Lib.hid (W_6.out.below hb W_6.out.lt)
      have HB_7 : Hid (Below w.heap.size w v6) := Lib.hid (HB_6.out.trans (hb.mono HB_6.out.size))
      clear hb A_6 B_6 R_6 E_6 W_6 HB_6
      go_upto_region 18 with fail
      obtain ⟨wc0, hwc0⟩ : ∃ W, W = v6 := ⟨_, rfl⟩
      go_cut [165] from 128 to 165 (fun b wx => b = .bool false ∧ Below v6.heap.size v6 wx)
      case first =>
        have HK : Hid (∀ w', Below v6.heap.size v6 w' → w'.cell? ⟨v2.heap.size, 4, none⟩ = some (.string (zS x2)) ∧ w'.cell? ⟨v2.heap.size, 5, none⟩ = some (.string (zS y2)) ∧ w'.cell? ⟨(v2.heap.size + 1), 2, none⟩ = some (.int .i64 0) ∧ w'.cell? ⟨(v2.heap.size + 2), 4, none⟩ = some (.int .i64 P4) ∧ w'.cell? ⟨(v2.heap.size + 2), 5, none⟩ = some (.int .i64 P3)) := fun W hW => ⟨(R_7.out.below hW R_7.out.lt).cell (i := 4) rfl, (R_7.out.below hW R_7.out.lt).cell (i := 5) rfl, (E_7.out.below hW E_7.out.lt).cell (i := 2) rfl, (W_7.out.below hW W_7.out.lt).cell (i := 4) rfl, (W_7.out.below hW W_7.out.lt).cell (i := 5) rfl⟩
        have HY : Hid (Below v6.heap.size v6 v6.drew) := (Below.refl _ _).drew
        have hk0 := HK.out _ HY.out
        obtain ⟨hy1, hv1, hv2⟩ := WV2.out
        have hy2 : decide (y2 < 1) = false := by rw [decide_eq_false_iff_not]; omega
        clear hy1 hwc0
        go_region_held3 (fun w' => w'.cell? ⟨v2.heap.size, 4, none⟩ = some (.string (zS x2)) ∧ w'.cell? ⟨v2.heap.size, 5, none⟩ = some (.string (zS y2)) ∧ w'.cell? ⟨(v2.heap.size + 1), 2, none⟩ = some (.int .i64 0) ∧ w'.cell? ⟨(v2.heap.size + 2), 4, none⟩ = some (.int .i64 P4) ∧ w'.cell? ⟨(v2.heap.size + 2), 5, none⟩ = some (.int .i64 P3)) (first | exact HK.out _ HY.out | exact hk0 | go_keep)
          (first | (go_at_call 16; (with_reducible refine (VV2.out _).mono ?_); rintro e v ⟨rfl, h9⟩; have HY := Lib.hid (HY.out.trans (h9.mono HY.out.size)); clear h9))
        all_goals
          go_wp2_with fail
          go_meet
          exact ⟨rfl, HY.out⟩
      case rest =>
        obtain ⟨rfl, hcb⟩ := hcut
        clear hwc0
        have A_8 := Lib.hid (A_7.out.below hcb A_7.out.lt)
        have B_8 := Lib.hid (B_7.out.below hcb B_7.out.lt)
        have R_8 := Lib.hid (R_7.out.below hcb R_7.out.lt)
        have E_8 := Lib.hid (E_7.out.below hcb E_7.out.lt)
        have W_8 := Lib.hid (W_7.out.below hcb W_7.out.lt)
        have HB_8 := Lib.hid (HB_7.out.trans (hcb.mono HB_7.out.size))
        clear hcb A_7 B_7 R_7 E_7 W_7 HB_7
        go_wp2_with fail
        go_roundw
        case rel => exact ⟨3, rfl, (by simp), HB_8.out, A_8.out, B_8.out, R_8.out, E_8.out, W_8.out⟩
        case measure => simp [intOf]
    · obtain ⟨h0, rfl, rfl, rfl⟩ | ⟨h0, x3, y3, rfl, rfl, rfl, g, b, c, V3, va3, vb3⟩ := H3.out
      · have h0b : (M == 0) = true := by rw [beq_iff_eq]; exact h0
        clear h0
        have yy0 := R_5.out.cell (i := 6) (v := .string ⟨#[]⟩) rfl; have yy1 := R_5.out.cell (i := 7) (v := .string ⟨#[]⟩) rfl
        have yy2 := E_5.out.cell (i := 3) (v := .int .i64 40) rfl
        go_wp2_with fail
        go_roundw
        case rel => exact ⟨4, rfl, (by simp), HB_5.out, A_5.out, B_5.out, R_5.out, E_5.out, W_5.out⟩
        case measure => simp [intOf]
      · have h0b : (M == 0) = false := by rw [beq_eq_false_iff_ne]; exact h0
        have TX3 := Lib.hid (fun W => mac_to g.2.1 c W); have TY3 := Lib.hid (fun W => mac_to (x := y3) g.2.2 (by omega) W); have VV3 := Lib.hid (fun W => mac_valid g W)
        have WV3 : Hid ((1 ≤ y3) ∧ IntKind.i64.wrap (x3 * P5) = V3 ∧ IntKind.i64.wrap (P1 * y3) = V3) := ⟨b.1, va3, vb3⟩
        clear h0 g b c va3 vb3
        have yy0 := R_5.out.cell (i := 6) (v := .string (zS x3)) rfl; have yy1 := R_5.out.cell (i := 7) (v := .string (zS y3)) rfl
        have yy2 := E_5.out.cell (i := 3) (v := .int .i64 0) rfl
        have yy3 := W_5.out.cell (i := 6) (v := .int .i64 P1) rfl; have yy4 := W_5.out.cell (i := 7) (v := .int .i64 P5) rfl
        go_wp2_with fail
        refine (TX3.out _).mono ?_
        rintro e v5 ⟨rfl, hb⟩
        clear yy0 yy1 yy2 yy3 yy4
        have A_6 : Hid (Blk v5 v0.heap.size 23 #[.string (qN pa), .string (qD pa)]) := Lib.hid (A_5.out.below hb A_5.out.lt)
        have B_6 : Hid (Blk v5 v1.heap.size 23 #[.string (qN pb), .string (qD pb)]) := Lib.hid (B_5.out.below hb B_5.out.lt)
        have R_6 : Hid (Blk v5 v2.heap.size 39 #[.string (zS x0), .string (zS y0), .string (zS x1), .string (zS y1), .string (zS x2), .string (zS y2), .string (zS x3), .string (zS y3)]) := Lib.hid (R_5.out.below hb R_5.out.lt)
        have E_6 : Hid (Blk v5 (v2.heap.size + 1) 40 #[.int .i64 0, .int .i64 0, .int .i64 0, .int .i64 0]) := Lib.hid (E_5.out.below hb E_5.out.lt)
        have W_6 : Hid (Blk v5 (v2.heap.size + 2) 44 #[.int .i64 Q0, .int .i64 P3, .int .i64 Q1, .int .i64 P3, .int .i64 P4, .int .i64 P3, .int .i64 P1, .int .i64 P5]) := Lib.hid (W_5.out.below hb W_5.out.lt)
        have HB_6 : Hid (Below w.heap.size w v5) := Lib.hid (HB_5.out.trans (hb.mono HB_5.out.size))
        clear hb A_5 B_5 R_5 E_5 W_5 HB_5
        have yy0 := R_6.out.cell (i := 6) (v := .string (zS x3)) rfl; have yy1 := R_6.out.cell (i := 7) (v := .string (zS y3)) rfl
        have yy2 := E_6.out.cell (i := 3) (v := .int .i64 0) rfl
        have yy3 := W_6.out.cell (i := 6) (v := .int .i64 P1) rfl; have yy4 := W_6.out.cell (i := 7) (v := .int .i64 P5) rfl
        go_wp2_with fail
        refine (TY3.out _).mono ?_
        rintro e v6 ⟨rfl, hb⟩
        clear yy0 yy1 yy2 yy3 yy4
        have A_7 : Hid (Blk v6 v0.heap.size 23 #[.string (qN pa), .string (qD pa)]) := Lib.hid (A_6.out.below hb A_6.out.lt)
        have B_7 : Hid (Blk v6 v1.heap.size 23 #[.string (qN pb), .string (qD pb)]) := Lib.hid (B_6.out.below hb B_6.out.lt)
        have R_7 : Hid (Blk v6 v2.heap.size 39 #[.string (zS x0), .string (zS y0), .string (zS x1), .string (zS y1), .string (zS x2), .string (zS y2), .string (zS x3), .string (zS y3)]) := Lib.hid (R_6.out.below hb R_6.out.lt)
        have E_7 : Hid (Blk v6 (v2.heap.size + 1) 40 #[.int .i64 0, .int .i64 0, .int .i64 0, .int .i64 0]) := Lib.hid (E_6.out.below hb E_6.out.lt)
        have W_7 : Hid (Blk v6 (v2.heap.size + 2) 44 #[.int .i64 Q0, .int .i64 P3, .int .i64 Q1, .int .i64 P3, .int .i64 P4, .int .i64 P3, .int .i64 P1, .int .i64 P5]) := Lib.hid (W_6.out.below hb W_6.out.lt)
        have HB_7 : Hid (Below w.heap.size w v6) := Lib.hid (HB_6.out.trans (hb.mono HB_6.out.size))
        clear hb A_6 B_6 R_6 E_6 W_6 HB_6
        go_upto_region 18 with fail
        obtain ⟨wc0, hwc0⟩ : ∃ W, W = v6 := ⟨_, rfl⟩
        go_cut [165] from 128 to 165 (fun b wx => b = .bool false ∧ Below v6.heap.size v6 wx)
        case first =>
          have HK : Hid (∀ w', Below v6.heap.size v6 w' → w'.cell? ⟨v2.heap.size, 6, none⟩ = some (.string (zS x3)) ∧ w'.cell? ⟨v2.heap.size, 7, none⟩ = some (.string (zS y3)) ∧ w'.cell? ⟨(v2.heap.size + 1), 3, none⟩ = some (.int .i64 0) ∧ w'.cell? ⟨(v2.heap.size + 2), 6, none⟩ = some (.int .i64 P1) ∧ w'.cell? ⟨(v2.heap.size + 2), 7, none⟩ = some (.int .i64 P5)) := fun W hW => ⟨(R_7.out.below hW R_7.out.lt).cell (i := 6) rfl, (R_7.out.below hW R_7.out.lt).cell (i := 7) rfl, (E_7.out.below hW E_7.out.lt).cell (i := 3) rfl, (W_7.out.below hW W_7.out.lt).cell (i := 6) rfl, (W_7.out.below hW W_7.out.lt).cell (i := 7) rfl⟩
          have HY : Hid (Below v6.heap.size v6 v6.drew) := (Below.refl _ _).drew
          have hk0 := HK.out _ HY.out
          obtain ⟨hy1, hv1, hv2⟩ := WV3.out
          have hy2 : decide (y3 < 1) = false := by rw [decide_eq_false_iff_not]; omega
          clear hy1 hwc0
          go_region_held3 (fun w' => w'.cell? ⟨v2.heap.size, 6, none⟩ = some (.string (zS x3)) ∧ w'.cell? ⟨v2.heap.size, 7, none⟩ = some (.string (zS y3)) ∧ w'.cell? ⟨(v2.heap.size + 1), 3, none⟩ = some (.int .i64 0) ∧ w'.cell? ⟨(v2.heap.size + 2), 6, none⟩ = some (.int .i64 P1) ∧ w'.cell? ⟨(v2.heap.size + 2), 7, none⟩ = some (.int .i64 P5)) (first | exact HK.out _ HY.out | exact hk0 | go_keep)
            (first | (go_at_call 16; (with_reducible refine (VV3.out _).mono ?_); rintro e v ⟨rfl, h9⟩; have HY := Lib.hid (HY.out.trans (h9.mono HY.out.size)); clear h9))
          all_goals
            go_wp2_with fail
            go_meet
            exact ⟨rfl, HY.out⟩
        case rest =>
          obtain ⟨rfl, hcb⟩ := hcut
          clear hwc0
          have A_8 := Lib.hid (A_7.out.below hcb A_7.out.lt)
          have B_8 := Lib.hid (B_7.out.below hcb B_7.out.lt)
          have R_8 := Lib.hid (R_7.out.below hcb R_7.out.lt)
          have E_8 := Lib.hid (E_7.out.below hcb E_7.out.lt)
          have W_8 := Lib.hid (W_7.out.below hcb W_7.out.lt)
          have HB_8 := Lib.hid (HB_7.out.trans (hcb.mono HB_7.out.size))
          clear hcb A_7 B_7 R_7 E_7 W_7 HB_7
          go_wp2_with fail
          go_roundw
          case rel => exact ⟨4, rfl, (by simp), HB_8.out, A_8.out, B_8.out, R_8.out, E_8.out, W_8.out⟩
          case measure => simp [intOf]
    · rcases Int.lt_trichotomy P1 P2 with h | h | h
      · have hd1 : decide (P1 < P2) = true := by rw [decide_eq_true_eq]; exact h
        have CD := CC.out; rw [ordI_lt h] at CD
        have CE := Lib.hid CD
        clear CD h
        have yy0 := A_5.out.cell (i := 0) (v := .string (qN pa)) rfl; have yy1 := A_5.out.cell (i := 1) (v := .string (qD pa)) rfl
        have yy2 := B_5.out.cell (i := 0) (v := .string (qN pb)) rfl; have yy3 := B_5.out.cell (i := 1) (v := .string (qD pb)) rfl
        go_wp2_with fail
        refine (CE.out _).mono ?_
        rintro e v5 ⟨rfl, hb⟩
        clear yy0 yy1 yy2 yy3
        have A_6 : Hid (Blk v5 v0.heap.size 23 #[.string (qN pa), .string (qD pa)]) := Lib.hid (A_5.out.below hb A_5.out.lt)
        have B_6 : Hid (Blk v5 v1.heap.size 23 #[.string (qN pb), .string (qD pb)]) := Lib.hid (B_5.out.below hb B_5.out.lt)
        have R_6 : Hid (Blk v5 v2.heap.size 39 #[.string (zS x0), .string (zS y0), .string (zS x1), .string (zS y1), .string (zS x2), .string (zS y2), .string n3, .string d3]) := Lib.hid (R_5.out.below hb R_5.out.lt)
        have E_6 : Hid (Blk v5 (v2.heap.size + 1) 40 #[.int .i64 0, .int .i64 0, .int .i64 0, .int .i64 z3]) := Lib.hid (E_5.out.below hb E_5.out.lt)
        have W_6 : Hid (Blk v5 (v2.heap.size + 2) 44 #[.int .i64 Q0, .int .i64 P3, .int .i64 Q1, .int .i64 P3, .int .i64 P4, .int .i64 P3, .int .i64 P1, .int .i64 P5]) := Lib.hid (W_5.out.below hb W_5.out.lt)
        have HB_6 : Hid (Below w.heap.size w v5) := Lib.hid (HB_5.out.trans (hb.mono HB_5.out.size))
        clear hb A_5 B_5 R_5 E_5 W_5 HB_5
        go_wp2_with fail
        go_ret
        exact ⟨rfl, HB_6.out⟩
      · have hd1 : decide (P1 < P2) = false := by rw [decide_eq_false_iff_not]; omega
        have hd2 : decide (P2 < P1) = false := by rw [decide_eq_false_iff_not]; omega
        have CD := CC.out; rw [ordI_eq h] at CD
        have CE := Lib.hid CD
        clear CD h
        have yy0 := A_5.out.cell (i := 0) (v := .string (qN pa)) rfl; have yy1 := A_5.out.cell (i := 1) (v := .string (qD pa)) rfl
        have yy2 := B_5.out.cell (i := 0) (v := .string (qN pb)) rfl; have yy3 := B_5.out.cell (i := 1) (v := .string (qD pb)) rfl
        go_wp2_with fail
        refine (CE.out _).mono ?_
        rintro e v5 ⟨rfl, hb⟩
        clear yy0 yy1 yy2 yy3
        have A_6 : Hid (Blk v5 v0.heap.size 23 #[.string (qN pa), .string (qD pa)]) := Lib.hid (A_5.out.below hb A_5.out.lt)
        have B_6 : Hid (Blk v5 v1.heap.size 23 #[.string (qN pb), .string (qD pb)]) := Lib.hid (B_5.out.below hb B_5.out.lt)
        have R_6 : Hid (Blk v5 v2.heap.size 39 #[.string (zS x0), .string (zS y0), .string (zS x1), .string (zS y1), .string (zS x2), .string (zS y2), .string n3, .string d3]) := Lib.hid (R_5.out.below hb R_5.out.lt)
        have E_6 : Hid (Blk v5 (v2.heap.size + 1) 40 #[.int .i64 0, .int .i64 0, .int .i64 0, .int .i64 z3]) := Lib.hid (E_5.out.below hb E_5.out.lt)
        have W_6 : Hid (Blk v5 (v2.heap.size + 2) 44 #[.int .i64 Q0, .int .i64 P3, .int .i64 Q1, .int .i64 P3, .int .i64 P4, .int .i64 P3, .int .i64 P1, .int .i64 P5]) := Lib.hid (W_5.out.below hb W_5.out.lt)
        have HB_6 : Hid (Below w.heap.size w v5) := Lib.hid (HB_5.out.trans (hb.mono HB_5.out.size))
        clear hb A_5 B_5 R_5 E_5 W_5 HB_5
        go_wp2_with fail
        go_ret
        exact ⟨rfl, HB_6.out⟩
      · have hd1 : decide (P1 < P2) = false := by rw [decide_eq_false_iff_not]; omega
        have hd2 : decide (P2 < P1) = true := by rw [decide_eq_true_eq]; omega
        have CD := CC.out; rw [ordI_gt h] at CD
        have CE := Lib.hid CD
        clear CD h
        have yy0 := A_5.out.cell (i := 0) (v := .string (qN pa)) rfl; have yy1 := A_5.out.cell (i := 1) (v := .string (qD pa)) rfl
        have yy2 := B_5.out.cell (i := 0) (v := .string (qN pb)) rfl; have yy3 := B_5.out.cell (i := 1) (v := .string (qD pb)) rfl
        go_wp2_with fail
        refine (CE.out _).mono ?_
        rintro e v5 ⟨rfl, hb⟩
        clear yy0 yy1 yy2 yy3
        have A_6 : Hid (Blk v5 v0.heap.size 23 #[.string (qN pa), .string (qD pa)]) := Lib.hid (A_5.out.below hb A_5.out.lt)
        have B_6 : Hid (Blk v5 v1.heap.size 23 #[.string (qN pb), .string (qD pb)]) := Lib.hid (B_5.out.below hb B_5.out.lt)
        have R_6 : Hid (Blk v5 v2.heap.size 39 #[.string (zS x0), .string (zS y0), .string (zS x1), .string (zS y1), .string (zS x2), .string (zS y2), .string n3, .string d3]) := Lib.hid (R_5.out.below hb R_5.out.lt)
        have E_6 : Hid (Blk v5 (v2.heap.size + 1) 40 #[.int .i64 0, .int .i64 0, .int .i64 0, .int .i64 z3]) := Lib.hid (E_5.out.below hb E_5.out.lt)
        have W_6 : Hid (Blk v5 (v2.heap.size + 2) 44 #[.int .i64 Q0, .int .i64 P3, .int .i64 Q1, .int .i64 P3, .int .i64 P4, .int .i64 P3, .int .i64 P1, .int .i64 P5]) := Lib.hid (W_5.out.below hb W_5.out.lt)
        have HB_6 : Hid (Below w.heap.size w v5) := Lib.hid (HB_5.out.trans (hb.mono HB_5.out.size))
        clear hb A_5 B_5 R_5 E_5 W_5 HB_5
        go_wp2_with fail
        go_ret
        exact ⟨rfl, HB_6.out⟩
end Go.Proofs.Ytnacgdkihkfjkaa
