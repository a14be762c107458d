
/- The walk of StrokeTurned. Conditions: the slice reads. -/
import Derived.Test.YtamogfcedkjmcaaLm5
namespace Go.Proofs.Ytamogfcedkjmcaa
open Go.RowKit Go.Lib Go.Shelf

theorem within_turned {P N : Int} {ds : List Dt} {px py z : Int} : WithinP P N (ds.map (trn 1)) (4095 - py) px z ↔ WithinP P N ds px py z := by
  have hvd : Vd P N (ds.map (trn 1)) ↔ Vd P N ds := ⟨fun h => by
    have h2 := vd_turned 3 h
    rw [List.map_map] at h2
    have h3 : ds.map (trn 3 ∘ trn 1) = ds := by
      have h4 : ∀ d : Dt, (trn 3 ∘ trn 1) d = d := fun d => by
        rcases trn_add 1 d 3 (by omega) with h5 | h5
        · show trn 3 (trn 1 d) = d
          rw [h5]; exact trn_zero d
        · omega
      rw [List.map_congr_left (fun d _ => h4 d), List.map_id']
    rwa [h3] at h2, vd_turned 1⟩
  unfold WithinP
  rw [hvd, List.length_map]
  refine and_congr_right fun _ => exists_congr fun i => and_congr_right fun _ => ?_
  unfold NearSeg
  rw [List.length_map]
  constructor
  · rintro ⟨d, e, h1, h2, h3⟩
    rw [List.getElem?_map] at h1 h2
    obtain ⟨d0, g1, rfl⟩ := Option.map_eq_some_iff.1 h1
    obtain ⟨e0, g2, rfl⟩ := Option.map_eq_some_iff.1 h2
    rw [trn_one, trn_one] at h3
    exact ⟨d0, e0, g1, g2, h3.back⟩
  · rintro ⟨d, e, h1, h2, h3⟩
    exact ⟨trn 1 d, trn 1 e, by rw [List.getElem?_map, h1]; rfl, by rw [List.getElem?_map, h2]; rfl, h3.turn⟩
theorem qrt_one : qrt 1 = 1 := by decide
set_option maxRecDepth 100000 in
theorem lturned_any (x y : Int) (w : World) (h : OnP x y) :
    Calls Try.prog 39 #[.agg #[.int .i64 x, .int .i64 y]] w fun e w' => e = .returned (.agg #[.int .i64 (4095 - y), .int .i64 x]) ∧ Below w.heap.size w w' := by
  unfold OnP at h
  have e1 : IntKind.i64.wrap (4095 - y) = 4095 - y := IntWalk.i64_in _ (by omega)
  have D_0 : Hid (Blk ((w.alloc (.cells #[.int .i64 x, .int .i64 y] 29)).alloc (.cells #[.int .i64 0, .int .i64 0] 29)) w.heap.size 29 #[.int .i64 x, .int .i64 y]) := allocs_blk [(#[.int .i64 x, .int .i64 y], 29), (#[.int .i64 0, .int .i64 0], 29)] w 0 _ rfl
  have R_0 : Hid (Blk ((w.alloc (.cells #[.int .i64 x, .int .i64 y] 29)).alloc (.cells #[.int .i64 0, .int .i64 0] 29)) (w.heap.size + 1) 29 #[.int .i64 0, .int .i64 0]) := allocs_blk [(#[.int .i64 x, .int .i64 y], 29), (#[.int .i64 0, .int .i64 0], 29)] w 1 _ rfl
  have HB_0 : Hid (Below w.heap.size w ((w.alloc (.cells #[.int .i64 x, .int .i64 y] 29)).alloc (.cells #[.int .i64 0, .int .i64 0] 29))) := allocs_below [(#[.int .i64 x, .int .i64 y], 29), (#[.int .i64 0, .int .i64 0], 29)] w (Below.refl w.heap.size w) (Nat.le_refl _)
  have yy0 := D_0.out.cell (i := 0) (v := .int .i64 x) rfl; have yy1 := D_0.out.cell (i := 1) (v := .int .i64 y) rfl
  have yy2 := R_0.out.cell (i := 0) (v := .int .i64 0) rfl; have yy3 := R_0.out.cell (i := 1) (v := .int .i64 0) rfl
  have fR := R_0.out.frozen 0; have fR1 := R_0.out.frozen 1
  go_enter Try.func39, Try.ntmps39
  go_wp2_with fail
  refine bodyPost_ret (v := .agg #[.int .i64 (4095 - y), .int .i64 x]) (by simp [results, Try.results39, go_sem]) rfl ⟨rfl, ?_⟩
  exact allocs_below [(#[.int .i64 x, .int .i64 y], 29), (#[.int .i64 (4095 - y), .int .i64 x], 29)] w (Below.refl _ _) (Nat.le_refl _)
set_option maxRecDepth 100000 in
set_option maxHeartbeats 16000000 in
theorem turned_law (p0 q0 n0 n1 u t : Int) (A0 : Option Addr) (n c : Nat) (w : World) (hA : Tz w A0 n) (hz : n ≤ 9223372036854775807) (hp0 : (-9223372036854775808 ≤ p0 ∧ p0 ≤ 9223372036854775807)) (hq0 : (-9223372036854775808 ≤ q0 ∧ q0 ≤ 9223372036854775807)) (hn0 : (-9223372036854775808 ≤ n0 ∧ n0 ≤ 9223372036854775807)) (hn1 : (-9223372036854775808 ≤ n1 ∧ n1 ≤ 9223372036854775807)) (hu : (-9223372036854775808 ≤ u ∧ u ≤ 9223372036854775807)) (ht : (-9223372036854775808 ≤ t ∧ t ≤ 9223372036854775807)) :
    Calls Try.prog 6 #[.int .i64 p0, .int .i64 q0, .slice A0 n c, .agg #[.int .i64 n0, .int .i64 n1], .int .i64 u, .int .i64 t] w fun e w' => e = .returned (.bool true) ∧ Below w.heap.size w w' := by
  obtain ⟨z, hz_, Hz⟩ := lpick_one t 400 ht (by omega)
  obtain ⟨m, hm, HM⟩ := lpick_one u 40 hu (by omega)
  obtain ⟨px, hpx, HPX⟩ := lpick_one n0 4096 hn0 (by omega)
  obtain ⟨py, hpy, HPY⟩ := lpick_one n1 4096 hn1 (by omega)
  have hzz : 0 ≤ z ∧ z ≤ 1000 := by omega
  have hop : OnP px py := by unfold OnP; omega
  have e1 : IntKind.i64.wrap (-m) = -m := IntWalk.i64_in _ (by omega)
  have e2 : IntKind.i64.wrap (m + 4) = m + 4 := IntWalk.i64_in _ (by omega)
  have HZZ := Lib.hid hzz; have HOP := Lib.hid hop; have HE1 := Lib.hid e1; have HE2 := Lib.hid e2; have HMM := Lib.hid hm
  have hz0 := Lib.hid Hz; have HM0 := Lib.hid HM; have HPX0 := Lib.hid HPX; have HPY0 := Lib.hid HPY
  clear hzz hop e1 e2 hm hz_ hpx hpy Hz HM HPX HPY hn0 hn1 hu ht
  have X_0 : Hid (Blk (w.alloc (.cells #[.int .i64 n0, .int .i64 n1] 31)) w.heap.size 31 #[.int .i64 n0, .int .i64 n1]) := allocs_blk [(#[.int .i64 n0, .int .i64 n1], 31)] w 0 _ rfl
  have HB_0 : Hid (Below w.heap.size w (w.alloc (.cells #[.int .i64 n0, .int .i64 n1] 31))) := allocs_below [(#[.int .i64 n0, .int .i64 n1], 31)] w (Below.refl w.heap.size w) (Nat.le_refl _)
  have TZ_0 : Hid (Tz (w.alloc (.cells #[.int .i64 n0, .int .i64 n1] 31)) A0 n) := Lib.hid (hA.below HB_0.out (Nat.le_refl _))
  clear hA
  go_enter Try.func6, Try.ntmps6
  go_wp2_with fail
  refine (sane_any _).mono ?_
  rintro e v0 ⟨rfl, hb⟩
  have TZ_1 : Hid (Tz v0 A0 n) := Lib.hid (TZ_0.out.below hb (Nat.le_refl _))
  clear TZ_0
  have X_1 : Hid (Blk v0 w.heap.size 31 #[.int .i64 n0, .int .i64 n1]) := Lib.hid (X_0.out.below hb X_0.out.lt)
  have HB_1 : Hid (Below w.heap.size w v0) := Lib.hid (HB_0.out.trans (hb.mono HB_0.out.size))
  clear hb X_0 HB_0
  go_wp2_with fail
  refine (lmade_any p0 q0 A0 n c _ TZ_1.out hz hp0 hq0).mono ?_
  rintro e v1 ⟨P, N, ds, A1, k1, rfl, hvd, hl24, hdz, hk1, -, hb⟩
  have HVD := Lib.hid hvd; clear hvd
  have hzl : ds.length ≤ 9000000000000000000 := by omega
  have HZL := Lib.hid hzl; have HK1 := Lib.hid hk1; clear hl24 hzl hk1
  have DS_1 := Lib.hid hdz
  have TZ_2 : Hid (Tz (v1.alloc (.cells #[.int .i64 P, .int .i64 N, .slice A1 ds.length k1] 27)) A0 n) := Lib.hid (TZ_1.out.below (allocs_below [(#[.int .i64 P, .int .i64 N, .slice A1 ds.length k1], 27)] _ hb hb.size) (Nat.le_refl _))
  have DS_2 : Hid (Dz (v1.alloc (.cells #[.int .i64 P, .int .i64 N, .slice A1 ds.length k1] 27)) A1 ds) := Lib.hid (DS_1.out.below (allocs_below [(#[.int .i64 P, .int .i64 N, .slice A1 ds.length k1], 27)] _ (Below.refl _ _) (Nat.le_refl _)) (Nat.le_refl _))
  clear TZ_1 DS_1
  have X_2 : Hid (Blk (v1.alloc (.cells #[.int .i64 P, .int .i64 N, .slice A1 ds.length k1] 27)) w.heap.size 31 #[.int .i64 n0, .int .i64 n1]) := Lib.hid (allocs_keep [(#[.int .i64 P, .int .i64 N, .slice A1 ds.length k1], 27)] _ (X_1.out.below hb X_1.out.lt))
  have HB_2 : Hid (Below w.heap.size w (v1.alloc (.cells #[.int .i64 P, .int .i64 N, .slice A1 ds.length k1] 27))) := Lib.hid (allocs_below [(#[.int .i64 P, .int .i64 N, .slice A1 ds.length k1], 27)] _ (HB_1.out.trans (hb.mono HB_1.out.size)) (HB_1.out.trans (hb.mono HB_1.out.size)).size)
  have S_2 : Hid (Blk (v1.alloc (.cells #[.int .i64 P, .int .i64 N, .slice A1 ds.length k1] 27)) v1.heap.size 27 #[.int .i64 P, .int .i64 N, .slice A1 ds.length k1]) := Lib.hid (allocs_blk [(#[.int .i64 P, .int .i64 N, .slice A1 ds.length k1], 27)] v1 0 _ rfl)
  clear hb X_1 HB_1
  go_wp2_with fail
  refine (hz0.out _).mono ?_
  rintro e v2 ⟨rfl, hb⟩
  have TZ_3 : Hid (Tz v2 A0 n) := Lib.hid (TZ_2.out.below hb (Nat.le_refl _))
  have DS_3 : Hid (Dz v2 A1 ds) := Lib.hid (DS_2.out.below hb (Nat.le_refl _))
  clear TZ_2 DS_2
  have X_3 : Hid (Blk v2 w.heap.size 31 #[.int .i64 n0, .int .i64 n1]) := Lib.hid (X_2.out.below hb X_2.out.lt)
  have S_3 : Hid (Blk v2 v1.heap.size 27 #[.int .i64 P, .int .i64 N, .slice A1 ds.length k1]) := Lib.hid (S_2.out.below hb S_2.out.lt)
  have HB_3 : Hid (Below w.heap.size w v2) := Lib.hid (HB_2.out.trans (hb.mono HB_2.out.size))
  clear hb X_2 S_2 HB_2
  go_wp2_with fail
  refine (HM0.out _).mono ?_
  rintro e v3 ⟨rfl, hb⟩
  have TZ_4 : Hid (Tz v3 A0 n) := Lib.hid (TZ_3.out.below hb (Nat.le_refl _))
  have DS_4 : Hid (Dz v3 A1 ds) := Lib.hid (DS_3.out.below hb (Nat.le_refl _))
  clear TZ_3 DS_3
  have X_4 : Hid (Blk v3 w.heap.size 31 #[.int .i64 n0, .int .i64 n1]) := Lib.hid (X_3.out.below hb X_3.out.lt)
  have S_4 : Hid (Blk v3 v1.heap.size 27 #[.int .i64 P, .int .i64 N, .slice A1 ds.length k1]) := Lib.hid (S_3.out.below hb S_3.out.lt)
  have HB_4 : Hid (Below w.heap.size w v3) := Lib.hid (HB_3.out.trans (hb.mono HB_3.out.size))
  clear hb X_3 S_3 HB_3
  go_wp2_with fail
  refine wp_region_grow (S := (fun w' => w'.cell? ⟨w.heap.size, 0, none⟩ = some (.int .i64 n0) ∧ w'.cell? ⟨w.heap.size, 1, none⟩ = some (.int .i64 n1))) ((fun w' => Below v3.heap.size v3 w' ∧ Blk w' w.heap.size 31 #[.int .i64 n0, .int .i64 n1] ∧ Blk w' v1.heap.size 27 #[.int .i64 P, .int .i64 N, .slice A1 ds.length k1])) (by kernel_rfl) (⟨fun w2 h2 => ⟨(h2.2.1.cell (i := 0) rfl), (h2.2.1.cell (i := 1) rfl)⟩, fun w2 w3 h2 hb2 => ⟨h2.1.trans (hb2.mono h2.1.size), h2.2.1.below hb2 h2.2.1.lt, h2.2.2.below hb2 h2.2.2.lt⟩⟩) (⟨(Below.refl _ _).drew, X_4.out.drew, S_4.out.drew⟩) (fun hCalm => ?_)
  refine grow_take 0 (some 53) ?_ rfl rfl (by kernel_rfl) (fun _ _ _ h => h) (by kernel_rfl) hCalm ?_ ?_
  rotate_left
  · intro wS hS; (try dsimp only at hS); go_simp <;> with_reducible rfl
  try simp only [Act.put, List.setIfInBounds_toArray, List.set_cons_zero, List.set_cons_succ]
  refine grow_take 1 (some 54) ?_ rfl rfl (by kernel_rfl) (fun _ _ _ h => h) (by kernel_rfl) hCalm ?_ ?_
  rotate_left
  · intro wS hS; (try dsimp only at hS); go_simp <;> with_reducible rfl
  try simp only [Act.put, List.setIfInBounds_toArray, List.set_cons_zero, List.set_cons_succ]
  refine grow_call 2 (some 55) (.int .i64 px) 12 [.tmp 54, .const (Go.Value.int Go.IntKind.i64 4096)] #[3, 3] rfl rfl (by kernel_rfl) (fun _ _ _ h => h) (by kernel_rfl) hCalm rfl (enters_of Try.func12 (by kernel_rfl) rfl) (fun wz _ => HPX0.out wz) (by kernel_rfl) ?_
  try simp only [Act.put, List.setIfInBounds_toArray, List.set_cons_zero, List.set_cons_succ]
  refine grow_take 3 (some 56) ?_ rfl rfl (by kernel_rfl) (fun _ _ _ h => h) (by kernel_rfl) hCalm ?_ ?_
  rotate_left
  · intro wS hS; (try dsimp only at hS); go_simp <;> with_reducible rfl
  try simp only [Act.put, List.setIfInBounds_toArray, List.set_cons_zero, List.set_cons_succ]
  refine grow_take 4 (some 57) ?_ rfl rfl (by kernel_rfl) (fun _ _ _ h => h) (by kernel_rfl) hCalm ?_ ?_
  rotate_left
  · intro wS hS; (try dsimp only at hS); go_simp <;> with_reducible rfl
  try simp only [Act.put, List.setIfInBounds_toArray, List.set_cons_zero, List.set_cons_succ]
  refine grow_call 5 (some 58) (.int .i64 py) 12 [.tmp 57, .const (Go.Value.int Go.IntKind.i64 4096)] #[3, 3] rfl rfl (by kernel_rfl) (fun _ _ _ h => h) (by kernel_rfl) hCalm rfl (enters_of Try.func12 (by kernel_rfl) rfl) (fun wz _ => HPY0.out wz) (by kernel_rfl) ?_
  try simp only [Act.put, List.setIfInBounds_toArray, List.set_cons_zero, List.set_cons_succ]
  refine grow_take 6 (some 59) ?_ rfl rfl (by kernel_rfl) (fun _ _ _ h => h) (by kernel_rfl) hCalm ?_ ?_
  rotate_left
  · intro wS hS; (try dsimp only at hS); go_simp <;> with_reducible rfl
  try simp only [Act.put, List.setIfInBounds_toArray, List.set_cons_zero, List.set_cons_succ]
  refine grow_each [7] (by kernel_rfl) (by decide) ?_
  refine grow_cons 7 rfl (by kernel_rfl) (fun wA hA K hK => ?_) grow_nil
  obtain ⟨pPL, hpPL⟩ : ∃ b, b = wA.heap.size := ⟨_, rfl⟩
  have le_pPL : v3.heap.size ≤ pPL := by rw [hpPL]; exact hA.1.size
  have lt_X_pPL : w.heap.size < pPL := by rw [hpPL]; exact hA.2.1.lt
  have lt_S_pPL : v1.heap.size < pPL := by rw [hpPL]; exact hA.2.2.lt
  have hnew : Blk (wA.alloc (.cells #[.int .i64 0, .int .i64 0] 29)) pPL 29 #[.int .i64 0, .int .i64 0] := by rw [hpPL]; exact Blk.new wA _ _
  go_simp
  rw [← hpPL]
  refine hK.out _ _ (fun w' => Below v3.heap.size v3 w' ∧ Blk w' w.heap.size 31 #[.int .i64 n0, .int .i64 n1] ∧ Blk w' v1.heap.size 27 #[.int .i64 P, .int .i64 N, .slice A1 ds.length k1] ∧ Blk w' pPL 29 #[.int .i64 0, .int .i64 0]) ⟨fun w2 h2 => ⟨(h2.2.1.cell (i := 0) rfl), (h2.2.1.cell (i := 1) rfl)⟩, fun w2 w3 h2 hb2 => ⟨h2.1.trans (hb2.mono h2.1.size), h2.2.1.below hb2 h2.2.1.lt, h2.2.2.1.below hb2 h2.2.2.1.lt, h2.2.2.2.below hb2 h2.2.2.2.lt⟩⟩ ⟨hA.1.alloc hA.1.size _, hA.2.1.alloc _, hA.2.2.alloc _, hnew⟩ ?_
  clear hnew hpPL hK K hA wA hCalm
  have hCalm : Calm (fun w' => w'.cell? ⟨w.heap.size, 0, none⟩ = some (.int .i64 n0) ∧ w'.cell? ⟨w.heap.size, 1, none⟩ = some (.int .i64 n1)) (fun w' => Below v3.heap.size v3 w' ∧ Blk w' w.heap.size 31 #[.int .i64 n0, .int .i64 n1] ∧ Blk w' v1.heap.size 27 #[.int .i64 P, .int .i64 N, .slice A1 ds.length k1] ∧ Blk w' pPL 29 #[.int .i64 0, .int .i64 0]) := ⟨fun w2 h2 => ⟨(h2.2.1.cell (i := 0) rfl), (h2.2.1.cell (i := 1) rfl)⟩, fun w2 w3 h2 hb2 => ⟨h2.1.trans (hb2.mono h2.1.size), h2.2.1.below hb2 h2.2.1.lt, h2.2.2.1.below hb2 h2.2.2.1.lt, h2.2.2.2.below hb2 h2.2.2.2.lt⟩⟩
  try simp only [Act.put, List.setIfInBounds_toArray, List.set_cons_zero, List.set_cons_succ]
  refine grow_each [8] (by kernel_rfl) (by decide) ?_
  refine grow_cons 8 rfl (by kernel_rfl) (fun wA hA K hK => ?_) grow_nil
  have z0 := hA.2.2.2.cell (i := 0) (v := .int .i64 0) rfl; have f0 := hA.2.2.2.frozen 0
  have z1 := hA.2.2.2.cell (i := 1) (v := .int .i64 0) rfl; have f1 := hA.2.2.2.frozen 1
  go_simp
  refine hK.out _ _ (fun w' => Below v3.heap.size v3 w' ∧ Blk w' w.heap.size 31 #[.int .i64 n0, .int .i64 n1] ∧ Blk w' v1.heap.size 27 #[.int .i64 P, .int .i64 N, .slice A1 ds.length k1] ∧ Blk w' pPL 29 #[.int .i64 px, .int .i64 py]) ⟨fun w2 h2 => ⟨(h2.2.1.cell (i := 0) rfl), (h2.2.1.cell (i := 1) rfl)⟩, fun w2 w3 h2 hb2 => ⟨h2.1.trans (hb2.mono h2.1.size), h2.2.1.below hb2 h2.2.1.lt, h2.2.2.1.below hb2 h2.2.2.1.lt, h2.2.2.2.below hb2 h2.2.2.2.lt⟩⟩ ⟨((hA.1.setCell (p := ⟨pPL, 0, none⟩) (by show v3.heap.size ≤ pPL; omega) _).setCell (p := ⟨pPL, 1, none⟩) (by show v3.heap.size ≤ pPL; omega) _), ((hA.2.1.far (p := ⟨pPL, 0, none⟩) (by show w.heap.size ≠ pPL; omega) _).far (p := ⟨pPL, 1, none⟩) (by show w.heap.size ≠ pPL; omega) _), ((hA.2.2.1.far (p := ⟨pPL, 0, none⟩) (by show v1.heap.size ≠ pPL; omega) _).far (p := ⟨pPL, 1, none⟩) (by show v1.heap.size ≠ pPL; omega) _), ((hA.2.2.2.set 0 _).set 1 _)⟩ ?_
  clear z0 f0 z1 f1 hK K hA wA hCalm
  have hCalm : Calm (fun w' => w'.cell? ⟨w.heap.size, 0, none⟩ = some (.int .i64 n0) ∧ w'.cell? ⟨w.heap.size, 1, none⟩ = some (.int .i64 n1)) (fun w' => Below v3.heap.size v3 w' ∧ Blk w' w.heap.size 31 #[.int .i64 n0, .int .i64 n1] ∧ Blk w' v1.heap.size 27 #[.int .i64 P, .int .i64 N, .slice A1 ds.length k1] ∧ Blk w' pPL 29 #[.int .i64 px, .int .i64 py]) := ⟨fun w2 h2 => ⟨(h2.2.1.cell (i := 0) rfl), (h2.2.1.cell (i := 1) rfl)⟩, fun w2 w3 h2 hb2 => ⟨h2.1.trans (hb2.mono h2.1.size), h2.2.1.below hb2 h2.2.1.lt, h2.2.2.1.below hb2 h2.2.2.1.lt, h2.2.2.2.below hb2 h2.2.2.2.lt⟩⟩
  try simp only [Act.put]
  refine grow_done (by kernel_rfl) (fun wA hA => ?_) _
  have X_5 : Hid (Blk wA w.heap.size 31 #[.int .i64 n0, .int .i64 n1]) := Lib.hid hA.2.1
  have S_5 : Hid (Blk wA v1.heap.size 27 #[.int .i64 P, .int .i64 N, .slice A1 ds.length k1]) := Lib.hid hA.2.2.1
  have PL_5 : Hid (Blk wA pPL 29 #[.int .i64 px, .int .i64 py]) := Lib.hid hA.2.2.2
  have HB_5 : Hid (Below w.heap.size w wA) := Lib.hid (HB_4.out.trans (hA.1.mono HB_4.out.size))
  have TZ_5 : Hid (Tz wA A0 n) := Lib.hid (TZ_4.out.below hA.1 (Nat.le_refl _))
  have DS_5 : Hid (Dz wA A1 ds) := Lib.hid (DS_4.out.below hA.1 (Nat.le_refl _))
  clear hA hCalm X_4 S_4 HB_4 TZ_4 DS_4
  rename World => u5
  obtain ⟨es, hes⟩ : ∃ es, ds.map (trn 1) = es := ⟨_, rfl⟩
  have hel : es.length = ds.length := by rw [← hes]; simp
  have HVE : Hid (Vd P N es) := Lib.hid (by rw [← hes]; exact vd_turned 1 HVD.out)
  have HZE : Hid (es.length ≤ 9000000000000000000) := Lib.hid (by rw [hel]; exact HZL.out)
  have HEL := Lib.hid hel; have HES := Lib.hid hes; clear hel hes
  obtain ⟨fs, hfs⟩ : ∃ fs, ds.map (trn (qrt m)) = fs := ⟨_, rfl⟩
  have hfl : fs.length = ds.length := by rw [← hfs]; simp
  have HVF : Hid (Vd P N fs) := Lib.hid (by rw [← hfs]; exact vd_turned _ HVD.out)
  have HZF : Hid (fs.length ≤ 9000000000000000000) := Lib.hid (by rw [hfl]; exact HZL.out)
  have HFS := Lib.hid hfs; clear hfl hfs
  have HT1 : Hid (ds.map (trn (qrt 1)) = es) := Lib.hid (by rw [qrt_one]; exact HES.out)
  have HT2 : Hid (es.map (trn (qrt (-1))) = ds) := Lib.hid (by rw [← HT1.out, map_trn_qrt]; exact map_trn_zero (by decide) ds)
  have HT3 : Hid (ds.map (trn (qrt 4)) = ds) := Lib.hid (map_trn_zero (by decide) ds)
  have HT5 : Hid (fs.map (trn (qrt (-m))) = ds) := Lib.hid (by rw [← HFS.out, map_trn_qrt]; exact map_trn_zero (by rw [show m + -m = 0 by omega]; decide) ds)
  have HT6 : Hid (ds.map (trn (qrt (m + 4))) = fs) := Lib.hid (by rw [← HFS.out, show qrt (m + 4) = qrt m by unfold qrt; omega])
  have e1 := HE1.out; have e2 := HE2.out
  have yy0 := S_5.out.cell (i := 0) (v := .int .i64 P) rfl; have yy1 := S_5.out.cell (i := 1) (v := .int .i64 N) rfl; have yy2 := S_5.out.cell (i := 2) (v := .slice A1 ds.length k1) rfl
  go_wp2_with fail
  refine (yes_of (pturned_any P N ds A1 k1 (1) _ DS_5.out HZL.out (by omega)) HVD.out).mono ?_
  rintro e v5 ⟨A2, k2, rfl, hdz, hk_, hb⟩
  rw [HT1.out] at hdz hk_ ⊢
  have HK_T := Lib.hid hk_; clear hk_
  clear yy0 yy1 yy2
  have DT_5 := Lib.hid hdz
  have TZ_6 : Hid (Tz (v5.alloc (.cells #[.int .i64 P, .int .i64 N, .slice A2 es.length k2] 27)) A0 n) := Lib.hid (TZ_5.out.below (allocs_below [(#[.int .i64 P, .int .i64 N, .slice A2 es.length k2], 27)] _ hb hb.size) (Nat.le_refl _))
  have DS_6 : Hid (Dz (v5.alloc (.cells #[.int .i64 P, .int .i64 N, .slice A2 es.length k2] 27)) A1 ds) := Lib.hid (DS_5.out.below (allocs_below [(#[.int .i64 P, .int .i64 N, .slice A2 es.length k2], 27)] _ hb hb.size) (Nat.le_refl _))
  have DT_6 : Hid (Dz (v5.alloc (.cells #[.int .i64 P, .int .i64 N, .slice A2 es.length k2] 27)) A2 es) := Lib.hid (DT_5.out.below (allocs_below [(#[.int .i64 P, .int .i64 N, .slice A2 es.length k2], 27)] _ (Below.refl _ _) (Nat.le_refl _)) (Nat.le_refl _))
  clear TZ_5 DS_5 DT_5
  have X_6 : Hid (Blk (v5.alloc (.cells #[.int .i64 P, .int .i64 N, .slice A2 es.length k2] 27)) w.heap.size 31 #[.int .i64 n0, .int .i64 n1]) := Lib.hid (allocs_keep [(#[.int .i64 P, .int .i64 N, .slice A2 es.length k2], 27)] _ (X_5.out.below hb X_5.out.lt))
  have S_6 : Hid (Blk (v5.alloc (.cells #[.int .i64 P, .int .i64 N, .slice A2 es.length k2] 27)) v1.heap.size 27 #[.int .i64 P, .int .i64 N, .slice A1 ds.length k1]) := Lib.hid (allocs_keep [(#[.int .i64 P, .int .i64 N, .slice A2 es.length k2], 27)] _ (S_5.out.below hb S_5.out.lt))
  have PL_6 : Hid (Blk (v5.alloc (.cells #[.int .i64 P, .int .i64 N, .slice A2 es.length k2] 27)) pPL 29 #[.int .i64 px, .int .i64 py]) := Lib.hid (allocs_keep [(#[.int .i64 P, .int .i64 N, .slice A2 es.length k2], 27)] _ (PL_5.out.below hb PL_5.out.lt))
  have HB_6 : Hid (Below w.heap.size w (v5.alloc (.cells #[.int .i64 P, .int .i64 N, .slice A2 es.length k2] 27))) := Lib.hid (allocs_below [(#[.int .i64 P, .int .i64 N, .slice A2 es.length k2], 27)] _ (HB_5.out.trans (hb.mono HB_5.out.size)) (HB_5.out.trans (hb.mono HB_5.out.size)).size)
  have T_6 : Hid (Blk (v5.alloc (.cells #[.int .i64 P, .int .i64 N, .slice A2 es.length k2] 27)) v5.heap.size 27 #[.int .i64 P, .int .i64 N, .slice A2 es.length k2]) := Lib.hid (allocs_blk [(#[.int .i64 P, .int .i64 N, .slice A2 es.length k2], 27)] v5 0 _ rfl)
  clear hb X_5 S_5 PL_5 HB_5
  have yy0 := T_6.out.cell (i := 0) (v := .int .i64 P) rfl; have yy1 := T_6.out.cell (i := 1) (v := .int .i64 N) rfl; have yy2 := T_6.out.cell (i := 2) (v := .slice A2 es.length k2) rfl
  go_wp2_with fail
  refine (yes_of (pturned_any P N es A2 k2 (-1) _ DT_6.out HZE.out (by omega)) HVE.out).mono ?_
  rintro e v6 ⟨A3, k3, rfl, hdz, hk_, hb⟩
  rw [HT2.out] at hdz hk_ ⊢
  have HK_U := Lib.hid hk_; clear hk_
  clear yy0 yy1 yy2
  have DU_6 := Lib.hid hdz
  have TZ_7 : Hid (Tz (v6.alloc (.cells #[.int .i64 P, .int .i64 N, .slice A3 ds.length k3] 27)) A0 n) := Lib.hid (TZ_6.out.below (allocs_below [(#[.int .i64 P, .int .i64 N, .slice A3 ds.length k3], 27)] _ hb hb.size) (Nat.le_refl _))
  have DS_7 : Hid (Dz (v6.alloc (.cells #[.int .i64 P, .int .i64 N, .slice A3 ds.length k3] 27)) A1 ds) := Lib.hid (DS_6.out.below (allocs_below [(#[.int .i64 P, .int .i64 N, .slice A3 ds.length k3], 27)] _ hb hb.size) (Nat.le_refl _))
  have DT_7 : Hid (Dz (v6.alloc (.cells #[.int .i64 P, .int .i64 N, .slice A3 ds.length k3] 27)) A2 es) := Lib.hid (DT_6.out.below (allocs_below [(#[.int .i64 P, .int .i64 N, .slice A3 ds.length k3], 27)] _ hb hb.size) (Nat.le_refl _))
  have DU_7 : Hid (Dz (v6.alloc (.cells #[.int .i64 P, .int .i64 N, .slice A3 ds.length k3] 27)) A3 ds) := Lib.hid (DU_6.out.below (allocs_below [(#[.int .i64 P, .int .i64 N, .slice A3 ds.length k3], 27)] _ (Below.refl _ _) (Nat.le_refl _)) (Nat.le_refl _))
  clear TZ_6 DS_6 DT_6 DU_6
  have X_7 : Hid (Blk (v6.alloc (.cells #[.int .i64 P, .int .i64 N, .slice A3 ds.length k3] 27)) w.heap.size 31 #[.int .i64 n0, .int .i64 n1]) := Lib.hid (allocs_keep [(#[.int .i64 P, .int .i64 N, .slice A3 ds.length k3], 27)] _ (X_6.out.below hb X_6.out.lt))
  have S_7 : Hid (Blk (v6.alloc (.cells #[.int .i64 P, .int .i64 N, .slice A3 ds.length k3] 27)) v1.heap.size 27 #[.int .i64 P, .int .i64 N, .slice A1 ds.length k1]) := Lib.hid (allocs_keep [(#[.int .i64 P, .int .i64 N, .slice A3 ds.length k3], 27)] _ (S_6.out.below hb S_6.out.lt))
  have PL_7 : Hid (Blk (v6.alloc (.cells #[.int .i64 P, .int .i64 N, .slice A3 ds.length k3] 27)) pPL 29 #[.int .i64 px, .int .i64 py]) := Lib.hid (allocs_keep [(#[.int .i64 P, .int .i64 N, .slice A3 ds.length k3], 27)] _ (PL_6.out.below hb PL_6.out.lt))
  have T_7 : Hid (Blk (v6.alloc (.cells #[.int .i64 P, .int .i64 N, .slice A3 ds.length k3] 27)) v5.heap.size 27 #[.int .i64 P, .int .i64 N, .slice A2 es.length k2]) := Lib.hid (allocs_keep [(#[.int .i64 P, .int .i64 N, .slice A3 ds.length k3], 27)] _ (T_6.out.below hb T_6.out.lt))
  have HB_7 : Hid (Below w.heap.size w (v6.alloc (.cells #[.int .i64 P, .int .i64 N, .slice A3 ds.length k3] 27))) := Lib.hid (allocs_below [(#[.int .i64 P, .int .i64 N, .slice A3 ds.length k3], 27)] _ (HB_6.out.trans (hb.mono HB_6.out.size)) (HB_6.out.trans (hb.mono HB_6.out.size)).size)
  have U_7 : Hid (Blk (v6.alloc (.cells #[.int .i64 P, .int .i64 N, .slice A3 ds.length k3] 27)) v6.heap.size 27 #[.int .i64 P, .int .i64 N, .slice A3 ds.length k3]) := Lib.hid (allocs_blk [(#[.int .i64 P, .int .i64 N, .slice A3 ds.length k3], 27)] v6 0 _ rfl)
  clear hb X_6 S_6 PL_6 T_6 HB_6
  have yy0 := S_7.out.cell (i := 0) (v := .int .i64 P) rfl; have yy1 := S_7.out.cell (i := 1) (v := .int .i64 N) rfl; have yy2 := S_7.out.cell (i := 2) (v := .slice A1 ds.length k1) rfl
  go_wp2_with fail
  refine (yes_of (pturned_any P N ds A1 k1 (4) _ DS_7.out HZL.out (by omega)) HVD.out).mono ?_
  rintro e v7 ⟨A4, k4, rfl, hdz, hk_, hb⟩
  rw [HT3.out] at hdz hk_ ⊢
  have HK_V := Lib.hid hk_; clear hk_
  clear yy0 yy1 yy2
  have DV_7 := Lib.hid hdz
  have TZ_8 : Hid (Tz (v7.alloc (.cells #[.int .i64 P, .int .i64 N, .slice A4 ds.length k4] 27)) A0 n) := Lib.hid (TZ_7.out.below (allocs_below [(#[.int .i64 P, .int .i64 N, .slice A4 ds.length k4], 27)] _ hb hb.size) (Nat.le_refl _))
  have DS_8 : Hid (Dz (v7.alloc (.cells #[.int .i64 P, .int .i64 N, .slice A4 ds.length k4] 27)) A1 ds) := Lib.hid (DS_7.out.below (allocs_below [(#[.int .i64 P, .int .i64 N, .slice A4 ds.length k4], 27)] _ hb hb.size) (Nat.le_refl _))
  have DT_8 : Hid (Dz (v7.alloc (.cells #[.int .i64 P, .int .i64 N, .slice A4 ds.length k4] 27)) A2 es) := Lib.hid (DT_7.out.below (allocs_below [(#[.int .i64 P, .int .i64 N, .slice A4 ds.length k4], 27)] _ hb hb.size) (Nat.le_refl _))
  have DU_8 : Hid (Dz (v7.alloc (.cells #[.int .i64 P, .int .i64 N, .slice A4 ds.length k4] 27)) A3 ds) := Lib.hid (DU_7.out.below (allocs_below [(#[.int .i64 P, .int .i64 N, .slice A4 ds.length k4], 27)] _ hb hb.size) (Nat.le_refl _))
  have DV_8 : Hid (Dz (v7.alloc (.cells #[.int .i64 P, .int .i64 N, .slice A4 ds.length k4] 27)) A4 ds) := Lib.hid (DV_7.out.below (allocs_below [(#[.int .i64 P, .int .i64 N, .slice A4 ds.length k4], 27)] _ (Below.refl _ _) (Nat.le_refl _)) (Nat.le_refl _))
  clear TZ_7 DS_7 DT_7 DU_7 DV_7
  have X_8 : Hid (Blk (v7.alloc (.cells #[.int .i64 P, .int .i64 N, .slice A4 ds.length k4] 27)) w.heap.size 31 #[.int .i64 n0, .int .i64 n1]) := Lib.hid (allocs_keep [(#[.int .i64 P, .int .i64 N, .slice A4 ds.length k4], 27)] _ (X_7.out.below hb X_7.out.lt))
  have S_8 : Hid (Blk (v7.alloc (.cells #[.int .i64 P, .int .i64 N, .slice A4 ds.length k4] 27)) v1.heap.size 27 #[.int .i64 P, .int .i64 N, .slice A1 ds.length k1]) := Lib.hid (allocs_keep [(#[.int .i64 P, .int .i64 N, .slice A4 ds.length k4], 27)] _ (S_7.out.below hb S_7.out.lt))
  have PL_8 : Hid (Blk (v7.alloc (.cells #[.int .i64 P, .int .i64 N, .slice A4 ds.length k4] 27)) pPL 29 #[.int .i64 px, .int .i64 py]) := Lib.hid (allocs_keep [(#[.int .i64 P, .int .i64 N, .slice A4 ds.length k4], 27)] _ (PL_7.out.below hb PL_7.out.lt))
  have T_8 : Hid (Blk (v7.alloc (.cells #[.int .i64 P, .int .i64 N, .slice A4 ds.length k4] 27)) v5.heap.size 27 #[.int .i64 P, .int .i64 N, .slice A2 es.length k2]) := Lib.hid (allocs_keep [(#[.int .i64 P, .int .i64 N, .slice A4 ds.length k4], 27)] _ (T_7.out.below hb T_7.out.lt))
  have U_8 : Hid (Blk (v7.alloc (.cells #[.int .i64 P, .int .i64 N, .slice A4 ds.length k4] 27)) v6.heap.size 27 #[.int .i64 P, .int .i64 N, .slice A3 ds.length k3]) := Lib.hid (allocs_keep [(#[.int .i64 P, .int .i64 N, .slice A4 ds.length k4], 27)] _ (U_7.out.below hb U_7.out.lt))
  have HB_8 : Hid (Below w.heap.size w (v7.alloc (.cells #[.int .i64 P, .int .i64 N, .slice A4 ds.length k4] 27))) := Lib.hid (allocs_below [(#[.int .i64 P, .int .i64 N, .slice A4 ds.length k4], 27)] _ (HB_7.out.trans (hb.mono HB_7.out.size)) (HB_7.out.trans (hb.mono HB_7.out.size)).size)
  have V_8 : Hid (Blk (v7.alloc (.cells #[.int .i64 P, .int .i64 N, .slice A4 ds.length k4] 27)) v7.heap.size 27 #[.int .i64 P, .int .i64 N, .slice A4 ds.length k4]) := Lib.hid (allocs_blk [(#[.int .i64 P, .int .i64 N, .slice A4 ds.length k4], 27)] v7 0 _ rfl)
  clear hb X_7 S_7 PL_7 T_7 U_7 HB_7
  have yy0 := S_8.out.cell (i := 0) (v := .int .i64 P) rfl; have yy1 := S_8.out.cell (i := 1) (v := .int .i64 N) rfl; have yy2 := S_8.out.cell (i := 2) (v := .slice A1 ds.length k1) rfl
  go_wp2_with fail
  refine (yes_of (pturned_any P N ds A1 k1 (m) _ DS_8.out HZL.out (by have := HMM.out; omega)) HVD.out).mono ?_
  rintro e v8 ⟨A5, k5, rfl, hdz, hk_, hb⟩
  rw [HFS.out] at hdz hk_ ⊢
  have HK_W := Lib.hid hk_; clear hk_
  clear yy0 yy1 yy2
  have DW_8 := Lib.hid hdz
  have TZ_9 : Hid (Tz (v8.alloc (.cells #[.int .i64 P, .int .i64 N, .slice A5 fs.length k5] 27)) A0 n) := Lib.hid (TZ_8.out.below (allocs_below [(#[.int .i64 P, .int .i64 N, .slice A5 fs.length k5], 27)] _ hb hb.size) (Nat.le_refl _))
  have DS_9 : Hid (Dz (v8.alloc (.cells #[.int .i64 P, .int .i64 N, .slice A5 fs.length k5] 27)) A1 ds) := Lib.hid (DS_8.out.below (allocs_below [(#[.int .i64 P, .int .i64 N, .slice A5 fs.length k5], 27)] _ hb hb.size) (Nat.le_refl _))
  have DT_9 : Hid (Dz (v8.alloc (.cells #[.int .i64 P, .int .i64 N, .slice A5 fs.length k5] 27)) A2 es) := Lib.hid (DT_8.out.below (allocs_below [(#[.int .i64 P, .int .i64 N, .slice A5 fs.length k5], 27)] _ hb hb.size) (Nat.le_refl _))
  have DU_9 : Hid (Dz (v8.alloc (.cells #[.int .i64 P, .int .i64 N, .slice A5 fs.length k5] 27)) A3 ds) := Lib.hid (DU_8.out.below (allocs_below [(#[.int .i64 P, .int .i64 N, .slice A5 fs.length k5], 27)] _ hb hb.size) (Nat.le_refl _))
  have DV_9 : Hid (Dz (v8.alloc (.cells #[.int .i64 P, .int .i64 N, .slice A5 fs.length k5] 27)) A4 ds) := Lib.hid (DV_8.out.below (allocs_below [(#[.int .i64 P, .int .i64 N, .slice A5 fs.length k5], 27)] _ hb hb.size) (Nat.le_refl _))
  have DW_9 : Hid (Dz (v8.alloc (.cells #[.int .i64 P, .int .i64 N, .slice A5 fs.length k5] 27)) A5 fs) := Lib.hid (DW_8.out.below (allocs_below [(#[.int .i64 P, .int .i64 N, .slice A5 fs.length k5], 27)] _ (Below.refl _ _) (Nat.le_refl _)) (Nat.le_refl _))
  clear TZ_8 DS_8 DT_8 DU_8 DV_8 DW_8
  have X_9 : Hid (Blk (v8.alloc (.cells #[.int .i64 P, .int .i64 N, .slice A5 fs.length k5] 27)) w.heap.size 31 #[.int .i64 n0, .int .i64 n1]) := Lib.hid (allocs_keep [(#[.int .i64 P, .int .i64 N, .slice A5 fs.length k5], 27)] _ (X_8.out.below hb X_8.out.lt))
  have S_9 : Hid (Blk (v8.alloc (.cells #[.int .i64 P, .int .i64 N, .slice A5 fs.length k5] 27)) v1.heap.size 27 #[.int .i64 P, .int .i64 N, .slice A1 ds.length k1]) := Lib.hid (allocs_keep [(#[.int .i64 P, .int .i64 N, .slice A5 fs.length k5], 27)] _ (S_8.out.below hb S_8.out.lt))
  have PL_9 : Hid (Blk (v8.alloc (.cells #[.int .i64 P, .int .i64 N, .slice A5 fs.length k5] 27)) pPL 29 #[.int .i64 px, .int .i64 py]) := Lib.hid (allocs_keep [(#[.int .i64 P, .int .i64 N, .slice A5 fs.length k5], 27)] _ (PL_8.out.below hb PL_8.out.lt))
  have T_9 : Hid (Blk (v8.alloc (.cells #[.int .i64 P, .int .i64 N, .slice A5 fs.length k5] 27)) v5.heap.size 27 #[.int .i64 P, .int .i64 N, .slice A2 es.length k2]) := Lib.hid (allocs_keep [(#[.int .i64 P, .int .i64 N, .slice A5 fs.length k5], 27)] _ (T_8.out.below hb T_8.out.lt))
  have U_9 : Hid (Blk (v8.alloc (.cells #[.int .i64 P, .int .i64 N, .slice A5 fs.length k5] 27)) v6.heap.size 27 #[.int .i64 P, .int .i64 N, .slice A3 ds.length k3]) := Lib.hid (allocs_keep [(#[.int .i64 P, .int .i64 N, .slice A5 fs.length k5], 27)] _ (U_8.out.below hb U_8.out.lt))
  have V_9 : Hid (Blk (v8.alloc (.cells #[.int .i64 P, .int .i64 N, .slice A5 fs.length k5] 27)) v7.heap.size 27 #[.int .i64 P, .int .i64 N, .slice A4 ds.length k4]) := Lib.hid (allocs_keep [(#[.int .i64 P, .int .i64 N, .slice A5 fs.length k5], 27)] _ (V_8.out.below hb V_8.out.lt))
  have HB_9 : Hid (Below w.heap.size w (v8.alloc (.cells #[.int .i64 P, .int .i64 N, .slice A5 fs.length k5] 27))) := Lib.hid (allocs_below [(#[.int .i64 P, .int .i64 N, .slice A5 fs.length k5], 27)] _ (HB_8.out.trans (hb.mono HB_8.out.size)) (HB_8.out.trans (hb.mono HB_8.out.size)).size)
  have W_9 : Hid (Blk (v8.alloc (.cells #[.int .i64 P, .int .i64 N, .slice A5 fs.length k5] 27)) v8.heap.size 27 #[.int .i64 P, .int .i64 N, .slice A5 fs.length k5]) := Lib.hid (allocs_blk [(#[.int .i64 P, .int .i64 N, .slice A5 fs.length k5], 27)] v8 0 _ rfl)
  clear hb X_8 S_8 PL_8 T_8 U_8 V_8 HB_8
  have yy0 := W_9.out.cell (i := 0) (v := .int .i64 P) rfl; have yy1 := W_9.out.cell (i := 1) (v := .int .i64 N) rfl; have yy2 := W_9.out.cell (i := 2) (v := .slice A5 fs.length k5) rfl
  go_wp2_with fail
  refine (yes_of (pturned_any P N fs A5 k5 (-m) _ DW_9.out HZF.out (by have := HMM.out; omega)) HVF.out).mono ?_
  rintro e v9 ⟨A6, k6, rfl, hdz, hk_, hb⟩
  rw [HT5.out] at hdz hk_ ⊢
  have HK_Y := Lib.hid hk_; clear hk_
  clear yy0 yy1 yy2
  have DY_9 := Lib.hid hdz
  have TZ_10 : Hid (Tz (v9.alloc (.cells #[.int .i64 P, .int .i64 N, .slice A6 ds.length k6] 27)) A0 n) := Lib.hid (TZ_9.out.below (allocs_below [(#[.int .i64 P, .int .i64 N, .slice A6 ds.length k6], 27)] _ hb hb.size) (Nat.le_refl _))
  have DS_10 : Hid (Dz (v9.alloc (.cells #[.int .i64 P, .int .i64 N, .slice A6 ds.length k6] 27)) A1 ds) := Lib.hid (DS_9.out.below (allocs_below [(#[.int .i64 P, .int .i64 N, .slice A6 ds.length k6], 27)] _ hb hb.size) (Nat.le_refl _))
  have DT_10 : Hid (Dz (v9.alloc (.cells #[.int .i64 P, .int .i64 N, .slice A6 ds.length k6] 27)) A2 es) := Lib.hid (DT_9.out.below (allocs_below [(#[.int .i64 P, .int .i64 N, .slice A6 ds.length k6], 27)] _ hb hb.size) (Nat.le_refl _))
  have DU_10 : Hid (Dz (v9.alloc (.cells #[.int .i64 P, .int .i64 N, .slice A6 ds.length k6] 27)) A3 ds) := Lib.hid (DU_9.out.below (allocs_below [(#[.int .i64 P, .int .i64 N, .slice A6 ds.length k6], 27)] _ hb hb.size) (Nat.le_refl _))
  have DV_10 : Hid (Dz (v9.alloc (.cells #[.int .i64 P, .int .i64 N, .slice A6 ds.length k6] 27)) A4 ds) := Lib.hid (DV_9.out.below (allocs_below [(#[.int .i64 P, .int .i64 N, .slice A6 ds.length k6], 27)] _ hb hb.size) (Nat.le_refl _))
  have DW_10 : Hid (Dz (v9.alloc (.cells #[.int .i64 P, .int .i64 N, .slice A6 ds.length k6] 27)) A5 fs) := Lib.hid (DW_9.out.below (allocs_below [(#[.int .i64 P, .int .i64 N, .slice A6 ds.length k6], 27)] _ hb hb.size) (Nat.le_refl _))
  have DY_10 : Hid (Dz (v9.alloc (.cells #[.int .i64 P, .int .i64 N, .slice A6 ds.length k6] 27)) A6 ds) := Lib.hid (DY_9.out.below (allocs_below [(#[.int .i64 P, .int .i64 N, .slice A6 ds.length k6], 27)] _ (Below.refl _ _) (Nat.le_refl _)) (Nat.le_refl _))
  clear TZ_9 DS_9 DT_9 DU_9 DV_9 DW_9 DY_9
  have X_10 : Hid (Blk (v9.alloc (.cells #[.int .i64 P, .int .i64 N, .slice A6 ds.length k6] 27)) w.heap.size 31 #[.int .i64 n0, .int .i64 n1]) := Lib.hid (allocs_keep [(#[.int .i64 P, .int .i64 N, .slice A6 ds.length k6], 27)] _ (X_9.out.below hb X_9.out.lt))
  have S_10 : Hid (Blk (v9.alloc (.cells #[.int .i64 P, .int .i64 N, .slice A6 ds.length k6] 27)) v1.heap.size 27 #[.int .i64 P, .int .i64 N, .slice A1 ds.length k1]) := Lib.hid (allocs_keep [(#[.int .i64 P, .int .i64 N, .slice A6 ds.length k6], 27)] _ (S_9.out.below hb S_9.out.lt))
  have PL_10 : Hid (Blk (v9.alloc (.cells #[.int .i64 P, .int .i64 N, .slice A6 ds.length k6] 27)) pPL 29 #[.int .i64 px, .int .i64 py]) := Lib.hid (allocs_keep [(#[.int .i64 P, .int .i64 N, .slice A6 ds.length k6], 27)] _ (PL_9.out.below hb PL_9.out.lt))
  have T_10 : Hid (Blk (v9.alloc (.cells #[.int .i64 P, .int .i64 N, .slice A6 ds.length k6] 27)) v5.heap.size 27 #[.int .i64 P, .int .i64 N, .slice A2 es.length k2]) := Lib.hid (allocs_keep [(#[.int .i64 P, .int .i64 N, .slice A6 ds.length k6], 27)] _ (T_9.out.below hb T_9.out.lt))
  have U_10 : Hid (Blk (v9.alloc (.cells #[.int .i64 P, .int .i64 N, .slice A6 ds.length k6] 27)) v6.heap.size 27 #[.int .i64 P, .int .i64 N, .slice A3 ds.length k3]) := Lib.hid (allocs_keep [(#[.int .i64 P, .int .i64 N, .slice A6 ds.length k6], 27)] _ (U_9.out.below hb U_9.out.lt))
  have V_10 : Hid (Blk (v9.alloc (.cells #[.int .i64 P, .int .i64 N, .slice A6 ds.length k6] 27)) v7.heap.size 27 #[.int .i64 P, .int .i64 N, .slice A4 ds.length k4]) := Lib.hid (allocs_keep [(#[.int .i64 P, .int .i64 N, .slice A6 ds.length k6], 27)] _ (V_9.out.below hb V_9.out.lt))
  have W_10 : Hid (Blk (v9.alloc (.cells #[.int .i64 P, .int .i64 N, .slice A6 ds.length k6] 27)) v8.heap.size 27 #[.int .i64 P, .int .i64 N, .slice A5 fs.length k5]) := Lib.hid (allocs_keep [(#[.int .i64 P, .int .i64 N, .slice A6 ds.length k6], 27)] _ (W_9.out.below hb W_9.out.lt))
  have HB_10 : Hid (Below w.heap.size w (v9.alloc (.cells #[.int .i64 P, .int .i64 N, .slice A6 ds.length k6] 27))) := Lib.hid (allocs_below [(#[.int .i64 P, .int .i64 N, .slice A6 ds.length k6], 27)] _ (HB_9.out.trans (hb.mono HB_9.out.size)) (HB_9.out.trans (hb.mono HB_9.out.size)).size)
  have Y_10 : Hid (Blk (v9.alloc (.cells #[.int .i64 P, .int .i64 N, .slice A6 ds.length k6] 27)) v9.heap.size 27 #[.int .i64 P, .int .i64 N, .slice A6 ds.length k6]) := Lib.hid (allocs_blk [(#[.int .i64 P, .int .i64 N, .slice A6 ds.length k6], 27)] v9 0 _ rfl)
  clear hb X_9 S_9 PL_9 T_9 U_9 V_9 W_9 HB_9
  have yy0 := S_10.out.cell (i := 0) (v := .int .i64 P) rfl; have yy1 := S_10.out.cell (i := 1) (v := .int .i64 N) rfl; have yy2 := S_10.out.cell (i := 2) (v := .slice A1 ds.length k1) rfl
  go_wp2_with fail
  refine (yes_of (pturned_any P N ds A1 k1 (m + 4) _ DS_10.out HZL.out (by have := HMM.out; omega)) HVD.out).mono ?_
  rintro e v10 ⟨A7, k7, rfl, hdz, hk_, hb⟩
  rw [HT6.out] at hdz hk_ ⊢
  have HK_Z := Lib.hid hk_; clear hk_
  clear yy0 yy1 yy2
  have DZ_10 := Lib.hid hdz
  have TZ_11 : Hid (Tz (v10.alloc (.cells #[.int .i64 P, .int .i64 N, .slice A7 fs.length k7] 27)) A0 n) := Lib.hid (TZ_10.out.below (allocs_below [(#[.int .i64 P, .int .i64 N, .slice A7 fs.length k7], 27)] _ hb hb.size) (Nat.le_refl _))
  have DS_11 : Hid (Dz (v10.alloc (.cells #[.int .i64 P, .int .i64 N, .slice A7 fs.length k7] 27)) A1 ds) := Lib.hid (DS_10.out.below (allocs_below [(#[.int .i64 P, .int .i64 N, .slice A7 fs.length k7], 27)] _ hb hb.size) (Nat.le_refl _))
  have DT_11 : Hid (Dz (v10.alloc (.cells #[.int .i64 P, .int .i64 N, .slice A7 fs.length k7] 27)) A2 es) := Lib.hid (DT_10.out.below (allocs_below [(#[.int .i64 P, .int .i64 N, .slice A7 fs.length k7], 27)] _ hb hb.size) (Nat.le_refl _))
  have DU_11 : Hid (Dz (v10.alloc (.cells #[.int .i64 P, .int .i64 N, .slice A7 fs.length k7] 27)) A3 ds) := Lib.hid (DU_10.out.below (allocs_below [(#[.int .i64 P, .int .i64 N, .slice A7 fs.length k7], 27)] _ hb hb.size) (Nat.le_refl _))
  have DV_11 : Hid (Dz (v10.alloc (.cells #[.int .i64 P, .int .i64 N, .slice A7 fs.length k7] 27)) A4 ds) := Lib.hid (DV_10.out.below (allocs_below [(#[.int .i64 P, .int .i64 N, .slice A7 fs.length k7], 27)] _ hb hb.size) (Nat.le_refl _))
  have DW_11 : Hid (Dz (v10.alloc (.cells #[.int .i64 P, .int .i64 N, .slice A7 fs.length k7] 27)) A5 fs) := Lib.hid (DW_10.out.below (allocs_below [(#[.int .i64 P, .int .i64 N, .slice A7 fs.length k7], 27)] _ hb hb.size) (Nat.le_refl _))
  have DY_11 : Hid (Dz (v10.alloc (.cells #[.int .i64 P, .int .i64 N, .slice A7 fs.length k7] 27)) A6 ds) := Lib.hid (DY_10.out.below (allocs_below [(#[.int .i64 P, .int .i64 N, .slice A7 fs.length k7], 27)] _ hb hb.size) (Nat.le_refl _))
  have DZ_11 : Hid (Dz (v10.alloc (.cells #[.int .i64 P, .int .i64 N, .slice A7 fs.length k7] 27)) A7 fs) := Lib.hid (DZ_10.out.below (allocs_below [(#[.int .i64 P, .int .i64 N, .slice A7 fs.length k7], 27)] _ (Below.refl _ _) (Nat.le_refl _)) (Nat.le_refl _))
  clear TZ_10 DS_10 DT_10 DU_10 DV_10 DW_10 DY_10 DZ_10
  have X_11 : Hid (Blk (v10.alloc (.cells #[.int .i64 P, .int .i64 N, .slice A7 fs.length k7] 27)) w.heap.size 31 #[.int .i64 n0, .int .i64 n1]) := Lib.hid (allocs_keep [(#[.int .i64 P, .int .i64 N, .slice A7 fs.length k7], 27)] _ (X_10.out.below hb X_10.out.lt))
  have S_11 : Hid (Blk (v10.alloc (.cells #[.int .i64 P, .int .i64 N, .slice A7 fs.length k7] 27)) v1.heap.size 27 #[.int .i64 P, .int .i64 N, .slice A1 ds.length k1]) := Lib.hid (allocs_keep [(#[.int .i64 P, .int .i64 N, .slice A7 fs.length k7], 27)] _ (S_10.out.below hb S_10.out.lt))
  have PL_11 : Hid (Blk (v10.alloc (.cells #[.int .i64 P, .int .i64 N, .slice A7 fs.length k7] 27)) pPL 29 #[.int .i64 px, .int .i64 py]) := Lib.hid (allocs_keep [(#[.int .i64 P, .int .i64 N, .slice A7 fs.length k7], 27)] _ (PL_10.out.below hb PL_10.out.lt))
  have T_11 : Hid (Blk (v10.alloc (.cells #[.int .i64 P, .int .i64 N, .slice A7 fs.length k7] 27)) v5.heap.size 27 #[.int .i64 P, .int .i64 N, .slice A2 es.length k2]) := Lib.hid (allocs_keep [(#[.int .i64 P, .int .i64 N, .slice A7 fs.length k7], 27)] _ (T_10.out.below hb T_10.out.lt))
  have U_11 : Hid (Blk (v10.alloc (.cells #[.int .i64 P, .int .i64 N, .slice A7 fs.length k7] 27)) v6.heap.size 27 #[.int .i64 P, .int .i64 N, .slice A3 ds.length k3]) := Lib.hid (allocs_keep [(#[.int .i64 P, .int .i64 N, .slice A7 fs.length k7], 27)] _ (U_10.out.below hb U_10.out.lt))
  have V_11 : Hid (Blk (v10.alloc (.cells #[.int .i64 P, .int .i64 N, .slice A7 fs.length k7] 27)) v7.heap.size 27 #[.int .i64 P, .int .i64 N, .slice A4 ds.length k4]) := Lib.hid (allocs_keep [(#[.int .i64 P, .int .i64 N, .slice A7 fs.length k7], 27)] _ (V_10.out.below hb V_10.out.lt))
  have W_11 : Hid (Blk (v10.alloc (.cells #[.int .i64 P, .int .i64 N, .slice A7 fs.length k7] 27)) v8.heap.size 27 #[.int .i64 P, .int .i64 N, .slice A5 fs.length k5]) := Lib.hid (allocs_keep [(#[.int .i64 P, .int .i64 N, .slice A7 fs.length k7], 27)] _ (W_10.out.below hb W_10.out.lt))
  have Y_11 : Hid (Blk (v10.alloc (.cells #[.int .i64 P, .int .i64 N, .slice A7 fs.length k7] 27)) v9.heap.size 27 #[.int .i64 P, .int .i64 N, .slice A6 ds.length k6]) := Lib.hid (allocs_keep [(#[.int .i64 P, .int .i64 N, .slice A7 fs.length k7], 27)] _ (Y_10.out.below hb Y_10.out.lt))
  have HB_11 : Hid (Below w.heap.size w (v10.alloc (.cells #[.int .i64 P, .int .i64 N, .slice A7 fs.length k7] 27))) := Lib.hid (allocs_below [(#[.int .i64 P, .int .i64 N, .slice A7 fs.length k7], 27)] _ (HB_10.out.trans (hb.mono HB_10.out.size)) (HB_10.out.trans (hb.mono HB_10.out.size)).size)
  have Z_11 : Hid (Blk (v10.alloc (.cells #[.int .i64 P, .int .i64 N, .slice A7 fs.length k7] 27)) v10.heap.size 27 #[.int .i64 P, .int .i64 N, .slice A7 fs.length k7]) := Lib.hid (allocs_blk [(#[.int .i64 P, .int .i64 N, .slice A7 fs.length k7], 27)] v10 0 _ rfl)
  clear hb X_10 S_10 PL_10 T_10 U_10 V_10 W_10 Y_10 HB_10
  have yy0 := U_11.out.cell (i := 0) (v := .int .i64 P) rfl; have yy1 := U_11.out.cell (i := 1) (v := .int .i64 N) rfl; have yy2 := U_11.out.cell (i := 2) (v := .slice A3 ds.length k3) rfl
  have yy3 := S_11.out.cell (i := 0) (v := .int .i64 P) rfl; have yy4 := S_11.out.cell (i := 1) (v := .int .i64 N) rfl; have yy5 := S_11.out.cell (i := 2) (v := .slice A1 ds.length k1) rfl
  go_wp2_with fail
  refine (psame_true P N ds A3 A1 k3 k1 _ DU_11.out DS_11.out HZL.out).mono ?_
  rintro e v11 ⟨rfl, hb⟩
  clear yy0 yy1 yy2 yy3 yy4 yy5
  have TZ_12 : Hid (Tz v11 A0 n) := Lib.hid (TZ_11.out.below hb (Nat.le_refl _))
  have DS_12 : Hid (Dz v11 A1 ds) := Lib.hid (DS_11.out.below hb (Nat.le_refl _))
  have DT_12 : Hid (Dz v11 A2 es) := Lib.hid (DT_11.out.below hb (Nat.le_refl _))
  have DU_12 : Hid (Dz v11 A3 ds) := Lib.hid (DU_11.out.below hb (Nat.le_refl _))
  have DV_12 : Hid (Dz v11 A4 ds) := Lib.hid (DV_11.out.below hb (Nat.le_refl _))
  have DW_12 : Hid (Dz v11 A5 fs) := Lib.hid (DW_11.out.below hb (Nat.le_refl _))
  have DY_12 : Hid (Dz v11 A6 ds) := Lib.hid (DY_11.out.below hb (Nat.le_refl _))
  have DZ_12 : Hid (Dz v11 A7 fs) := Lib.hid (DZ_11.out.below hb (Nat.le_refl _))
  clear TZ_11 DS_11 DT_11 DU_11 DV_11 DW_11 DY_11 DZ_11
  have X_12 : Hid (Blk v11 w.heap.size 31 #[.int .i64 n0, .int .i64 n1]) := Lib.hid (X_11.out.below hb X_11.out.lt)
  have S_12 : Hid (Blk v11 v1.heap.size 27 #[.int .i64 P, .int .i64 N, .slice A1 ds.length k1]) := Lib.hid (S_11.out.below hb S_11.out.lt)
  have PL_12 : Hid (Blk v11 pPL 29 #[.int .i64 px, .int .i64 py]) := Lib.hid (PL_11.out.below hb PL_11.out.lt)
  have T_12 : Hid (Blk v11 v5.heap.size 27 #[.int .i64 P, .int .i64 N, .slice A2 es.length k2]) := Lib.hid (T_11.out.below hb T_11.out.lt)
  have U_12 : Hid (Blk v11 v6.heap.size 27 #[.int .i64 P, .int .i64 N, .slice A3 ds.length k3]) := Lib.hid (U_11.out.below hb U_11.out.lt)
  have V_12 : Hid (Blk v11 v7.heap.size 27 #[.int .i64 P, .int .i64 N, .slice A4 ds.length k4]) := Lib.hid (V_11.out.below hb V_11.out.lt)
  have W_12 : Hid (Blk v11 v8.heap.size 27 #[.int .i64 P, .int .i64 N, .slice A5 fs.length k5]) := Lib.hid (W_11.out.below hb W_11.out.lt)
  have Y_12 : Hid (Blk v11 v9.heap.size 27 #[.int .i64 P, .int .i64 N, .slice A6 ds.length k6]) := Lib.hid (Y_11.out.below hb Y_11.out.lt)
  have Z_12 : Hid (Blk v11 v10.heap.size 27 #[.int .i64 P, .int .i64 N, .slice A7 fs.length k7]) := Lib.hid (Z_11.out.below hb Z_11.out.lt)
  have HB_12 : Hid (Below w.heap.size w v11) := Lib.hid (HB_11.out.trans (hb.mono HB_11.out.size))
  clear hb X_11 S_11 PL_11 T_11 U_11 V_11 W_11 Y_11 Z_11 HB_11
  have yy0 := V_12.out.cell (i := 0) (v := .int .i64 P) rfl; have yy1 := V_12.out.cell (i := 1) (v := .int .i64 N) rfl; have yy2 := V_12.out.cell (i := 2) (v := .slice A4 ds.length k4) rfl
  have yy3 := S_12.out.cell (i := 0) (v := .int .i64 P) rfl; have yy4 := S_12.out.cell (i := 1) (v := .int .i64 N) rfl; have yy5 := S_12.out.cell (i := 2) (v := .slice A1 ds.length k1) rfl
  go_wp2_with fail
  refine (psame_true P N ds A4 A1 k4 k1 _ DV_12.out DS_12.out HZL.out).mono ?_
  rintro e v12 ⟨rfl, hb⟩
  clear yy0 yy1 yy2 yy3 yy4 yy5
  have TZ_13 : Hid (Tz v12 A0 n) := Lib.hid (TZ_12.out.below hb (Nat.le_refl _))
  have DS_13 : Hid (Dz v12 A1 ds) := Lib.hid (DS_12.out.below hb (Nat.le_refl _))
  have DT_13 : Hid (Dz v12 A2 es) := Lib.hid (DT_12.out.below hb (Nat.le_refl _))
  have DU_13 : Hid (Dz v12 A3 ds) := Lib.hid (DU_12.out.below hb (Nat.le_refl _))
  have DV_13 : Hid (Dz v12 A4 ds) := Lib.hid (DV_12.out.below hb (Nat.le_refl _))
  have DW_13 : Hid (Dz v12 A5 fs) := Lib.hid (DW_12.out.below hb (Nat.le_refl _))
  have DY_13 : Hid (Dz v12 A6 ds) := Lib.hid (DY_12.out.below hb (Nat.le_refl _))
  have DZ_13 : Hid (Dz v12 A7 fs) := Lib.hid (DZ_12.out.below hb (Nat.le_refl _))
  clear TZ_12 DS_12 DT_12 DU_12 DV_12 DW_12 DY_12 DZ_12
  have X_13 : Hid (Blk v12 w.heap.size 31 #[.int .i64 n0, .int .i64 n1]) := Lib.hid (X_12.out.below hb X_12.out.lt)
  have S_13 : Hid (Blk v12 v1.heap.size 27 #[.int .i64 P, .int .i64 N, .slice A1 ds.length k1]) := Lib.hid (S_12.out.below hb S_12.out.lt)
  have PL_13 : Hid (Blk v12 pPL 29 #[.int .i64 px, .int .i64 py]) := Lib.hid (PL_12.out.below hb PL_12.out.lt)
  have T_13 : Hid (Blk v12 v5.heap.size 27 #[.int .i64 P, .int .i64 N, .slice A2 es.length k2]) := Lib.hid (T_12.out.below hb T_12.out.lt)
  have U_13 : Hid (Blk v12 v6.heap.size 27 #[.int .i64 P, .int .i64 N, .slice A3 ds.length k3]) := Lib.hid (U_12.out.below hb U_12.out.lt)
  have V_13 : Hid (Blk v12 v7.heap.size 27 #[.int .i64 P, .int .i64 N, .slice A4 ds.length k4]) := Lib.hid (V_12.out.below hb V_12.out.lt)
  have W_13 : Hid (Blk v12 v8.heap.size 27 #[.int .i64 P, .int .i64 N, .slice A5 fs.length k5]) := Lib.hid (W_12.out.below hb W_12.out.lt)
  have Y_13 : Hid (Blk v12 v9.heap.size 27 #[.int .i64 P, .int .i64 N, .slice A6 ds.length k6]) := Lib.hid (Y_12.out.below hb Y_12.out.lt)
  have Z_13 : Hid (Blk v12 v10.heap.size 27 #[.int .i64 P, .int .i64 N, .slice A7 fs.length k7]) := Lib.hid (Z_12.out.below hb Z_12.out.lt)
  have HB_13 : Hid (Below w.heap.size w v12) := Lib.hid (HB_12.out.trans (hb.mono HB_12.out.size))
  clear hb X_12 S_12 PL_12 T_12 U_12 V_12 W_12 Y_12 Z_12 HB_12
  have yy0 := Y_13.out.cell (i := 0) (v := .int .i64 P) rfl; have yy1 := Y_13.out.cell (i := 1) (v := .int .i64 N) rfl; have yy2 := Y_13.out.cell (i := 2) (v := .slice A6 ds.length k6) rfl
  have yy3 := S_13.out.cell (i := 0) (v := .int .i64 P) rfl; have yy4 := S_13.out.cell (i := 1) (v := .int .i64 N) rfl; have yy5 := S_13.out.cell (i := 2) (v := .slice A1 ds.length k1) rfl
  go_wp2_with fail
  refine (psame_true P N ds A6 A1 k6 k1 _ DY_13.out DS_13.out HZL.out).mono ?_
  rintro e v13 ⟨rfl, hb⟩
  clear yy0 yy1 yy2 yy3 yy4 yy5
  have TZ_14 : Hid (Tz v13 A0 n) := Lib.hid (TZ_13.out.below hb (Nat.le_refl _))
  have DS_14 : Hid (Dz v13 A1 ds) := Lib.hid (DS_13.out.below hb (Nat.le_refl _))
  have DT_14 : Hid (Dz v13 A2 es) := Lib.hid (DT_13.out.below hb (Nat.le_refl _))
  have DU_14 : Hid (Dz v13 A3 ds) := Lib.hid (DU_13.out.below hb (Nat.le_refl _))
  have DV_14 : Hid (Dz v13 A4 ds) := Lib.hid (DV_13.out.below hb (Nat.le_refl _))
  have DW_14 : Hid (Dz v13 A5 fs) := Lib.hid (DW_13.out.below hb (Nat.le_refl _))
  have DY_14 : Hid (Dz v13 A6 ds) := Lib.hid (DY_13.out.below hb (Nat.le_refl _))
  have DZ_14 : Hid (Dz v13 A7 fs) := Lib.hid (DZ_13.out.below hb (Nat.le_refl _))
  clear TZ_13 DS_13 DT_13 DU_13 DV_13 DW_13 DY_13 DZ_13
  have X_14 : Hid (Blk v13 w.heap.size 31 #[.int .i64 n0, .int .i64 n1]) := Lib.hid (X_13.out.below hb X_13.out.lt)
  have S_14 : Hid (Blk v13 v1.heap.size 27 #[.int .i64 P, .int .i64 N, .slice A1 ds.length k1]) := Lib.hid (S_13.out.below hb S_13.out.lt)
  have PL_14 : Hid (Blk v13 pPL 29 #[.int .i64 px, .int .i64 py]) := Lib.hid (PL_13.out.below hb PL_13.out.lt)
  have T_14 : Hid (Blk v13 v5.heap.size 27 #[.int .i64 P, .int .i64 N, .slice A2 es.length k2]) := Lib.hid (T_13.out.below hb T_13.out.lt)
  have U_14 : Hid (Blk v13 v6.heap.size 27 #[.int .i64 P, .int .i64 N, .slice A3 ds.length k3]) := Lib.hid (U_13.out.below hb U_13.out.lt)
  have V_14 : Hid (Blk v13 v7.heap.size 27 #[.int .i64 P, .int .i64 N, .slice A4 ds.length k4]) := Lib.hid (V_13.out.below hb V_13.out.lt)
  have W_14 : Hid (Blk v13 v8.heap.size 27 #[.int .i64 P, .int .i64 N, .slice A5 fs.length k5]) := Lib.hid (W_13.out.below hb W_13.out.lt)
  have Y_14 : Hid (Blk v13 v9.heap.size 27 #[.int .i64 P, .int .i64 N, .slice A6 ds.length k6]) := Lib.hid (Y_13.out.below hb Y_13.out.lt)
  have Z_14 : Hid (Blk v13 v10.heap.size 27 #[.int .i64 P, .int .i64 N, .slice A7 fs.length k7]) := Lib.hid (Z_13.out.below hb Z_13.out.lt)
  have HB_14 : Hid (Below w.heap.size w v13) := Lib.hid (HB_13.out.trans (hb.mono HB_13.out.size))
  clear hb X_13 S_13 PL_13 T_13 U_13 V_13 W_13 Y_13 Z_13 HB_13
  have yy0 := Z_14.out.cell (i := 0) (v := .int .i64 P) rfl; have yy1 := Z_14.out.cell (i := 1) (v := .int .i64 N) rfl; have yy2 := Z_14.out.cell (i := 2) (v := .slice A7 fs.length k7) rfl
  have yy3 := W_14.out.cell (i := 0) (v := .int .i64 P) rfl; have yy4 := W_14.out.cell (i := 1) (v := .int .i64 N) rfl; have yy5 := W_14.out.cell (i := 2) (v := .slice A5 fs.length k5) rfl
  go_wp2_with fail
  refine (psame_true P N fs A7 A5 k7 k5 _ DZ_14.out DW_14.out HZF.out).mono ?_
  rintro e v14 ⟨rfl, hb⟩
  clear yy0 yy1 yy2 yy3 yy4 yy5
  have TZ_15 : Hid (Tz v14 A0 n) := Lib.hid (TZ_14.out.below hb (Nat.le_refl _))
  have DS_15 : Hid (Dz v14 A1 ds) := Lib.hid (DS_14.out.below hb (Nat.le_refl _))
  have DT_15 : Hid (Dz v14 A2 es) := Lib.hid (DT_14.out.below hb (Nat.le_refl _))
  have DU_15 : Hid (Dz v14 A3 ds) := Lib.hid (DU_14.out.below hb (Nat.le_refl _))
  have DV_15 : Hid (Dz v14 A4 ds) := Lib.hid (DV_14.out.below hb (Nat.le_refl _))
  have DW_15 : Hid (Dz v14 A5 fs) := Lib.hid (DW_14.out.below hb (Nat.le_refl _))
  have DY_15 : Hid (Dz v14 A6 ds) := Lib.hid (DY_14.out.below hb (Nat.le_refl _))
  have DZ_15 : Hid (Dz v14 A7 fs) := Lib.hid (DZ_14.out.below hb (Nat.le_refl _))
  clear TZ_14 DS_14 DT_14 DU_14 DV_14 DW_14 DY_14 DZ_14
  have X_15 : Hid (Blk v14 w.heap.size 31 #[.int .i64 n0, .int .i64 n1]) := Lib.hid (X_14.out.below hb X_14.out.lt)
  have S_15 : Hid (Blk v14 v1.heap.size 27 #[.int .i64 P, .int .i64 N, .slice A1 ds.length k1]) := Lib.hid (S_14.out.below hb S_14.out.lt)
  have PL_15 : Hid (Blk v14 pPL 29 #[.int .i64 px, .int .i64 py]) := Lib.hid (PL_14.out.below hb PL_14.out.lt)
  have T_15 : Hid (Blk v14 v5.heap.size 27 #[.int .i64 P, .int .i64 N, .slice A2 es.length k2]) := Lib.hid (T_14.out.below hb T_14.out.lt)
  have U_15 : Hid (Blk v14 v6.heap.size 27 #[.int .i64 P, .int .i64 N, .slice A3 ds.length k3]) := Lib.hid (U_14.out.below hb U_14.out.lt)
  have V_15 : Hid (Blk v14 v7.heap.size 27 #[.int .i64 P, .int .i64 N, .slice A4 ds.length k4]) := Lib.hid (V_14.out.below hb V_14.out.lt)
  have W_15 : Hid (Blk v14 v8.heap.size 27 #[.int .i64 P, .int .i64 N, .slice A5 fs.length k5]) := Lib.hid (W_14.out.below hb W_14.out.lt)
  have Y_15 : Hid (Blk v14 v9.heap.size 27 #[.int .i64 P, .int .i64 N, .slice A6 ds.length k6]) := Lib.hid (Y_14.out.below hb Y_14.out.lt)
  have Z_15 : Hid (Blk v14 v10.heap.size 27 #[.int .i64 P, .int .i64 N, .slice A7 fs.length k7]) := Lib.hid (Z_14.out.below hb Z_14.out.lt)
  have HB_15 : Hid (Below w.heap.size w v14) := Lib.hid (HB_14.out.trans (hb.mono HB_14.out.size))
  clear hb X_14 S_14 PL_14 T_14 U_14 V_14 W_14 Y_14 Z_14 HB_14
  clear e1 e2
  have yy0 := S_15.out.cell (i := 0) (v := .int .i64 P) rfl; have yy1 := S_15.out.cell (i := 1) (v := .int .i64 N) rfl; have yy2 := S_15.out.cell (i := 2) (v := .slice A1 ds.length k1) rfl
  go_wp2_with fail
  refine (pbox_yes P N ds A1 k1 _ DS_15.out HZL.out HVD.out).mono ?_
  rintro e v15 ⟨x, y, ww, hh, hbx, rfl, hb⟩
  have HBX := Lib.hid hbx; clear hbx
  clear yy0 yy1 yy2
  have TZ_16 : Hid (Tz (v15.alloc (.cells #[.int .i64 x, .int .i64 y, .int .i64 ww, .int .i64 hh] 40)) A0 n) := Lib.hid (TZ_15.out.below (allocs_below [(#[.int .i64 x, .int .i64 y, .int .i64 ww, .int .i64 hh], 40)] _ hb hb.size) (Nat.le_refl _))
  have DS_16 : Hid (Dz (v15.alloc (.cells #[.int .i64 x, .int .i64 y, .int .i64 ww, .int .i64 hh] 40)) A1 ds) := Lib.hid (DS_15.out.below (allocs_below [(#[.int .i64 x, .int .i64 y, .int .i64 ww, .int .i64 hh], 40)] _ hb hb.size) (Nat.le_refl _))
  have DT_16 : Hid (Dz (v15.alloc (.cells #[.int .i64 x, .int .i64 y, .int .i64 ww, .int .i64 hh] 40)) A2 es) := Lib.hid (DT_15.out.below (allocs_below [(#[.int .i64 x, .int .i64 y, .int .i64 ww, .int .i64 hh], 40)] _ hb hb.size) (Nat.le_refl _))
  have DU_16 : Hid (Dz (v15.alloc (.cells #[.int .i64 x, .int .i64 y, .int .i64 ww, .int .i64 hh] 40)) A3 ds) := Lib.hid (DU_15.out.below (allocs_below [(#[.int .i64 x, .int .i64 y, .int .i64 ww, .int .i64 hh], 40)] _ hb hb.size) (Nat.le_refl _))
  have DV_16 : Hid (Dz (v15.alloc (.cells #[.int .i64 x, .int .i64 y, .int .i64 ww, .int .i64 hh] 40)) A4 ds) := Lib.hid (DV_15.out.below (allocs_below [(#[.int .i64 x, .int .i64 y, .int .i64 ww, .int .i64 hh], 40)] _ hb hb.size) (Nat.le_refl _))
  have DW_16 : Hid (Dz (v15.alloc (.cells #[.int .i64 x, .int .i64 y, .int .i64 ww, .int .i64 hh] 40)) A5 fs) := Lib.hid (DW_15.out.below (allocs_below [(#[.int .i64 x, .int .i64 y, .int .i64 ww, .int .i64 hh], 40)] _ hb hb.size) (Nat.le_refl _))
  have DY_16 : Hid (Dz (v15.alloc (.cells #[.int .i64 x, .int .i64 y, .int .i64 ww, .int .i64 hh] 40)) A6 ds) := Lib.hid (DY_15.out.below (allocs_below [(#[.int .i64 x, .int .i64 y, .int .i64 ww, .int .i64 hh], 40)] _ hb hb.size) (Nat.le_refl _))
  have DZ_16 : Hid (Dz (v15.alloc (.cells #[.int .i64 x, .int .i64 y, .int .i64 ww, .int .i64 hh] 40)) A7 fs) := Lib.hid (DZ_15.out.below (allocs_below [(#[.int .i64 x, .int .i64 y, .int .i64 ww, .int .i64 hh], 40)] _ hb hb.size) (Nat.le_refl _))
  clear TZ_15 DS_15 DT_15 DU_15 DV_15 DW_15 DY_15 DZ_15
  have X_16 : Hid (Blk (v15.alloc (.cells #[.int .i64 x, .int .i64 y, .int .i64 ww, .int .i64 hh] 40)) w.heap.size 31 #[.int .i64 n0, .int .i64 n1]) := Lib.hid (allocs_keep [(#[.int .i64 x, .int .i64 y, .int .i64 ww, .int .i64 hh], 40)] _ (X_15.out.below hb X_15.out.lt))
  have S_16 : Hid (Blk (v15.alloc (.cells #[.int .i64 x, .int .i64 y, .int .i64 ww, .int .i64 hh] 40)) v1.heap.size 27 #[.int .i64 P, .int .i64 N, .slice A1 ds.length k1]) := Lib.hid (allocs_keep [(#[.int .i64 x, .int .i64 y, .int .i64 ww, .int .i64 hh], 40)] _ (S_15.out.below hb S_15.out.lt))
  have PL_16 : Hid (Blk (v15.alloc (.cells #[.int .i64 x, .int .i64 y, .int .i64 ww, .int .i64 hh] 40)) pPL 29 #[.int .i64 px, .int .i64 py]) := Lib.hid (allocs_keep [(#[.int .i64 x, .int .i64 y, .int .i64 ww, .int .i64 hh], 40)] _ (PL_15.out.below hb PL_15.out.lt))
  have T_16 : Hid (Blk (v15.alloc (.cells #[.int .i64 x, .int .i64 y, .int .i64 ww, .int .i64 hh] 40)) v5.heap.size 27 #[.int .i64 P, .int .i64 N, .slice A2 es.length k2]) := Lib.hid (allocs_keep [(#[.int .i64 x, .int .i64 y, .int .i64 ww, .int .i64 hh], 40)] _ (T_15.out.below hb T_15.out.lt))
  have U_16 : Hid (Blk (v15.alloc (.cells #[.int .i64 x, .int .i64 y, .int .i64 ww, .int .i64 hh] 40)) v6.heap.size 27 #[.int .i64 P, .int .i64 N, .slice A3 ds.length k3]) := Lib.hid (allocs_keep [(#[.int .i64 x, .int .i64 y, .int .i64 ww, .int .i64 hh], 40)] _ (U_15.out.below hb U_15.out.lt))
  have V_16 : Hid (Blk (v15.alloc (.cells #[.int .i64 x, .int .i64 y, .int .i64 ww, .int .i64 hh] 40)) v7.heap.size 27 #[.int .i64 P, .int .i64 N, .slice A4 ds.length k4]) := Lib.hid (allocs_keep [(#[.int .i64 x, .int .i64 y, .int .i64 ww, .int .i64 hh], 40)] _ (V_15.out.below hb V_15.out.lt))
  have W_16 : Hid (Blk (v15.alloc (.cells #[.int .i64 x, .int .i64 y, .int .i64 ww, .int .i64 hh] 40)) v8.heap.size 27 #[.int .i64 P, .int .i64 N, .slice A5 fs.length k5]) := Lib.hid (allocs_keep [(#[.int .i64 x, .int .i64 y, .int .i64 ww, .int .i64 hh], 40)] _ (W_15.out.below hb W_15.out.lt))
  have Y_16 : Hid (Blk (v15.alloc (.cells #[.int .i64 x, .int .i64 y, .int .i64 ww, .int .i64 hh] 40)) v9.heap.size 27 #[.int .i64 P, .int .i64 N, .slice A6 ds.length k6]) := Lib.hid (allocs_keep [(#[.int .i64 x, .int .i64 y, .int .i64 ww, .int .i64 hh], 40)] _ (Y_15.out.below hb Y_15.out.lt))
  have Z_16 : Hid (Blk (v15.alloc (.cells #[.int .i64 x, .int .i64 y, .int .i64 ww, .int .i64 hh] 40)) v10.heap.size 27 #[.int .i64 P, .int .i64 N, .slice A7 fs.length k7]) := Lib.hid (allocs_keep [(#[.int .i64 x, .int .i64 y, .int .i64 ww, .int .i64 hh], 40)] _ (Z_15.out.below hb Z_15.out.lt))
  have HB_16 : Hid (Below w.heap.size w (v15.alloc (.cells #[.int .i64 x, .int .i64 y, .int .i64 ww, .int .i64 hh] 40))) := Lib.hid (allocs_below [(#[.int .i64 x, .int .i64 y, .int .i64 ww, .int .i64 hh], 40)] _ (HB_15.out.trans (hb.mono HB_15.out.size)) (HB_15.out.trans (hb.mono HB_15.out.size)).size)
  have R_16 : Hid (Blk (v15.alloc (.cells #[.int .i64 x, .int .i64 y, .int .i64 ww, .int .i64 hh] 40)) v15.heap.size 40 #[.int .i64 x, .int .i64 y, .int .i64 ww, .int .i64 hh]) := Lib.hid (allocs_blk [(#[.int .i64 x, .int .i64 y, .int .i64 ww, .int .i64 hh], 40)] v15 0 _ rfl)
  clear hb X_15 S_15 PL_15 T_15 U_15 V_15 W_15 Y_15 Z_15 HB_15
  have yy0 := T_16.out.cell (i := 0) (v := .int .i64 P) rfl; have yy1 := T_16.out.cell (i := 1) (v := .int .i64 N) rfl; have yy2 := T_16.out.cell (i := 2) (v := .slice A2 es.length k2) rfl
  go_wp2_with fail
  refine (pbox_yes P N es A2 k2 _ DT_16.out HZE.out HVE.out).mono ?_
  rintro e v16 ⟨x2, y2, ww2, hh2, hbx, rfl, hb⟩
  have hb2 := HBX.out.turned
  rw [HES.out] at hb2
  obtain ⟨rfl, rfl, rfl, rfl⟩ := IsBox.unique hb2 hbx
  clear hbx hb2
  clear yy0 yy1 yy2
  have TZ_17 : Hid (Tz (v16.alloc (.cells #[.int .i64 (4095 - y - hh), .int .i64 x, .int .i64 hh, .int .i64 ww] 40)) A0 n) := Lib.hid (TZ_16.out.below (allocs_below [(#[.int .i64 (4095 - y - hh), .int .i64 x, .int .i64 hh, .int .i64 ww], 40)] _ hb hb.size) (Nat.le_refl _))
  have DS_17 : Hid (Dz (v16.alloc (.cells #[.int .i64 (4095 - y - hh), .int .i64 x, .int .i64 hh, .int .i64 ww] 40)) A1 ds) := Lib.hid (DS_16.out.below (allocs_below [(#[.int .i64 (4095 - y - hh), .int .i64 x, .int .i64 hh, .int .i64 ww], 40)] _ hb hb.size) (Nat.le_refl _))
  have DT_17 : Hid (Dz (v16.alloc (.cells #[.int .i64 (4095 - y - hh), .int .i64 x, .int .i64 hh, .int .i64 ww] 40)) A2 es) := Lib.hid (DT_16.out.below (allocs_below [(#[.int .i64 (4095 - y - hh), .int .i64 x, .int .i64 hh, .int .i64 ww], 40)] _ hb hb.size) (Nat.le_refl _))
  have DU_17 : Hid (Dz (v16.alloc (.cells #[.int .i64 (4095 - y - hh), .int .i64 x, .int .i64 hh, .int .i64 ww] 40)) A3 ds) := Lib.hid (DU_16.out.below (allocs_below [(#[.int .i64 (4095 - y - hh), .int .i64 x, .int .i64 hh, .int .i64 ww], 40)] _ hb hb.size) (Nat.le_refl _))
  have DV_17 : Hid (Dz (v16.alloc (.cells #[.int .i64 (4095 - y - hh), .int .i64 x, .int .i64 hh, .int .i64 ww] 40)) A4 ds) := Lib.hid (DV_16.out.below (allocs_below [(#[.int .i64 (4095 - y - hh), .int .i64 x, .int .i64 hh, .int .i64 ww], 40)] _ hb hb.size) (Nat.le_refl _))
  have DW_17 : Hid (Dz (v16.alloc (.cells #[.int .i64 (4095 - y - hh), .int .i64 x, .int .i64 hh, .int .i64 ww] 40)) A5 fs) := Lib.hid (DW_16.out.below (allocs_below [(#[.int .i64 (4095 - y - hh), .int .i64 x, .int .i64 hh, .int .i64 ww], 40)] _ hb hb.size) (Nat.le_refl _))
  have DY_17 : Hid (Dz (v16.alloc (.cells #[.int .i64 (4095 - y - hh), .int .i64 x, .int .i64 hh, .int .i64 ww] 40)) A6 ds) := Lib.hid (DY_16.out.below (allocs_below [(#[.int .i64 (4095 - y - hh), .int .i64 x, .int .i64 hh, .int .i64 ww], 40)] _ hb hb.size) (Nat.le_refl _))
  have DZ_17 : Hid (Dz (v16.alloc (.cells #[.int .i64 (4095 - y - hh), .int .i64 x, .int .i64 hh, .int .i64 ww] 40)) A7 fs) := Lib.hid (DZ_16.out.below (allocs_below [(#[.int .i64 (4095 - y - hh), .int .i64 x, .int .i64 hh, .int .i64 ww], 40)] _ hb hb.size) (Nat.le_refl _))
  clear TZ_16 DS_16 DT_16 DU_16 DV_16 DW_16 DY_16 DZ_16
  have X_17 : Hid (Blk (v16.alloc (.cells #[.int .i64 (4095 - y - hh), .int .i64 x, .int .i64 hh, .int .i64 ww] 40)) w.heap.size 31 #[.int .i64 n0, .int .i64 n1]) := Lib.hid (allocs_keep [(#[.int .i64 (4095 - y - hh), .int .i64 x, .int .i64 hh, .int .i64 ww], 40)] _ (X_16.out.below hb X_16.out.lt))
  have S_17 : Hid (Blk (v16.alloc (.cells #[.int .i64 (4095 - y - hh), .int .i64 x, .int .i64 hh, .int .i64 ww] 40)) v1.heap.size 27 #[.int .i64 P, .int .i64 N, .slice A1 ds.length k1]) := Lib.hid (allocs_keep [(#[.int .i64 (4095 - y - hh), .int .i64 x, .int .i64 hh, .int .i64 ww], 40)] _ (S_16.out.below hb S_16.out.lt))
  have PL_17 : Hid (Blk (v16.alloc (.cells #[.int .i64 (4095 - y - hh), .int .i64 x, .int .i64 hh, .int .i64 ww] 40)) pPL 29 #[.int .i64 px, .int .i64 py]) := Lib.hid (allocs_keep [(#[.int .i64 (4095 - y - hh), .int .i64 x, .int .i64 hh, .int .i64 ww], 40)] _ (PL_16.out.below hb PL_16.out.lt))
  have T_17 : Hid (Blk (v16.alloc (.cells #[.int .i64 (4095 - y - hh), .int .i64 x, .int .i64 hh, .int .i64 ww] 40)) v5.heap.size 27 #[.int .i64 P, .int .i64 N, .slice A2 es.length k2]) := Lib.hid (allocs_keep [(#[.int .i64 (4095 - y - hh), .int .i64 x, .int .i64 hh, .int .i64 ww], 40)] _ (T_16.out.below hb T_16.out.lt))
  have U_17 : Hid (Blk (v16.alloc (.cells #[.int .i64 (4095 - y - hh), .int .i64 x, .int .i64 hh, .int .i64 ww] 40)) v6.heap.size 27 #[.int .i64 P, .int .i64 N, .slice A3 ds.length k3]) := Lib.hid (allocs_keep [(#[.int .i64 (4095 - y - hh), .int .i64 x, .int .i64 hh, .int .i64 ww], 40)] _ (U_16.out.below hb U_16.out.lt))
  have V_17 : Hid (Blk (v16.alloc (.cells #[.int .i64 (4095 - y - hh), .int .i64 x, .int .i64 hh, .int .i64 ww] 40)) v7.heap.size 27 #[.int .i64 P, .int .i64 N, .slice A4 ds.length k4]) := Lib.hid (allocs_keep [(#[.int .i64 (4095 - y - hh), .int .i64 x, .int .i64 hh, .int .i64 ww], 40)] _ (V_16.out.below hb V_16.out.lt))
  have W_17 : Hid (Blk (v16.alloc (.cells #[.int .i64 (4095 - y - hh), .int .i64 x, .int .i64 hh, .int .i64 ww] 40)) v8.heap.size 27 #[.int .i64 P, .int .i64 N, .slice A5 fs.length k5]) := Lib.hid (allocs_keep [(#[.int .i64 (4095 - y - hh), .int .i64 x, .int .i64 hh, .int .i64 ww], 40)] _ (W_16.out.below hb W_16.out.lt))
  have Y_17 : Hid (Blk (v16.alloc (.cells #[.int .i64 (4095 - y - hh), .int .i64 x, .int .i64 hh, .int .i64 ww] 40)) v9.heap.size 27 #[.int .i64 P, .int .i64 N, .slice A6 ds.length k6]) := Lib.hid (allocs_keep [(#[.int .i64 (4095 - y - hh), .int .i64 x, .int .i64 hh, .int .i64 ww], 40)] _ (Y_16.out.below hb Y_16.out.lt))
  have Z_17 : Hid (Blk (v16.alloc (.cells #[.int .i64 (4095 - y - hh), .int .i64 x, .int .i64 hh, .int .i64 ww] 40)) v10.heap.size 27 #[.int .i64 P, .int .i64 N, .slice A7 fs.length k7]) := Lib.hid (allocs_keep [(#[.int .i64 (4095 - y - hh), .int .i64 x, .int .i64 hh, .int .i64 ww], 40)] _ (Z_16.out.below hb Z_16.out.lt))
  have R_17 : Hid (Blk (v16.alloc (.cells #[.int .i64 (4095 - y - hh), .int .i64 x, .int .i64 hh, .int .i64 ww] 40)) v15.heap.size 40 #[.int .i64 x, .int .i64 y, .int .i64 ww, .int .i64 hh]) := Lib.hid (allocs_keep [(#[.int .i64 (4095 - y - hh), .int .i64 x, .int .i64 hh, .int .i64 ww], 40)] _ (R_16.out.below hb R_16.out.lt))
  have HB_17 : Hid (Below w.heap.size w (v16.alloc (.cells #[.int .i64 (4095 - y - hh), .int .i64 x, .int .i64 hh, .int .i64 ww] 40))) := Lib.hid (allocs_below [(#[.int .i64 (4095 - y - hh), .int .i64 x, .int .i64 hh, .int .i64 ww], 40)] _ (HB_16.out.trans (hb.mono HB_16.out.size)) (HB_16.out.trans (hb.mono HB_16.out.size)).size)
  have Q_17 : Hid (Blk (v16.alloc (.cells #[.int .i64 (4095 - y - hh), .int .i64 x, .int .i64 hh, .int .i64 ww] 40)) v16.heap.size 40 #[.int .i64 (4095 - y - hh), .int .i64 x, .int .i64 hh, .int .i64 ww]) := Lib.hid (allocs_blk [(#[.int .i64 (4095 - y - hh), .int .i64 x, .int .i64 hh, .int .i64 ww], 40)] v16 0 _ rfl)
  clear hb X_16 S_16 PL_16 T_16 U_16 V_16 W_16 Y_16 Z_16 R_16 HB_16
  have yy0 := S_17.out.cell (i := 0) (v := .int .i64 P) rfl; have yy1 := S_17.out.cell (i := 1) (v := .int .i64 N) rfl; have yy2 := S_17.out.cell (i := 2) (v := .slice A1 ds.length k1) rfl
  go_wp2_with fail
  refine (pway_yes P N ds A1 k1 _ DS_17.out HZL.out HVD.out).mono ?_
  rintro e v17 ⟨rfl, hb⟩
  clear yy0 yy1 yy2
  have TZ_18 : Hid (Tz v17 A0 n) := Lib.hid (TZ_17.out.below hb (Nat.le_refl _))
  have DS_18 : Hid (Dz v17 A1 ds) := Lib.hid (DS_17.out.below hb (Nat.le_refl _))
  have DT_18 : Hid (Dz v17 A2 es) := Lib.hid (DT_17.out.below hb (Nat.le_refl _))
  have DU_18 : Hid (Dz v17 A3 ds) := Lib.hid (DU_17.out.below hb (Nat.le_refl _))
  have DV_18 : Hid (Dz v17 A4 ds) := Lib.hid (DV_17.out.below hb (Nat.le_refl _))
  have DW_18 : Hid (Dz v17 A5 fs) := Lib.hid (DW_17.out.below hb (Nat.le_refl _))
  have DY_18 : Hid (Dz v17 A6 ds) := Lib.hid (DY_17.out.below hb (Nat.le_refl _))
  have DZ_18 : Hid (Dz v17 A7 fs) := Lib.hid (DZ_17.out.below hb (Nat.le_refl _))
  clear TZ_17 DS_17 DT_17 DU_17 DV_17 DW_17 DY_17 DZ_17
  have X_18 : Hid (Blk v17 w.heap.size 31 #[.int .i64 n0, .int .i64 n1]) := Lib.hid (X_17.out.below hb X_17.out.lt)
  have S_18 : Hid (Blk v17 v1.heap.size 27 #[.int .i64 P, .int .i64 N, .slice A1 ds.length k1]) := Lib.hid (S_17.out.below hb S_17.out.lt)
  have PL_18 : Hid (Blk v17 pPL 29 #[.int .i64 px, .int .i64 py]) := Lib.hid (PL_17.out.below hb PL_17.out.lt)
  have T_18 : Hid (Blk v17 v5.heap.size 27 #[.int .i64 P, .int .i64 N, .slice A2 es.length k2]) := Lib.hid (T_17.out.below hb T_17.out.lt)
  have U_18 : Hid (Blk v17 v6.heap.size 27 #[.int .i64 P, .int .i64 N, .slice A3 ds.length k3]) := Lib.hid (U_17.out.below hb U_17.out.lt)
  have V_18 : Hid (Blk v17 v7.heap.size 27 #[.int .i64 P, .int .i64 N, .slice A4 ds.length k4]) := Lib.hid (V_17.out.below hb V_17.out.lt)
  have W_18 : Hid (Blk v17 v8.heap.size 27 #[.int .i64 P, .int .i64 N, .slice A5 fs.length k5]) := Lib.hid (W_17.out.below hb W_17.out.lt)
  have Y_18 : Hid (Blk v17 v9.heap.size 27 #[.int .i64 P, .int .i64 N, .slice A6 ds.length k6]) := Lib.hid (Y_17.out.below hb Y_17.out.lt)
  have Z_18 : Hid (Blk v17 v10.heap.size 27 #[.int .i64 P, .int .i64 N, .slice A7 fs.length k7]) := Lib.hid (Z_17.out.below hb Z_17.out.lt)
  have R_18 : Hid (Blk v17 v15.heap.size 40 #[.int .i64 x, .int .i64 y, .int .i64 ww, .int .i64 hh]) := Lib.hid (R_17.out.below hb R_17.out.lt)
  have Q_18 : Hid (Blk v17 v16.heap.size 40 #[.int .i64 (4095 - y - hh), .int .i64 x, .int .i64 hh, .int .i64 ww]) := Lib.hid (Q_17.out.below hb Q_17.out.lt)
  have HB_18 : Hid (Below w.heap.size w v17) := Lib.hid (HB_17.out.trans (hb.mono HB_17.out.size))
  clear hb X_17 S_17 PL_17 T_17 U_17 V_17 W_17 Y_17 Z_17 R_17 Q_17 HB_17
  have yy0 := T_18.out.cell (i := 0) (v := .int .i64 P) rfl; have yy1 := T_18.out.cell (i := 1) (v := .int .i64 N) rfl; have yy2 := T_18.out.cell (i := 2) (v := .slice A2 es.length k2) rfl
  go_wp2_with fail
  refine (pway_yes P N es A2 k2 _ DT_18.out HZE.out HVE.out).mono ?_
  rintro e v18 ⟨rfl, hb⟩
  have hww : wayL es = wayL ds := by rw [← HES.out]; exact wayL_map stepD_turned ds
  rw [hww]
  clear hww
  clear yy0 yy1 yy2
  have TZ_19 : Hid (Tz v18 A0 n) := Lib.hid (TZ_18.out.below hb (Nat.le_refl _))
  have DS_19 : Hid (Dz v18 A1 ds) := Lib.hid (DS_18.out.below hb (Nat.le_refl _))
  have DT_19 : Hid (Dz v18 A2 es) := Lib.hid (DT_18.out.below hb (Nat.le_refl _))
  have DU_19 : Hid (Dz v18 A3 ds) := Lib.hid (DU_18.out.below hb (Nat.le_refl _))
  have DV_19 : Hid (Dz v18 A4 ds) := Lib.hid (DV_18.out.below hb (Nat.le_refl _))
  have DW_19 : Hid (Dz v18 A5 fs) := Lib.hid (DW_18.out.below hb (Nat.le_refl _))
  have DY_19 : Hid (Dz v18 A6 ds) := Lib.hid (DY_18.out.below hb (Nat.le_refl _))
  have DZ_19 : Hid (Dz v18 A7 fs) := Lib.hid (DZ_18.out.below hb (Nat.le_refl _))
  clear TZ_18 DS_18 DT_18 DU_18 DV_18 DW_18 DY_18 DZ_18
  have X_19 : Hid (Blk v18 w.heap.size 31 #[.int .i64 n0, .int .i64 n1]) := Lib.hid (X_18.out.below hb X_18.out.lt)
  have S_19 : Hid (Blk v18 v1.heap.size 27 #[.int .i64 P, .int .i64 N, .slice A1 ds.length k1]) := Lib.hid (S_18.out.below hb S_18.out.lt)
  have PL_19 : Hid (Blk v18 pPL 29 #[.int .i64 px, .int .i64 py]) := Lib.hid (PL_18.out.below hb PL_18.out.lt)
  have T_19 : Hid (Blk v18 v5.heap.size 27 #[.int .i64 P, .int .i64 N, .slice A2 es.length k2]) := Lib.hid (T_18.out.below hb T_18.out.lt)
  have U_19 : Hid (Blk v18 v6.heap.size 27 #[.int .i64 P, .int .i64 N, .slice A3 ds.length k3]) := Lib.hid (U_18.out.below hb U_18.out.lt)
  have V_19 : Hid (Blk v18 v7.heap.size 27 #[.int .i64 P, .int .i64 N, .slice A4 ds.length k4]) := Lib.hid (V_18.out.below hb V_18.out.lt)
  have W_19 : Hid (Blk v18 v8.heap.size 27 #[.int .i64 P, .int .i64 N, .slice A5 fs.length k5]) := Lib.hid (W_18.out.below hb W_18.out.lt)
  have Y_19 : Hid (Blk v18 v9.heap.size 27 #[.int .i64 P, .int .i64 N, .slice A6 ds.length k6]) := Lib.hid (Y_18.out.below hb Y_18.out.lt)
  have Z_19 : Hid (Blk v18 v10.heap.size 27 #[.int .i64 P, .int .i64 N, .slice A7 fs.length k7]) := Lib.hid (Z_18.out.below hb Z_18.out.lt)
  have R_19 : Hid (Blk v18 v15.heap.size 40 #[.int .i64 x, .int .i64 y, .int .i64 ww, .int .i64 hh]) := Lib.hid (R_18.out.below hb R_18.out.lt)
  have Q_19 : Hid (Blk v18 v16.heap.size 40 #[.int .i64 (4095 - y - hh), .int .i64 x, .int .i64 hh, .int .i64 ww]) := Lib.hid (Q_18.out.below hb Q_18.out.lt)
  have HB_19 : Hid (Below w.heap.size w v18) := Lib.hid (HB_18.out.trans (hb.mono HB_18.out.size))
  clear hb X_18 S_18 PL_18 T_18 U_18 V_18 W_18 Y_18 Z_18 R_18 Q_18 HB_18
  have yy0 := S_19.out.cell (i := 0) (v := .int .i64 P) rfl; have yy1 := S_19.out.cell (i := 1) (v := .int .i64 N) rfl; have yy2 := S_19.out.cell (i := 2) (v := .slice A1 ds.length k1) rfl
  go_wp2_with fail
  refine (pthin_yes P N ds A1 k1 z _ DS_19.out HZL.out HK1.out HVD.out HZZ.out).mono ?_
  rintro e v19 ⟨Q1, B1, c1, rfl, hth, hiz, hb⟩
  have HTH := Lib.hid hth; clear hth
  have HTHL : Hid (Q1.length ≤ ds.length) := Lib.hid (by have h1 := HTH.out.1.len; have h2 := HVD.out.2.2.1; omega)
  clear yy0 yy1 yy2
  have IA_19 := Lib.hid hiz
  have TZ_20 : Hid (Tz v19 A0 n) := Lib.hid (TZ_19.out.below hb (Nat.le_refl _))
  have DS_20 : Hid (Dz v19 A1 ds) := Lib.hid (DS_19.out.below hb (Nat.le_refl _))
  have DT_20 : Hid (Dz v19 A2 es) := Lib.hid (DT_19.out.below hb (Nat.le_refl _))
  have DU_20 : Hid (Dz v19 A3 ds) := Lib.hid (DU_19.out.below hb (Nat.le_refl _))
  have DV_20 : Hid (Dz v19 A4 ds) := Lib.hid (DV_19.out.below hb (Nat.le_refl _))
  have DW_20 : Hid (Dz v19 A5 fs) := Lib.hid (DW_19.out.below hb (Nat.le_refl _))
  have DY_20 : Hid (Dz v19 A6 ds) := Lib.hid (DY_19.out.below hb (Nat.le_refl _))
  have DZ_20 : Hid (Dz v19 A7 fs) := Lib.hid (DZ_19.out.below hb (Nat.le_refl _))
  have IA_20 : Hid (Iz v19 B1 (Q1.map Int.ofNat)) := Lib.hid IA_19.out
  clear TZ_19 DS_19 DT_19 DU_19 DV_19 DW_19 DY_19 DZ_19 IA_19
  have X_20 : Hid (Blk v19 w.heap.size 31 #[.int .i64 n0, .int .i64 n1]) := Lib.hid (X_19.out.below hb X_19.out.lt)
  have S_20 : Hid (Blk v19 v1.heap.size 27 #[.int .i64 P, .int .i64 N, .slice A1 ds.length k1]) := Lib.hid (S_19.out.below hb S_19.out.lt)
  have PL_20 : Hid (Blk v19 pPL 29 #[.int .i64 px, .int .i64 py]) := Lib.hid (PL_19.out.below hb PL_19.out.lt)
  have T_20 : Hid (Blk v19 v5.heap.size 27 #[.int .i64 P, .int .i64 N, .slice A2 es.length k2]) := Lib.hid (T_19.out.below hb T_19.out.lt)
  have U_20 : Hid (Blk v19 v6.heap.size 27 #[.int .i64 P, .int .i64 N, .slice A3 ds.length k3]) := Lib.hid (U_19.out.below hb U_19.out.lt)
  have V_20 : Hid (Blk v19 v7.heap.size 27 #[.int .i64 P, .int .i64 N, .slice A4 ds.length k4]) := Lib.hid (V_19.out.below hb V_19.out.lt)
  have W_20 : Hid (Blk v19 v8.heap.size 27 #[.int .i64 P, .int .i64 N, .slice A5 fs.length k5]) := Lib.hid (W_19.out.below hb W_19.out.lt)
  have Y_20 : Hid (Blk v19 v9.heap.size 27 #[.int .i64 P, .int .i64 N, .slice A6 ds.length k6]) := Lib.hid (Y_19.out.below hb Y_19.out.lt)
  have Z_20 : Hid (Blk v19 v10.heap.size 27 #[.int .i64 P, .int .i64 N, .slice A7 fs.length k7]) := Lib.hid (Z_19.out.below hb Z_19.out.lt)
  have R_20 : Hid (Blk v19 v15.heap.size 40 #[.int .i64 x, .int .i64 y, .int .i64 ww, .int .i64 hh]) := Lib.hid (R_19.out.below hb R_19.out.lt)
  have Q_20 : Hid (Blk v19 v16.heap.size 40 #[.int .i64 (4095 - y - hh), .int .i64 x, .int .i64 hh, .int .i64 ww]) := Lib.hid (Q_19.out.below hb Q_19.out.lt)
  have HB_20 : Hid (Below w.heap.size w v19) := Lib.hid (HB_19.out.trans (hb.mono HB_19.out.size))
  clear hb X_19 S_19 PL_19 T_19 U_19 V_19 W_19 Y_19 Z_19 R_19 Q_19 HB_19
  have yy0 := T_20.out.cell (i := 0) (v := .int .i64 P) rfl; have yy1 := T_20.out.cell (i := 1) (v := .int .i64 N) rfl; have yy2 := T_20.out.cell (i := 2) (v := .slice A2 es.length k2) rfl
  go_wp2_with fail
  refine (pthin_yes P N es A2 k2 z _ DT_20.out HZE.out HK_T.out HVE.out HZZ.out).mono ?_
  rintro e v20 ⟨Q2, B2, c2, rfl, hth, hiz, hb⟩
  rw [HEL.out, ← HES.out] at hth
  obtain rfl : Q1 = Q2 := IsThin.unique HTH.out (hth.congr betw_turned)
  clear hth HTH
  clear yy0 yy1 yy2
  have IB_20 := Lib.hid hiz
  have TZ_21 : Hid (Tz v20 A0 n) := Lib.hid (TZ_20.out.below hb (Nat.le_refl _))
  have DS_21 : Hid (Dz v20 A1 ds) := Lib.hid (DS_20.out.below hb (Nat.le_refl _))
  have DT_21 : Hid (Dz v20 A2 es) := Lib.hid (DT_20.out.below hb (Nat.le_refl _))
  have DU_21 : Hid (Dz v20 A3 ds) := Lib.hid (DU_20.out.below hb (Nat.le_refl _))
  have DV_21 : Hid (Dz v20 A4 ds) := Lib.hid (DV_20.out.below hb (Nat.le_refl _))
  have DW_21 : Hid (Dz v20 A5 fs) := Lib.hid (DW_20.out.below hb (Nat.le_refl _))
  have DY_21 : Hid (Dz v20 A6 ds) := Lib.hid (DY_20.out.below hb (Nat.le_refl _))
  have DZ_21 : Hid (Dz v20 A7 fs) := Lib.hid (DZ_20.out.below hb (Nat.le_refl _))
  have IA_21 : Hid (Iz v20 B1 (Q1.map Int.ofNat)) := Lib.hid (IA_20.out.below hb (Nat.le_refl _))
  have IB_21 : Hid (Iz v20 B2 (Q1.map Int.ofNat)) := Lib.hid IB_20.out
  clear TZ_20 DS_20 DT_20 DU_20 DV_20 DW_20 DY_20 DZ_20 IA_20 IB_20
  have X_21 : Hid (Blk v20 w.heap.size 31 #[.int .i64 n0, .int .i64 n1]) := Lib.hid (X_20.out.below hb X_20.out.lt)
  have S_21 : Hid (Blk v20 v1.heap.size 27 #[.int .i64 P, .int .i64 N, .slice A1 ds.length k1]) := Lib.hid (S_20.out.below hb S_20.out.lt)
  have PL_21 : Hid (Blk v20 pPL 29 #[.int .i64 px, .int .i64 py]) := Lib.hid (PL_20.out.below hb PL_20.out.lt)
  have T_21 : Hid (Blk v20 v5.heap.size 27 #[.int .i64 P, .int .i64 N, .slice A2 es.length k2]) := Lib.hid (T_20.out.below hb T_20.out.lt)
  have U_21 : Hid (Blk v20 v6.heap.size 27 #[.int .i64 P, .int .i64 N, .slice A3 ds.length k3]) := Lib.hid (U_20.out.below hb U_20.out.lt)
  have V_21 : Hid (Blk v20 v7.heap.size 27 #[.int .i64 P, .int .i64 N, .slice A4 ds.length k4]) := Lib.hid (V_20.out.below hb V_20.out.lt)
  have W_21 : Hid (Blk v20 v8.heap.size 27 #[.int .i64 P, .int .i64 N, .slice A5 fs.length k5]) := Lib.hid (W_20.out.below hb W_20.out.lt)
  have Y_21 : Hid (Blk v20 v9.heap.size 27 #[.int .i64 P, .int .i64 N, .slice A6 ds.length k6]) := Lib.hid (Y_20.out.below hb Y_20.out.lt)
  have Z_21 : Hid (Blk v20 v10.heap.size 27 #[.int .i64 P, .int .i64 N, .slice A7 fs.length k7]) := Lib.hid (Z_20.out.below hb Z_20.out.lt)
  have R_21 : Hid (Blk v20 v15.heap.size 40 #[.int .i64 x, .int .i64 y, .int .i64 ww, .int .i64 hh]) := Lib.hid (R_20.out.below hb R_20.out.lt)
  have Q_21 : Hid (Blk v20 v16.heap.size 40 #[.int .i64 (4095 - y - hh), .int .i64 x, .int .i64 hh, .int .i64 ww]) := Lib.hid (Q_20.out.below hb Q_20.out.lt)
  have HB_21 : Hid (Below w.heap.size w v20) := Lib.hid (HB_20.out.trans (hb.mono HB_20.out.size))
  clear hb X_20 S_20 PL_20 T_20 U_20 V_20 W_20 Y_20 Z_20 R_20 Q_20 HB_20
  have hon := box_on HVD.out HBX.out
  have e1 : IntKind.i64.wrap (4095 - y) = 4095 - y := IntWalk.i64_in _ (by omega)
  have e2 : IntKind.i64.wrap (4095 - y - hh) = 4095 - y - hh := IntWalk.i64_in _ (by omega)
  clear hon
  go_wp2_with fail
  refine (rints_true Q1 B1 B2 c1 c2 _ IA_21.out IB_21.out (by have h := HTHL.out; have h2 := HZL.out; omega)).mono ?_
  rintro e v21 ⟨rfl, hb⟩
  have TZ_22 : Hid (Tz v21 A0 n) := Lib.hid (TZ_21.out.below hb (Nat.le_refl _))
  have DS_22 : Hid (Dz v21 A1 ds) := Lib.hid (DS_21.out.below hb (Nat.le_refl _))
  have DT_22 : Hid (Dz v21 A2 es) := Lib.hid (DT_21.out.below hb (Nat.le_refl _))
  have DU_22 : Hid (Dz v21 A3 ds) := Lib.hid (DU_21.out.below hb (Nat.le_refl _))
  have DV_22 : Hid (Dz v21 A4 ds) := Lib.hid (DV_21.out.below hb (Nat.le_refl _))
  have DW_22 : Hid (Dz v21 A5 fs) := Lib.hid (DW_21.out.below hb (Nat.le_refl _))
  have DY_22 : Hid (Dz v21 A6 ds) := Lib.hid (DY_21.out.below hb (Nat.le_refl _))
  have DZ_22 : Hid (Dz v21 A7 fs) := Lib.hid (DZ_21.out.below hb (Nat.le_refl _))
  have IA_22 : Hid (Iz v21 B1 (Q1.map Int.ofNat)) := Lib.hid (IA_21.out.below hb (Nat.le_refl _))
  have IB_22 : Hid (Iz v21 B2 (Q1.map Int.ofNat)) := Lib.hid (IB_21.out.below hb (Nat.le_refl _))
  clear TZ_21 DS_21 DT_21 DU_21 DV_21 DW_21 DY_21 DZ_21 IA_21 IB_21
  have X_22 : Hid (Blk v21 w.heap.size 31 #[.int .i64 n0, .int .i64 n1]) := Lib.hid (X_21.out.below hb X_21.out.lt)
  have S_22 : Hid (Blk v21 v1.heap.size 27 #[.int .i64 P, .int .i64 N, .slice A1 ds.length k1]) := Lib.hid (S_21.out.below hb S_21.out.lt)
  have PL_22 : Hid (Blk v21 pPL 29 #[.int .i64 px, .int .i64 py]) := Lib.hid (PL_21.out.below hb PL_21.out.lt)
  have T_22 : Hid (Blk v21 v5.heap.size 27 #[.int .i64 P, .int .i64 N, .slice A2 es.length k2]) := Lib.hid (T_21.out.below hb T_21.out.lt)
  have U_22 : Hid (Blk v21 v6.heap.size 27 #[.int .i64 P, .int .i64 N, .slice A3 ds.length k3]) := Lib.hid (U_21.out.below hb U_21.out.lt)
  have V_22 : Hid (Blk v21 v7.heap.size 27 #[.int .i64 P, .int .i64 N, .slice A4 ds.length k4]) := Lib.hid (V_21.out.below hb V_21.out.lt)
  have W_22 : Hid (Blk v21 v8.heap.size 27 #[.int .i64 P, .int .i64 N, .slice A5 fs.length k5]) := Lib.hid (W_21.out.below hb W_21.out.lt)
  have Y_22 : Hid (Blk v21 v9.heap.size 27 #[.int .i64 P, .int .i64 N, .slice A6 ds.length k6]) := Lib.hid (Y_21.out.below hb Y_21.out.lt)
  have Z_22 : Hid (Blk v21 v10.heap.size 27 #[.int .i64 P, .int .i64 N, .slice A7 fs.length k7]) := Lib.hid (Z_21.out.below hb Z_21.out.lt)
  have R_22 : Hid (Blk v21 v15.heap.size 40 #[.int .i64 x, .int .i64 y, .int .i64 ww, .int .i64 hh]) := Lib.hid (R_21.out.below hb R_21.out.lt)
  have Q_22 : Hid (Blk v21 v16.heap.size 40 #[.int .i64 (4095 - y - hh), .int .i64 x, .int .i64 hh, .int .i64 ww]) := Lib.hid (Q_21.out.below hb Q_21.out.lt)
  have HB_22 : Hid (Below w.heap.size w v21) := Lib.hid (HB_21.out.trans (hb.mono HB_21.out.size))
  clear hb X_21 S_21 PL_21 T_21 U_21 V_21 W_21 Y_21 Z_21 R_21 Q_21 HB_21
  have yy0 := S_22.out.cell (i := 0) (v := .int .i64 P) rfl; have yy1 := S_22.out.cell (i := 1) (v := .int .i64 N) rfl; have yy2 := S_22.out.cell (i := 2) (v := .slice A1 ds.length k1) rfl
  have yy3 := R_22.out.cell (i := 0) (v := .int .i64 x) rfl; have yy4 := R_22.out.cell (i := 1) (v := .int .i64 y) rfl; have yy5 := R_22.out.cell (i := 2) (v := .int .i64 ww) rfl; have yy6 := R_22.out.cell (i := 3) (v := .int .i64 hh) rfl
  have yy7 := Q_22.out.cell (i := 0) (v := .int .i64 (4095 - y - hh)) rfl; have yy8 := Q_22.out.cell (i := 1) (v := .int .i64 x) rfl; have yy9 := Q_22.out.cell (i := 2) (v := .int .i64 hh) rfl; have yy10 := Q_22.out.cell (i := 3) (v := .int .i64 ww) rfl
  go_wp2_with fail
  refine (pends_yes P N ds A1 k1 _ DS_22.out HZL.out HVD.out).mono ?_
  rintro e v22 ⟨f1, l1, hf1, hl1, rfl, hb⟩
  have HF1 := Lib.hid (And.intro hf1 hl1); clear hf1 hl1
  clear yy0 yy1 yy2 yy3 yy4 yy5 yy6 yy7 yy8 yy9 yy10
  have TZ_23 : Hid (Tz ((v22.alloc (.cells #[.int .i64 f1.x, .int .i64 f1.y] 29)).alloc (.cells #[.int .i64 l1.x, .int .i64 l1.y] 29)) A0 n) := Lib.hid (TZ_22.out.below (allocs_below [(#[.int .i64 f1.x, .int .i64 f1.y], 29), (#[.int .i64 l1.x, .int .i64 l1.y], 29)] _ hb hb.size) (Nat.le_refl _))
  have DS_23 : Hid (Dz ((v22.alloc (.cells #[.int .i64 f1.x, .int .i64 f1.y] 29)).alloc (.cells #[.int .i64 l1.x, .int .i64 l1.y] 29)) A1 ds) := Lib.hid (DS_22.out.below (allocs_below [(#[.int .i64 f1.x, .int .i64 f1.y], 29), (#[.int .i64 l1.x, .int .i64 l1.y], 29)] _ hb hb.size) (Nat.le_refl _))
  have DT_23 : Hid (Dz ((v22.alloc (.cells #[.int .i64 f1.x, .int .i64 f1.y] 29)).alloc (.cells #[.int .i64 l1.x, .int .i64 l1.y] 29)) A2 es) := Lib.hid (DT_22.out.below (allocs_below [(#[.int .i64 f1.x, .int .i64 f1.y], 29), (#[.int .i64 l1.x, .int .i64 l1.y], 29)] _ hb hb.size) (Nat.le_refl _))
  have DU_23 : Hid (Dz ((v22.alloc (.cells #[.int .i64 f1.x, .int .i64 f1.y] 29)).alloc (.cells #[.int .i64 l1.x, .int .i64 l1.y] 29)) A3 ds) := Lib.hid (DU_22.out.below (allocs_below [(#[.int .i64 f1.x, .int .i64 f1.y], 29), (#[.int .i64 l1.x, .int .i64 l1.y], 29)] _ hb hb.size) (Nat.le_refl _))
  have DV_23 : Hid (Dz ((v22.alloc (.cells #[.int .i64 f1.x, .int .i64 f1.y] 29)).alloc (.cells #[.int .i64 l1.x, .int .i64 l1.y] 29)) A4 ds) := Lib.hid (DV_22.out.below (allocs_below [(#[.int .i64 f1.x, .int .i64 f1.y], 29), (#[.int .i64 l1.x, .int .i64 l1.y], 29)] _ hb hb.size) (Nat.le_refl _))
  have DW_23 : Hid (Dz ((v22.alloc (.cells #[.int .i64 f1.x, .int .i64 f1.y] 29)).alloc (.cells #[.int .i64 l1.x, .int .i64 l1.y] 29)) A5 fs) := Lib.hid (DW_22.out.below (allocs_below [(#[.int .i64 f1.x, .int .i64 f1.y], 29), (#[.int .i64 l1.x, .int .i64 l1.y], 29)] _ hb hb.size) (Nat.le_refl _))
  have DY_23 : Hid (Dz ((v22.alloc (.cells #[.int .i64 f1.x, .int .i64 f1.y] 29)).alloc (.cells #[.int .i64 l1.x, .int .i64 l1.y] 29)) A6 ds) := Lib.hid (DY_22.out.below (allocs_below [(#[.int .i64 f1.x, .int .i64 f1.y], 29), (#[.int .i64 l1.x, .int .i64 l1.y], 29)] _ hb hb.size) (Nat.le_refl _))
  have DZ_23 : Hid (Dz ((v22.alloc (.cells #[.int .i64 f1.x, .int .i64 f1.y] 29)).alloc (.cells #[.int .i64 l1.x, .int .i64 l1.y] 29)) A7 fs) := Lib.hid (DZ_22.out.below (allocs_below [(#[.int .i64 f1.x, .int .i64 f1.y], 29), (#[.int .i64 l1.x, .int .i64 l1.y], 29)] _ hb hb.size) (Nat.le_refl _))
  have IA_23 : Hid (Iz ((v22.alloc (.cells #[.int .i64 f1.x, .int .i64 f1.y] 29)).alloc (.cells #[.int .i64 l1.x, .int .i64 l1.y] 29)) B1 (Q1.map Int.ofNat)) := Lib.hid (IA_22.out.below (allocs_below [(#[.int .i64 f1.x, .int .i64 f1.y], 29), (#[.int .i64 l1.x, .int .i64 l1.y], 29)] _ hb hb.size) (Nat.le_refl _))
  have IB_23 : Hid (Iz ((v22.alloc (.cells #[.int .i64 f1.x, .int .i64 f1.y] 29)).alloc (.cells #[.int .i64 l1.x, .int .i64 l1.y] 29)) B2 (Q1.map Int.ofNat)) := Lib.hid (IB_22.out.below (allocs_below [(#[.int .i64 f1.x, .int .i64 f1.y], 29), (#[.int .i64 l1.x, .int .i64 l1.y], 29)] _ hb hb.size) (Nat.le_refl _))
  clear TZ_22 DS_22 DT_22 DU_22 DV_22 DW_22 DY_22 DZ_22 IA_22 IB_22
  have X_23 : Hid (Blk ((v22.alloc (.cells #[.int .i64 f1.x, .int .i64 f1.y] 29)).alloc (.cells #[.int .i64 l1.x, .int .i64 l1.y] 29)) w.heap.size 31 #[.int .i64 n0, .int .i64 n1]) := Lib.hid (allocs_keep [(#[.int .i64 f1.x, .int .i64 f1.y], 29), (#[.int .i64 l1.x, .int .i64 l1.y], 29)] _ (X_22.out.below hb X_22.out.lt))
  have S_23 : Hid (Blk ((v22.alloc (.cells #[.int .i64 f1.x, .int .i64 f1.y] 29)).alloc (.cells #[.int .i64 l1.x, .int .i64 l1.y] 29)) v1.heap.size 27 #[.int .i64 P, .int .i64 N, .slice A1 ds.length k1]) := Lib.hid (allocs_keep [(#[.int .i64 f1.x, .int .i64 f1.y], 29), (#[.int .i64 l1.x, .int .i64 l1.y], 29)] _ (S_22.out.below hb S_22.out.lt))
  have PL_23 : Hid (Blk ((v22.alloc (.cells #[.int .i64 f1.x, .int .i64 f1.y] 29)).alloc (.cells #[.int .i64 l1.x, .int .i64 l1.y] 29)) pPL 29 #[.int .i64 px, .int .i64 py]) := Lib.hid (allocs_keep [(#[.int .i64 f1.x, .int .i64 f1.y], 29), (#[.int .i64 l1.x, .int .i64 l1.y], 29)] _ (PL_22.out.below hb PL_22.out.lt))
  have T_23 : Hid (Blk ((v22.alloc (.cells #[.int .i64 f1.x, .int .i64 f1.y] 29)).alloc (.cells #[.int .i64 l1.x, .int .i64 l1.y] 29)) v5.heap.size 27 #[.int .i64 P, .int .i64 N, .slice A2 es.length k2]) := Lib.hid (allocs_keep [(#[.int .i64 f1.x, .int .i64 f1.y], 29), (#[.int .i64 l1.x, .int .i64 l1.y], 29)] _ (T_22.out.below hb T_22.out.lt))
  have U_23 : Hid (Blk ((v22.alloc (.cells #[.int .i64 f1.x, .int .i64 f1.y] 29)).alloc (.cells #[.int .i64 l1.x, .int .i64 l1.y] 29)) v6.heap.size 27 #[.int .i64 P, .int .i64 N, .slice A3 ds.length k3]) := Lib.hid (allocs_keep [(#[.int .i64 f1.x, .int .i64 f1.y], 29), (#[.int .i64 l1.x, .int .i64 l1.y], 29)] _ (U_22.out.below hb U_22.out.lt))
  have V_23 : Hid (Blk ((v22.alloc (.cells #[.int .i64 f1.x, .int .i64 f1.y] 29)).alloc (.cells #[.int .i64 l1.x, .int .i64 l1.y] 29)) v7.heap.size 27 #[.int .i64 P, .int .i64 N, .slice A4 ds.length k4]) := Lib.hid (allocs_keep [(#[.int .i64 f1.x, .int .i64 f1.y], 29), (#[.int .i64 l1.x, .int .i64 l1.y], 29)] _ (V_22.out.below hb V_22.out.lt))
  have W_23 : Hid (Blk ((v22.alloc (.cells #[.int .i64 f1.x, .int .i64 f1.y] 29)).alloc (.cells #[.int .i64 l1.x, .int .i64 l1.y] 29)) v8.heap.size 27 #[.int .i64 P, .int .i64 N, .slice A5 fs.length k5]) := Lib.hid (allocs_keep [(#[.int .i64 f1.x, .int .i64 f1.y], 29), (#[.int .i64 l1.x, .int .i64 l1.y], 29)] _ (W_22.out.below hb W_22.out.lt))
  have Y_23 : Hid (Blk ((v22.alloc (.cells #[.int .i64 f1.x, .int .i64 f1.y] 29)).alloc (.cells #[.int .i64 l1.x, .int .i64 l1.y] 29)) v9.heap.size 27 #[.int .i64 P, .int .i64 N, .slice A6 ds.length k6]) := Lib.hid (allocs_keep [(#[.int .i64 f1.x, .int .i64 f1.y], 29), (#[.int .i64 l1.x, .int .i64 l1.y], 29)] _ (Y_22.out.below hb Y_22.out.lt))
  have Z_23 : Hid (Blk ((v22.alloc (.cells #[.int .i64 f1.x, .int .i64 f1.y] 29)).alloc (.cells #[.int .i64 l1.x, .int .i64 l1.y] 29)) v10.heap.size 27 #[.int .i64 P, .int .i64 N, .slice A7 fs.length k7]) := Lib.hid (allocs_keep [(#[.int .i64 f1.x, .int .i64 f1.y], 29), (#[.int .i64 l1.x, .int .i64 l1.y], 29)] _ (Z_22.out.below hb Z_22.out.lt))
  have R_23 : Hid (Blk ((v22.alloc (.cells #[.int .i64 f1.x, .int .i64 f1.y] 29)).alloc (.cells #[.int .i64 l1.x, .int .i64 l1.y] 29)) v15.heap.size 40 #[.int .i64 x, .int .i64 y, .int .i64 ww, .int .i64 hh]) := Lib.hid (allocs_keep [(#[.int .i64 f1.x, .int .i64 f1.y], 29), (#[.int .i64 l1.x, .int .i64 l1.y], 29)] _ (R_22.out.below hb R_22.out.lt))
  have Q_23 : Hid (Blk ((v22.alloc (.cells #[.int .i64 f1.x, .int .i64 f1.y] 29)).alloc (.cells #[.int .i64 l1.x, .int .i64 l1.y] 29)) v16.heap.size 40 #[.int .i64 (4095 - y - hh), .int .i64 x, .int .i64 hh, .int .i64 ww]) := Lib.hid (allocs_keep [(#[.int .i64 f1.x, .int .i64 f1.y], 29), (#[.int .i64 l1.x, .int .i64 l1.y], 29)] _ (Q_22.out.below hb Q_22.out.lt))
  have HB_23 : Hid (Below w.heap.size w ((v22.alloc (.cells #[.int .i64 f1.x, .int .i64 f1.y] 29)).alloc (.cells #[.int .i64 l1.x, .int .i64 l1.y] 29))) := Lib.hid (allocs_below [(#[.int .i64 f1.x, .int .i64 f1.y], 29), (#[.int .i64 l1.x, .int .i64 l1.y], 29)] _ (HB_22.out.trans (hb.mono HB_22.out.size)) (HB_22.out.trans (hb.mono HB_22.out.size)).size)
  have F1_23 : Hid (Blk ((v22.alloc (.cells #[.int .i64 f1.x, .int .i64 f1.y] 29)).alloc (.cells #[.int .i64 l1.x, .int .i64 l1.y] 29)) v22.heap.size 29 #[.int .i64 f1.x, .int .i64 f1.y]) := Lib.hid (allocs_blk [(#[.int .i64 f1.x, .int .i64 f1.y], 29), (#[.int .i64 l1.x, .int .i64 l1.y], 29)] v22 0 _ rfl)
  have L1_23 : Hid (Blk ((v22.alloc (.cells #[.int .i64 f1.x, .int .i64 f1.y] 29)).alloc (.cells #[.int .i64 l1.x, .int .i64 l1.y] 29)) (v22.heap.size + 1) 29 #[.int .i64 l1.x, .int .i64 l1.y]) := Lib.hid (allocs_blk [(#[.int .i64 f1.x, .int .i64 f1.y], 29), (#[.int .i64 l1.x, .int .i64 l1.y], 29)] v22 1 _ rfl)
  clear hb X_22 S_22 PL_22 T_22 U_22 V_22 W_22 Y_22 Z_22 R_22 Q_22 HB_22
  clear e1 e2
  have yy0 := T_23.out.cell (i := 0) (v := .int .i64 P) rfl; have yy1 := T_23.out.cell (i := 1) (v := .int .i64 N) rfl; have yy2 := T_23.out.cell (i := 2) (v := .slice A2 es.length k2) rfl
  go_wp2_with fail
  refine (pends_yes P N es A2 k2 _ DT_23.out HZE.out HVE.out).mono ?_
  rintro e v23 ⟨f2, l2, hf2, hl2, rfl, hb⟩
  rw [HEL.out, ← HES.out, List.getElem?_map, HF1.out.2] at hl2
  rw [← HES.out, List.getElem?_map, HF1.out.1] at hf2
  obtain rfl : trn 1 f1 = f2 := by simpa using hf2
  obtain rfl : trn 1 l1 = l2 := by simpa using hl2
  clear hf2 hl2
  rw [show (trn 1 f1).x = 4095 - f1.y from rfl, show (trn 1 f1).y = f1.x from rfl, show (trn 1 l1).x = 4095 - l1.y from rfl, show (trn 1 l1).y = l1.x from rfl]
  clear yy0 yy1 yy2
  have TZ_24 : Hid (Tz ((v23.alloc (.cells #[.int .i64 (4095 - f1.y), .int .i64 f1.x] 29)).alloc (.cells #[.int .i64 (4095 - l1.y), .int .i64 l1.x] 29)) A0 n) := Lib.hid (TZ_23.out.below (allocs_below [(#[.int .i64 (4095 - f1.y), .int .i64 f1.x], 29), (#[.int .i64 (4095 - l1.y), .int .i64 l1.x], 29)] _ hb hb.size) (Nat.le_refl _))
  have DS_24 : Hid (Dz ((v23.alloc (.cells #[.int .i64 (4095 - f1.y), .int .i64 f1.x] 29)).alloc (.cells #[.int .i64 (4095 - l1.y), .int .i64 l1.x] 29)) A1 ds) := Lib.hid (DS_23.out.below (allocs_below [(#[.int .i64 (4095 - f1.y), .int .i64 f1.x], 29), (#[.int .i64 (4095 - l1.y), .int .i64 l1.x], 29)] _ hb hb.size) (Nat.le_refl _))
  have DT_24 : Hid (Dz ((v23.alloc (.cells #[.int .i64 (4095 - f1.y), .int .i64 f1.x] 29)).alloc (.cells #[.int .i64 (4095 - l1.y), .int .i64 l1.x] 29)) A2 es) := Lib.hid (DT_23.out.below (allocs_below [(#[.int .i64 (4095 - f1.y), .int .i64 f1.x], 29), (#[.int .i64 (4095 - l1.y), .int .i64 l1.x], 29)] _ hb hb.size) (Nat.le_refl _))
  have DU_24 : Hid (Dz ((v23.alloc (.cells #[.int .i64 (4095 - f1.y), .int .i64 f1.x] 29)).alloc (.cells #[.int .i64 (4095 - l1.y), .int .i64 l1.x] 29)) A3 ds) := Lib.hid (DU_23.out.below (allocs_below [(#[.int .i64 (4095 - f1.y), .int .i64 f1.x], 29), (#[.int .i64 (4095 - l1.y), .int .i64 l1.x], 29)] _ hb hb.size) (Nat.le_refl _))
  have DV_24 : Hid (Dz ((v23.alloc (.cells #[.int .i64 (4095 - f1.y), .int .i64 f1.x] 29)).alloc (.cells #[.int .i64 (4095 - l1.y), .int .i64 l1.x] 29)) A4 ds) := Lib.hid (DV_23.out.below (allocs_below [(#[.int .i64 (4095 - f1.y), .int .i64 f1.x], 29), (#[.int .i64 (4095 - l1.y), .int .i64 l1.x], 29)] _ hb hb.size) (Nat.le_refl _))
  have DW_24 : Hid (Dz ((v23.alloc (.cells #[.int .i64 (4095 - f1.y), .int .i64 f1.x] 29)).alloc (.cells #[.int .i64 (4095 - l1.y), .int .i64 l1.x] 29)) A5 fs) := Lib.hid (DW_23.out.below (allocs_below [(#[.int .i64 (4095 - f1.y), .int .i64 f1.x], 29), (#[.int .i64 (4095 - l1.y), .int .i64 l1.x], 29)] _ hb hb.size) (Nat.le_refl _))
  have DY_24 : Hid (Dz ((v23.alloc (.cells #[.int .i64 (4095 - f1.y), .int .i64 f1.x] 29)).alloc (.cells #[.int .i64 (4095 - l1.y), .int .i64 l1.x] 29)) A6 ds) := Lib.hid (DY_23.out.below (allocs_below [(#[.int .i64 (4095 - f1.y), .int .i64 f1.x], 29), (#[.int .i64 (4095 - l1.y), .int .i64 l1.x], 29)] _ hb hb.size) (Nat.le_refl _))
  have DZ_24 : Hid (Dz ((v23.alloc (.cells #[.int .i64 (4095 - f1.y), .int .i64 f1.x] 29)).alloc (.cells #[.int .i64 (4095 - l1.y), .int .i64 l1.x] 29)) A7 fs) := Lib.hid (DZ_23.out.below (allocs_below [(#[.int .i64 (4095 - f1.y), .int .i64 f1.x], 29), (#[.int .i64 (4095 - l1.y), .int .i64 l1.x], 29)] _ hb hb.size) (Nat.le_refl _))
  have IA_24 : Hid (Iz ((v23.alloc (.cells #[.int .i64 (4095 - f1.y), .int .i64 f1.x] 29)).alloc (.cells #[.int .i64 (4095 - l1.y), .int .i64 l1.x] 29)) B1 (Q1.map Int.ofNat)) := Lib.hid (IA_23.out.below (allocs_below [(#[.int .i64 (4095 - f1.y), .int .i64 f1.x], 29), (#[.int .i64 (4095 - l1.y), .int .i64 l1.x], 29)] _ hb hb.size) (Nat.le_refl _))
  have IB_24 : Hid (Iz ((v23.alloc (.cells #[.int .i64 (4095 - f1.y), .int .i64 f1.x] 29)).alloc (.cells #[.int .i64 (4095 - l1.y), .int .i64 l1.x] 29)) B2 (Q1.map Int.ofNat)) := Lib.hid (IB_23.out.below (allocs_below [(#[.int .i64 (4095 - f1.y), .int .i64 f1.x], 29), (#[.int .i64 (4095 - l1.y), .int .i64 l1.x], 29)] _ hb hb.size) (Nat.le_refl _))
  clear TZ_23 DS_23 DT_23 DU_23 DV_23 DW_23 DY_23 DZ_23 IA_23 IB_23
  have X_24 : Hid (Blk ((v23.alloc (.cells #[.int .i64 (4095 - f1.y), .int .i64 f1.x] 29)).alloc (.cells #[.int .i64 (4095 - l1.y), .int .i64 l1.x] 29)) w.heap.size 31 #[.int .i64 n0, .int .i64 n1]) := Lib.hid (allocs_keep [(#[.int .i64 (4095 - f1.y), .int .i64 f1.x], 29), (#[.int .i64 (4095 - l1.y), .int .i64 l1.x], 29)] _ (X_23.out.below hb X_23.out.lt))
  have S_24 : Hid (Blk ((v23.alloc (.cells #[.int .i64 (4095 - f1.y), .int .i64 f1.x] 29)).alloc (.cells #[.int .i64 (4095 - l1.y), .int .i64 l1.x] 29)) v1.heap.size 27 #[.int .i64 P, .int .i64 N, .slice A1 ds.length k1]) := Lib.hid (allocs_keep [(#[.int .i64 (4095 - f1.y), .int .i64 f1.x], 29), (#[.int .i64 (4095 - l1.y), .int .i64 l1.x], 29)] _ (S_23.out.below hb S_23.out.lt))
  have PL_24 : Hid (Blk ((v23.alloc (.cells #[.int .i64 (4095 - f1.y), .int .i64 f1.x] 29)).alloc (.cells #[.int .i64 (4095 - l1.y), .int .i64 l1.x] 29)) pPL 29 #[.int .i64 px, .int .i64 py]) := Lib.hid (allocs_keep [(#[.int .i64 (4095 - f1.y), .int .i64 f1.x], 29), (#[.int .i64 (4095 - l1.y), .int .i64 l1.x], 29)] _ (PL_23.out.below hb PL_23.out.lt))
  have T_24 : Hid (Blk ((v23.alloc (.cells #[.int .i64 (4095 - f1.y), .int .i64 f1.x] 29)).alloc (.cells #[.int .i64 (4095 - l1.y), .int .i64 l1.x] 29)) v5.heap.size 27 #[.int .i64 P, .int .i64 N, .slice A2 es.length k2]) := Lib.hid (allocs_keep [(#[.int .i64 (4095 - f1.y), .int .i64 f1.x], 29), (#[.int .i64 (4095 - l1.y), .int .i64 l1.x], 29)] _ (T_23.out.below hb T_23.out.lt))
  have U_24 : Hid (Blk ((v23.alloc (.cells #[.int .i64 (4095 - f1.y), .int .i64 f1.x] 29)).alloc (.cells #[.int .i64 (4095 - l1.y), .int .i64 l1.x] 29)) v6.heap.size 27 #[.int .i64 P, .int .i64 N, .slice A3 ds.length k3]) := Lib.hid (allocs_keep [(#[.int .i64 (4095 - f1.y), .int .i64 f1.x], 29), (#[.int .i64 (4095 - l1.y), .int .i64 l1.x], 29)] _ (U_23.out.below hb U_23.out.lt))
  have V_24 : Hid (Blk ((v23.alloc (.cells #[.int .i64 (4095 - f1.y), .int .i64 f1.x] 29)).alloc (.cells #[.int .i64 (4095 - l1.y), .int .i64 l1.x] 29)) v7.heap.size 27 #[.int .i64 P, .int .i64 N, .slice A4 ds.length k4]) := Lib.hid (allocs_keep [(#[.int .i64 (4095 - f1.y), .int .i64 f1.x], 29), (#[.int .i64 (4095 - l1.y), .int .i64 l1.x], 29)] _ (V_23.out.below hb V_23.out.lt))
  have W_24 : Hid (Blk ((v23.alloc (.cells #[.int .i64 (4095 - f1.y), .int .i64 f1.x] 29)).alloc (.cells #[.int .i64 (4095 - l1.y), .int .i64 l1.x] 29)) v8.heap.size 27 #[.int .i64 P, .int .i64 N, .slice A5 fs.length k5]) := Lib.hid (allocs_keep [(#[.int .i64 (4095 - f1.y), .int .i64 f1.x], 29), (#[.int .i64 (4095 - l1.y), .int .i64 l1.x], 29)] _ (W_23.out.below hb W_23.out.lt))
  have Y_24 : Hid (Blk ((v23.alloc (.cells #[.int .i64 (4095 - f1.y), .int .i64 f1.x] 29)).alloc (.cells #[.int .i64 (4095 - l1.y), .int .i64 l1.x] 29)) v9.heap.size 27 #[.int .i64 P, .int .i64 N, .slice A6 ds.length k6]) := Lib.hid (allocs_keep [(#[.int .i64 (4095 - f1.y), .int .i64 f1.x], 29), (#[.int .i64 (4095 - l1.y), .int .i64 l1.x], 29)] _ (Y_23.out.below hb Y_23.out.lt))
  have Z_24 : Hid (Blk ((v23.alloc (.cells #[.int .i64 (4095 - f1.y), .int .i64 f1.x] 29)).alloc (.cells #[.int .i64 (4095 - l1.y), .int .i64 l1.x] 29)) v10.heap.size 27 #[.int .i64 P, .int .i64 N, .slice A7 fs.length k7]) := Lib.hid (allocs_keep [(#[.int .i64 (4095 - f1.y), .int .i64 f1.x], 29), (#[.int .i64 (4095 - l1.y), .int .i64 l1.x], 29)] _ (Z_23.out.below hb Z_23.out.lt))
  have R_24 : Hid (Blk ((v23.alloc (.cells #[.int .i64 (4095 - f1.y), .int .i64 f1.x] 29)).alloc (.cells #[.int .i64 (4095 - l1.y), .int .i64 l1.x] 29)) v15.heap.size 40 #[.int .i64 x, .int .i64 y, .int .i64 ww, .int .i64 hh]) := Lib.hid (allocs_keep [(#[.int .i64 (4095 - f1.y), .int .i64 f1.x], 29), (#[.int .i64 (4095 - l1.y), .int .i64 l1.x], 29)] _ (R_23.out.below hb R_23.out.lt))
  have Q_24 : Hid (Blk ((v23.alloc (.cells #[.int .i64 (4095 - f1.y), .int .i64 f1.x] 29)).alloc (.cells #[.int .i64 (4095 - l1.y), .int .i64 l1.x] 29)) v16.heap.size 40 #[.int .i64 (4095 - y - hh), .int .i64 x, .int .i64 hh, .int .i64 ww]) := Lib.hid (allocs_keep [(#[.int .i64 (4095 - f1.y), .int .i64 f1.x], 29), (#[.int .i64 (4095 - l1.y), .int .i64 l1.x], 29)] _ (Q_23.out.below hb Q_23.out.lt))
  have F1_24 : Hid (Blk ((v23.alloc (.cells #[.int .i64 (4095 - f1.y), .int .i64 f1.x] 29)).alloc (.cells #[.int .i64 (4095 - l1.y), .int .i64 l1.x] 29)) v22.heap.size 29 #[.int .i64 f1.x, .int .i64 f1.y]) := Lib.hid (allocs_keep [(#[.int .i64 (4095 - f1.y), .int .i64 f1.x], 29), (#[.int .i64 (4095 - l1.y), .int .i64 l1.x], 29)] _ (F1_23.out.below hb F1_23.out.lt))
  have L1_24 : Hid (Blk ((v23.alloc (.cells #[.int .i64 (4095 - f1.y), .int .i64 f1.x] 29)).alloc (.cells #[.int .i64 (4095 - l1.y), .int .i64 l1.x] 29)) (v22.heap.size + 1) 29 #[.int .i64 l1.x, .int .i64 l1.y]) := Lib.hid (allocs_keep [(#[.int .i64 (4095 - f1.y), .int .i64 f1.x], 29), (#[.int .i64 (4095 - l1.y), .int .i64 l1.x], 29)] _ (L1_23.out.below hb L1_23.out.lt))
  have HB_24 : Hid (Below w.heap.size w ((v23.alloc (.cells #[.int .i64 (4095 - f1.y), .int .i64 f1.x] 29)).alloc (.cells #[.int .i64 (4095 - l1.y), .int .i64 l1.x] 29))) := Lib.hid (allocs_below [(#[.int .i64 (4095 - f1.y), .int .i64 f1.x], 29), (#[.int .i64 (4095 - l1.y), .int .i64 l1.x], 29)] _ (HB_23.out.trans (hb.mono HB_23.out.size)) (HB_23.out.trans (hb.mono HB_23.out.size)).size)
  have F2_24 : Hid (Blk ((v23.alloc (.cells #[.int .i64 (4095 - f1.y), .int .i64 f1.x] 29)).alloc (.cells #[.int .i64 (4095 - l1.y), .int .i64 l1.x] 29)) v23.heap.size 29 #[.int .i64 (4095 - f1.y), .int .i64 f1.x]) := Lib.hid (allocs_blk [(#[.int .i64 (4095 - f1.y), .int .i64 f1.x], 29), (#[.int .i64 (4095 - l1.y), .int .i64 l1.x], 29)] v23 0 _ rfl)
  have L2_24 : Hid (Blk ((v23.alloc (.cells #[.int .i64 (4095 - f1.y), .int .i64 f1.x] 29)).alloc (.cells #[.int .i64 (4095 - l1.y), .int .i64 l1.x] 29)) (v23.heap.size + 1) 29 #[.int .i64 (4095 - l1.y), .int .i64 l1.x]) := Lib.hid (allocs_blk [(#[.int .i64 (4095 - f1.y), .int .i64 f1.x], 29), (#[.int .i64 (4095 - l1.y), .int .i64 l1.x], 29)] v23 1 _ rfl)
  clear hb X_23 S_23 PL_23 T_23 U_23 V_23 W_23 Y_23 Z_23 R_23 Q_23 F1_23 L1_23 HB_23
  have HOF := Lib.hid (HVD.out.mem f1 (List.mem_of_getElem? HF1.out.1)).1
  have HOL := Lib.hid (HVD.out.mem l1 (List.mem_of_getElem? HF1.out.2)).1
  obtain ⟨bw, hbw⟩ : ∃ b : Bool, decide (WithinP P N ds px py z) = b := ⟨_, rfl⟩
  have HW1 : Hid (∀ W : World, Dz W A1 ds → _) := Lib.hid (fun W h => pwithin_any P N ds A1 k1 px py z W h HZL.out)
  have HW2 : Hid (∀ W : World, Dz W A2 es → _) := Lib.hid (fun W h => pwithin_any P N es A2 k2 (4095 - py) px z W h HZE.out)
  have hwt : decide (WithinP P N es (4095 - py) px z) = bw := by rw [← hbw]; exact decide_eq_decide.2 (by rw [← HES.out]; exact within_turned)
  simp only [hbw] at HW1; simp only [hwt] at HW2; clear hbw hwt
  go_wp2_with fail
  refine wp_region_grow (S := (fun w' => w'.cell? ⟨v22.heap.size, 0, none⟩ = some (.int .i64 f1.x) ∧ w'.cell? ⟨v22.heap.size, 1, none⟩ = some (.int .i64 f1.y) ∧ w'.cell? ⟨(v22.heap.size + 1), 0, none⟩ = some (.int .i64 l1.x) ∧ w'.cell? ⟨(v22.heap.size + 1), 1, none⟩ = some (.int .i64 l1.y) ∧ w'.cell? ⟨v23.heap.size, 0, none⟩ = some (.int .i64 (4095 - f1.y)) ∧ w'.cell? ⟨v23.heap.size, 1, none⟩ = some (.int .i64 f1.x) ∧ w'.cell? ⟨(v23.heap.size + 1), 0, none⟩ = some (.int .i64 (4095 - l1.y)) ∧ w'.cell? ⟨(v23.heap.size + 1), 1, none⟩ = some (.int .i64 l1.x) ∧ w'.cell? ⟨pPL, 0, none⟩ = some (.int .i64 px) ∧ w'.cell? ⟨pPL, 1, none⟩ = some (.int .i64 py) ∧ w'.cell? ⟨v1.heap.size, 0, none⟩ = some (.int .i64 P) ∧ w'.cell? ⟨v1.heap.size, 1, none⟩ = some (.int .i64 N) ∧ w'.cell? ⟨v1.heap.size, 2, none⟩ = some (.slice A1 ds.length k1) ∧ w'.cell? ⟨v5.heap.size, 0, none⟩ = some (.int .i64 P) ∧ w'.cell? ⟨v5.heap.size, 1, none⟩ = some (.int .i64 N) ∧ w'.cell? ⟨v5.heap.size, 2, none⟩ = some (.slice A2 es.length k2) ∧ Dz w' A1 ds ∧ Dz w' A2 es)) ((fun w' => Below ((v23.alloc (.cells #[.int .i64 (4095 - f1.y), .int .i64 f1.x] 29)).alloc (.cells #[.int .i64 (4095 - l1.y), .int .i64 l1.x] 29)).heap.size ((v23.alloc (.cells #[.int .i64 (4095 - f1.y), .int .i64 f1.x] 29)).alloc (.cells #[.int .i64 (4095 - l1.y), .int .i64 l1.x] 29)) w' ∧ Blk w' w.heap.size 31 #[.int .i64 n0, .int .i64 n1] ∧ Blk w' v1.heap.size 27 #[.int .i64 P, .int .i64 N, .slice A1 ds.length k1] ∧ Blk w' pPL 29 #[.int .i64 px, .int .i64 py] ∧ Blk w' v5.heap.size 27 #[.int .i64 P, .int .i64 N, .slice A2 es.length k2] ∧ Blk w' v6.heap.size 27 #[.int .i64 P, .int .i64 N, .slice A3 ds.length k3] ∧ Blk w' v7.heap.size 27 #[.int .i64 P, .int .i64 N, .slice A4 ds.length k4] ∧ Blk w' v8.heap.size 27 #[.int .i64 P, .int .i64 N, .slice A5 fs.length k5] ∧ Blk w' v9.heap.size 27 #[.int .i64 P, .int .i64 N, .slice A6 ds.length k6] ∧ Blk w' v10.heap.size 27 #[.int .i64 P, .int .i64 N, .slice A7 fs.length k7] ∧ Blk w' v15.heap.size 40 #[.int .i64 x, .int .i64 y, .int .i64 ww, .int .i64 hh] ∧ Blk w' v16.heap.size 40 #[.int .i64 (4095 - y - hh), .int .i64 x, .int .i64 hh, .int .i64 ww] ∧ Blk w' v22.heap.size 29 #[.int .i64 f1.x, .int .i64 f1.y] ∧ Blk w' (v22.heap.size + 1) 29 #[.int .i64 l1.x, .int .i64 l1.y] ∧ Blk w' v23.heap.size 29 #[.int .i64 (4095 - f1.y), .int .i64 f1.x] ∧ Blk w' (v23.heap.size + 1) 29 #[.int .i64 (4095 - l1.y), .int .i64 l1.x])) (by kernel_rfl) (⟨fun w2 h2 => ⟨(h2.2.2.2.2.2.2.2.2.2.2.2.2.1.cell (i := 0) rfl), (h2.2.2.2.2.2.2.2.2.2.2.2.2.1.cell (i := 1) rfl), (h2.2.2.2.2.2.2.2.2.2.2.2.2.2.1.cell (i := 0) rfl), (h2.2.2.2.2.2.2.2.2.2.2.2.2.2.1.cell (i := 1) rfl), (h2.2.2.2.2.2.2.2.2.2.2.2.2.2.2.1.cell (i := 0) rfl), (h2.2.2.2.2.2.2.2.2.2.2.2.2.2.2.1.cell (i := 1) rfl), (h2.2.2.2.2.2.2.2.2.2.2.2.2.2.2.2.cell (i := 0) rfl), (h2.2.2.2.2.2.2.2.2.2.2.2.2.2.2.2.cell (i := 1) rfl), (h2.2.2.2.1.cell (i := 0) rfl), (h2.2.2.2.1.cell (i := 1) rfl), (h2.2.2.1.cell (i := 0) rfl), (h2.2.2.1.cell (i := 1) rfl), (h2.2.2.1.cell (i := 2) rfl), (h2.2.2.2.2.1.cell (i := 0) rfl), (h2.2.2.2.2.1.cell (i := 1) rfl), (h2.2.2.2.2.1.cell (i := 2) rfl), (DS_24.out.below h2.1 (Nat.le_refl _)), (DT_24.out.below h2.1 (Nat.le_refl _))⟩, fun w2 w3 h2 hb2 => ⟨h2.1.trans (hb2.mono h2.1.size), h2.2.1.below hb2 h2.2.1.lt, h2.2.2.1.below hb2 h2.2.2.1.lt, h2.2.2.2.1.below hb2 h2.2.2.2.1.lt, h2.2.2.2.2.1.below hb2 h2.2.2.2.2.1.lt, h2.2.2.2.2.2.1.below hb2 h2.2.2.2.2.2.1.lt, h2.2.2.2.2.2.2.1.below hb2 h2.2.2.2.2.2.2.1.lt, h2.2.2.2.2.2.2.2.1.below hb2 h2.2.2.2.2.2.2.2.1.lt, h2.2.2.2.2.2.2.2.2.1.below hb2 h2.2.2.2.2.2.2.2.2.1.lt, h2.2.2.2.2.2.2.2.2.2.1.below hb2 h2.2.2.2.2.2.2.2.2.2.1.lt, h2.2.2.2.2.2.2.2.2.2.2.1.below hb2 h2.2.2.2.2.2.2.2.2.2.2.1.lt, h2.2.2.2.2.2.2.2.2.2.2.2.1.below hb2 h2.2.2.2.2.2.2.2.2.2.2.2.1.lt, h2.2.2.2.2.2.2.2.2.2.2.2.2.1.below hb2 h2.2.2.2.2.2.2.2.2.2.2.2.2.1.lt, h2.2.2.2.2.2.2.2.2.2.2.2.2.2.1.below hb2 h2.2.2.2.2.2.2.2.2.2.2.2.2.2.1.lt, h2.2.2.2.2.2.2.2.2.2.2.2.2.2.2.1.below hb2 h2.2.2.2.2.2.2.2.2.2.2.2.2.2.2.1.lt, h2.2.2.2.2.2.2.2.2.2.2.2.2.2.2.2.below hb2 h2.2.2.2.2.2.2.2.2.2.2.2.2.2.2.2.lt⟩⟩) (⟨(Below.refl _ _).drew, X_24.out.drew, S_24.out.drew, PL_24.out.drew, T_24.out.drew, U_24.out.drew, V_24.out.drew, W_24.out.drew, Y_24.out.drew, Z_24.out.drew, R_24.out.drew, Q_24.out.drew, F1_24.out.drew, L1_24.out.drew, F2_24.out.drew, L2_24.out.drew⟩) (fun hCalm => ?_)
  refine grow_take 0 (some 235) ?_ rfl rfl (by kernel_rfl) (fun _ _ _ h => h) (by kernel_rfl) hCalm ?_ ?_
  rotate_left
  · intro wS hS; (try dsimp only at hS); go_simp <;> with_reducible rfl
  try simp only [Act.put, List.setIfInBounds_toArray, List.set_cons_zero, List.set_cons_succ]
  refine grow_take 1 (some 236) ?_ rfl rfl (by kernel_rfl) (fun _ _ _ h => h) (by kernel_rfl) hCalm ?_ ?_
  rotate_left
  · intro wS hS; (try dsimp only at hS); go_simp <;> with_reducible rfl
  try simp only [Act.put, List.setIfInBounds_toArray, List.set_cons_zero, List.set_cons_succ]
  refine grow_take 2 (some 237) ?_ rfl rfl (by kernel_rfl) (fun _ _ _ h => h) (by kernel_rfl) hCalm ?_ ?_
  rotate_left
  · intro wS hS; (try dsimp only at hS); go_simp <;> with_reducible rfl
  try simp only [Act.put, List.setIfInBounds_toArray, List.set_cons_zero, List.set_cons_succ]
  refine grow_take 3 (some 238) ?_ rfl rfl (by kernel_rfl) (fun _ _ _ h => h) (by kernel_rfl) hCalm ?_ ?_
  rotate_left
  · intro wS hS; (try dsimp only at hS); go_simp <;> with_reducible rfl
  try simp only [Act.put, List.setIfInBounds_toArray, List.set_cons_zero, List.set_cons_succ]
  refine grow_take 4 (some 239) ?_ rfl rfl (by kernel_rfl) (fun _ _ _ h => h) (by kernel_rfl) hCalm ?_ ?_
  rotate_left
  · intro wS hS; (try dsimp only at hS); go_simp <;> with_reducible rfl
  try simp only [Act.put, List.setIfInBounds_toArray, List.set_cons_zero, List.set_cons_succ]
  refine grow_take 5 (some 240) ?_ rfl rfl (by kernel_rfl) (fun _ _ _ h => h) (by kernel_rfl) hCalm ?_ ?_
  rotate_left
  · intro wS hS; (try dsimp only at hS); go_simp <;> with_reducible rfl
  try simp only [Act.put, List.setIfInBounds_toArray, List.set_cons_zero, List.set_cons_succ]
  refine grow_take 6 (some 241) ?_ rfl rfl (by kernel_rfl) (fun _ _ _ h => h) (by kernel_rfl) hCalm ?_ ?_
  rotate_left
  · intro wS hS; (try dsimp only at hS); go_simp <;> with_reducible rfl
  try simp only [Act.put, List.setIfInBounds_toArray, List.set_cons_zero, List.set_cons_succ]
  refine grow_take 7 (some 242) ?_ rfl rfl (by kernel_rfl) (fun _ _ _ h => h) (by kernel_rfl) hCalm ?_ ?_
  rotate_left
  · intro wS hS; (try dsimp only at hS); go_simp <;> with_reducible rfl
  try simp only [Act.put, List.setIfInBounds_toArray, List.set_cons_zero, List.set_cons_succ]
  refine grow_take 8 (some 243) ?_ rfl rfl (by kernel_rfl) (fun _ _ _ h => h) (by kernel_rfl) hCalm ?_ ?_
  rotate_left
  · intro wS hS; (try dsimp only at hS); go_simp <;> with_reducible rfl
  try simp only [Act.put, List.setIfInBounds_toArray, List.set_cons_zero, List.set_cons_succ]
  refine grow_take 9 (some 244) ?_ rfl rfl (by kernel_rfl) (fun _ _ _ h => h) (by kernel_rfl) hCalm ?_ ?_
  rotate_left
  · intro wS hS; (try dsimp only at hS); go_simp <;> with_reducible rfl
  try simp only [Act.put, List.setIfInBounds_toArray, List.set_cons_zero, List.set_cons_succ]
  refine grow_take 10 (some 245) ?_ rfl rfl (by kernel_rfl) (fun _ _ _ h => h) (by kernel_rfl) hCalm ?_ ?_
  rotate_left
  · intro wS hS; (try dsimp only at hS); go_simp <;> with_reducible rfl
  try simp only [Act.put, List.setIfInBounds_toArray, List.set_cons_zero, List.set_cons_succ]
  refine grow_take 11 (some 246) ?_ rfl rfl (by kernel_rfl) (fun _ _ _ h => h) (by kernel_rfl) hCalm ?_ ?_
  rotate_left
  · intro wS hS; (try dsimp only at hS); go_simp <;> with_reducible rfl
  try simp only [Act.put, List.setIfInBounds_toArray, List.set_cons_zero, List.set_cons_succ]
  refine grow_call 12 (some 247) (.agg #[.int .i64 (4095 - f1.y), .int .i64 f1.x]) 39 [.tmp 246] #[29] rfl rfl (by kernel_rfl) (fun _ _ _ h => h) (by kernel_rfl) hCalm rfl (enters_of Try.func39 (by kernel_rfl) rfl) (fun wz _ => lturned_any f1.x f1.y wz HOF.out) (by kernel_rfl) ?_
  try simp only [Act.put, List.setIfInBounds_toArray, List.set_cons_zero, List.set_cons_succ]
  refine grow_take 13 (some 248) ?_ rfl rfl (by kernel_rfl) (fun _ _ _ h => h) (by kernel_rfl) hCalm ?_ ?_
  rotate_left
  · intro wS hS; (try dsimp only at hS); go_simp <;> with_reducible rfl
  try simp only [Act.put, List.setIfInBounds_toArray, List.set_cons_zero, List.set_cons_succ]
  refine grow_take 14 (some 249) ?_ rfl rfl (by kernel_rfl) (fun _ _ _ h => h) (by kernel_rfl) hCalm ?_ ?_
  rotate_left
  · intro wS hS; (try dsimp only at hS); go_simp <;> with_reducible rfl
  try simp only [Act.put, List.setIfInBounds_toArray, List.set_cons_zero, List.set_cons_succ]
  refine grow_take 15 (some 250) ?_ rfl rfl (by kernel_rfl) (fun _ _ _ h => h) (by kernel_rfl) hCalm ?_ ?_
  rotate_left
  · intro wS hS; (try dsimp only at hS); go_simp <;> with_reducible rfl
  try simp only [Act.put, List.setIfInBounds_toArray, List.set_cons_zero, List.set_cons_succ]
  refine grow_take 16 (some 251) ?_ rfl rfl (by kernel_rfl) (fun _ _ _ h => h) (by kernel_rfl) hCalm ?_ ?_
  rotate_left
  · intro wS hS; (try dsimp only at hS); go_simp <;> with_reducible rfl
  try simp only [Act.put, List.setIfInBounds_toArray, List.set_cons_zero, List.set_cons_succ]
  refine grow_take 17 (some 252) ?_ rfl rfl (by kernel_rfl) (fun _ _ _ h => h) (by kernel_rfl) hCalm ?_ ?_
  rotate_left
  · intro wS hS; (try dsimp only at hS); go_simp <;> with_reducible rfl
  try simp only [Act.put, List.setIfInBounds_toArray, List.set_cons_zero, List.set_cons_succ]
  refine grow_call 18 (some 253) (.agg #[.int .i64 (4095 - l1.y), .int .i64 l1.x]) 39 [.tmp 252] #[29] rfl rfl (by kernel_rfl) (fun _ _ _ h => h) (by kernel_rfl) hCalm rfl (enters_of Try.func39 (by kernel_rfl) rfl) (fun wz _ => lturned_any l1.x l1.y wz HOL.out) (by kernel_rfl) ?_
  try simp only [Act.put, List.setIfInBounds_toArray, List.set_cons_zero, List.set_cons_succ]
  refine grow_take 19 (some 254) ?_ rfl rfl (by kernel_rfl) (fun _ _ _ h => h) (by kernel_rfl) hCalm ?_ ?_
  rotate_left
  · intro wS hS; (try dsimp only at hS); go_simp <;> with_reducible rfl
  try simp only [Act.put, List.setIfInBounds_toArray, List.set_cons_zero, List.set_cons_succ]
  refine grow_take 20 (some 255) ?_ rfl rfl (by kernel_rfl) (fun _ _ _ h => h) (by kernel_rfl) hCalm ?_ ?_
  rotate_left
  · intro wS hS; (try dsimp only at hS); go_simp <;> with_reducible rfl
  try simp only [Act.put, List.setIfInBounds_toArray, List.set_cons_zero, List.set_cons_succ]
  refine grow_take 21 (some 256) ?_ rfl rfl (by kernel_rfl) (fun _ _ _ h => h) (by kernel_rfl) hCalm ?_ ?_
  rotate_left
  · intro wS hS; (try dsimp only at hS); go_simp <;> with_reducible rfl
  try simp only [Act.put, List.setIfInBounds_toArray, List.set_cons_zero, List.set_cons_succ]
  refine grow_take 22 (some 257) ?_ rfl rfl (by kernel_rfl) (fun _ _ _ h => h) (by kernel_rfl) hCalm ?_ ?_
  rotate_left
  · intro wS hS; (try dsimp only at hS); go_simp <;> with_reducible rfl
  try simp only [Act.put, List.setIfInBounds_toArray, List.set_cons_zero, List.set_cons_succ]
  refine grow_take 23 (some 258) ?_ rfl rfl (by kernel_rfl) (fun _ _ _ h => h) (by kernel_rfl) hCalm ?_ ?_
  rotate_left
  · intro wS hS; (try dsimp only at hS); go_simp <;> with_reducible rfl
  try simp only [Act.put, List.setIfInBounds_toArray, List.set_cons_zero, List.set_cons_succ]
  refine grow_take 24 (some 259) ?_ rfl rfl (by kernel_rfl) (fun _ _ _ h => h) (by kernel_rfl) hCalm ?_ ?_
  rotate_left
  · intro wS hS; (try dsimp only at hS); go_simp <;> with_reducible rfl
  try simp only [Act.put, List.setIfInBounds_toArray, List.set_cons_zero, List.set_cons_succ]
  refine grow_call 25 (some 260) (.bool bw) 31 [.tmp 257, .tmp 258, .tmp 259] #[27, 29, 3] rfl rfl (by kernel_rfl) (fun _ _ _ h => h) (by kernel_rfl) hCalm rfl (enters_of Try.func31 (by kernel_rfl) rfl) (fun wz hS => HW1.out wz hS.2.2.2.2.2.2.2.2.2.2.2.2.2.2.2.2.1) (by kernel_rfl) ?_
  try simp only [Act.put, List.setIfInBounds_toArray, List.set_cons_zero, List.set_cons_succ]
  refine grow_take 26 (some 261) ?_ rfl rfl (by kernel_rfl) (fun _ _ _ h => h) (by kernel_rfl) hCalm ?_ ?_
  rotate_left
  · intro wS hS; (try dsimp only at hS); go_simp <;> with_reducible rfl
  try simp only [Act.put, List.setIfInBounds_toArray, List.set_cons_zero, List.set_cons_succ]
  refine grow_take 27 (some 262) ?_ rfl rfl (by kernel_rfl) (fun _ _ _ h => h) (by kernel_rfl) hCalm ?_ ?_
  rotate_left
  · intro wS hS; (try dsimp only at hS); go_simp <;> with_reducible rfl
  try simp only [Act.put, List.setIfInBounds_toArray, List.set_cons_zero, List.set_cons_succ]
  refine grow_call 28 (some 263) (.agg #[.int .i64 (4095 - py), .int .i64 px]) 39 [.tmp 262] #[29] rfl rfl (by kernel_rfl) (fun _ _ _ h => h) (by kernel_rfl) hCalm rfl (enters_of Try.func39 (by kernel_rfl) rfl) (fun wz _ => lturned_any px py wz HOP.out) (by kernel_rfl) ?_
  try simp only [Act.put, List.setIfInBounds_toArray, List.set_cons_zero, List.set_cons_succ]
  refine grow_take 29 (some 264) ?_ rfl rfl (by kernel_rfl) (fun _ _ _ h => h) (by kernel_rfl) hCalm ?_ ?_
  rotate_left
  · intro wS hS; (try dsimp only at hS); go_simp <;> with_reducible rfl
  try simp only [Act.put, List.setIfInBounds_toArray, List.set_cons_zero, List.set_cons_succ]
  refine grow_call 30 (some 265) (.bool bw) 31 [.tmp 261, .tmp 263, .tmp 264] #[27, 29, 3] rfl rfl (by kernel_rfl) (fun _ _ _ h => h) (by kernel_rfl) hCalm rfl (enters_of Try.func31 (by kernel_rfl) rfl) (fun wz hS => HW2.out wz hS.2.2.2.2.2.2.2.2.2.2.2.2.2.2.2.2.2) (by kernel_rfl) ?_
  try simp only [Act.put, List.setIfInBounds_toArray, List.set_cons_zero, List.set_cons_succ]
  refine grow_take 31 (some 266) ?_ rfl rfl (by kernel_rfl) (fun _ _ _ h => h) (by kernel_rfl) hCalm ?_ ?_
  rotate_left
  · intro wS hS; (try dsimp only at hS); go_simp <;> with_reducible rfl
  try simp only [Act.put, List.setIfInBounds_toArray, List.set_cons_zero, List.set_cons_succ]
  refine grow_take 32 (some 267) ?_ rfl rfl (by kernel_rfl) (fun _ _ _ h => h) (by kernel_rfl) hCalm ?_ ?_
  rotate_left
  · intro wS hS; (try dsimp only at hS); go_simp <;> with_reducible rfl
  try simp only [Act.put, List.setIfInBounds_toArray, List.set_cons_zero, List.set_cons_succ]
  refine grow_take 33 (some 12) ?_ rfl rfl (by kernel_rfl) (fun _ _ _ h => h) (by kernel_rfl) hCalm ?_ ?_
  rotate_left
  · intro wS hS; (try dsimp only at hS); go_simp <;> with_reducible rfl
  try simp only [Act.put, List.setIfInBounds_toArray, List.set_cons_zero, List.set_cons_succ]
  refine grow_done (by kernel_rfl) (fun wA hA => ?_) _
  go_wp2_with fail
  go_ret
  exact ⟨by first | rfl | simp, HB_24.out.trans (hA.1.mono HB_24.out.size)⟩
end Go.Proofs.Ytamogfcedkjmcaa
