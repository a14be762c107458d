
/- The walk of StrokeBox. Conditions: the slice reads. -/
import Derived.Test.YtamogfcedkjmcaaLm5
import Derived.Test.YtamogfcedkjmcaaGs5
namespace Go.Proofs.Ytamogfcedkjmcaa
open Go.RowKit Go.Lib Go.Shelf

/-- A side is touched by one of the first i. -/
def Side (f : Dt → Int) (v : Int) (ds : List Dt) (i : Nat) (s : Bool) : Prop := s = true ↔ ∃ (j : Nat) (d : Dt), j < i ∧ ds[j]? = some d ∧ f d = v
theorem Side.zero (f : Dt → Int) (v : Int) (ds : List Dt) : Side f v ds 0 false := ⟨fun h => (by cases h), fun ⟨_, _, h, _⟩ => absurd h (by omega)⟩
theorem Side.step {f : Dt → Int} {v : Int} {ds : List Dt} {i : Nat} {s t : Bool} {d : Dt} (h : Side f v ds i s) (hd : ds[i]? = some d) (ht : t = true ↔ s = true ∨ f d = v) : Side f v ds (i + 1) t := by
  unfold Side at *
  rw [ht, h]
  constructor
  · rintro (⟨j, e, h1, h2, h3⟩ | h1)
    · exact ⟨j, e, by omega, h2, h3⟩
    · exact ⟨i, d, by omega, hd, h1⟩
  · rintro ⟨j, e, h1, h2, h3⟩
    by_cases hji : j = i
    · subst hji
      rw [hd, Option.some.injEq] at h2
      subst h2
      exact .inr h3
    · exact .inl ⟨j, e, by omega, h2, h3⟩
theorem Side.all {f : Dt → Int} {v : Int} {ds : List Dt} {s : Bool} (h : Side f v ds ds.length s) (he : ∃ d ∈ ds, f d = v) : s = true := by
  obtain ⟨d, hd, he⟩ := he
  obtain ⟨j, hj, rfl⟩ := List.getElem_of_mem hd
  exact h.2 ⟨j, _, hj, List.getElem?_eq_getElem hj, he⟩
theorem within_self {P N : Int} {ds : List Dt} {i : Nat} {d : Dt} {z : Int} (hv : Vd P N ds) (hd : ds[i]? = some d) (hz : 0 ≤ z ∧ z ≤ 1000) : WithinP P N ds d.x d.y z := by
  have hi := (List.getElem?_eq_some_iff.1 hd).1
  have hm : min (i + 1) (ds.length - 1) < ds.length := by omega
  refine ⟨hv, i, hi, d, ds[min (i + 1) (ds.length - 1)], hd, List.getElem?_eq_getElem hm, ?_⟩
  have h1 := (hv.mem d (List.mem_of_getElem? hd)).1
  have h2 := (hv.mem _ (List.getElem_mem hm)).1
  exact nearP_left h1 h2 hz
set_option maxRecDepth 100000 in
set_option maxHeartbeats 16000000 in
theorem box_law (p0 q0 n0 n1 t : Int) (A0 : Option Addr) (n c : Nat) (w : World) (hA : Tz w A0 n) (hz : n ≤ 9223372036854775807) (hp0 : (-9223372036854775808 ≤ p0 ∧ p0 ≤ 9223372036854775807)) (hq0 : (-9223372036854775808 ≤ q0 ∧ q0 ≤ 9223372036854775807)) (hn0 : (-9223372036854775808 ≤ n0 ∧ n0 ≤ 9223372036854775807)) (hn1 : (-9223372036854775808 ≤ n1 ∧ n1 ≤ 9223372036854775807)) (ht : (-9223372036854775808 ≤ t ∧ t ≤ 9223372036854775807)) :
    Calls Try.prog 9 #[.int .i64 p0, .int .i64 q0, .slice A0 n c, .agg #[.int .i64 n0, .int .i64 n1], .int .i64 t] w fun e w' => e = .returned (.bool true) ∧ Below w.heap.size w w' := by
  obtain ⟨z, hz_, Hz⟩ := lpick_one t 1001 ht (by omega)
  have hzz : 0 ≤ z ∧ z ≤ 1000 := by omega
  have HZZ := Lib.hid hzz; have hz0 := Lib.hid Hz; clear hzz hz_ Hz ht
  have X_0 : Hid (Blk (w.alloc (.cells #[.int .i64 n0, .int .i64 n1] 31)) w.heap.size 31 #[.int .i64 n0, .int .i64 n1]) := allocs_blk [(#[.int .i64 n0, .int .i64 n1], 31)] w 0 _ rfl
  have HB_0 : Hid (Below w.heap.size w (w.alloc (.cells #[.int .i64 n0, .int .i64 n1] 31))) := allocs_below [(#[.int .i64 n0, .int .i64 n1], 31)] w (Below.refl w.heap.size w) (Nat.le_refl _)
  have TZ_0 : Hid (Tz (w.alloc (.cells #[.int .i64 n0, .int .i64 n1] 31)) A0 n) := Lib.hid (hA.below HB_0.out (Nat.le_refl _))
  clear hA
  go_enter Try.func9, Try.ntmps9
  go_wp2_with fail
  refine (sane_any _).mono ?_
  rintro e v0 ⟨rfl, hb⟩
  have TZ_1 : Hid (Tz v0 A0 n) := Lib.hid (TZ_0.out.below hb (Nat.le_refl _))
  clear TZ_0
  have X_1 : Hid (Blk v0 w.heap.size 31 #[.int .i64 n0, .int .i64 n1]) := Lib.hid (X_0.out.below hb X_0.out.lt)
  have HB_1 : Hid (Below w.heap.size w v0) := Lib.hid (HB_0.out.trans (hb.mono HB_0.out.size))
  clear hb X_0 HB_0
  go_wp2_with fail
  refine (lmade_any p0 q0 A0 n c _ TZ_1.out hz hp0 hq0).mono ?_
  rintro e v1 ⟨P, N, ds, A10, k1, rfl, hvd, hl24, hdz, hk1, -, hb⟩
  have HVD := Lib.hid hvd
  have hzl : ds.length ≤ 24 := by omega
  have HZL := Lib.hid hzl
  obtain ⟨b, o, rfl⟩ := hdz.some (by have := hvd.2.2.1; omega)
  clear hvd hl24 hzl hk1
  have DS_1 := Lib.hid hdz
  have TZ_2 : Hid (Tz (v1.alloc (.cells #[.int .i64 P, .int .i64 N, .slice (some ⟨b, o, none⟩) ds.length k1] 27)) A0 n) := Lib.hid (TZ_1.out.below (allocs_below [(#[.int .i64 P, .int .i64 N, .slice (some ⟨b, o, none⟩) ds.length k1], 27)] _ hb hb.size) (Nat.le_refl _))
  have DS_2 : Hid (Dz (v1.alloc (.cells #[.int .i64 P, .int .i64 N, .slice (some ⟨b, o, none⟩) ds.length k1] 27)) (some ⟨b, o, none⟩) ds) := Lib.hid (DS_1.out.below (allocs_below [(#[.int .i64 P, .int .i64 N, .slice (some ⟨b, o, none⟩) ds.length k1], 27)] _ (Below.refl _ _) (Nat.le_refl _)) (Nat.le_refl _))
  clear TZ_1 DS_1
  have X_2 : Hid (Blk (v1.alloc (.cells #[.int .i64 P, .int .i64 N, .slice (some ⟨b, o, none⟩) ds.length k1] 27)) w.heap.size 31 #[.int .i64 n0, .int .i64 n1]) := Lib.hid (allocs_keep [(#[.int .i64 P, .int .i64 N, .slice (some ⟨b, o, none⟩) ds.length k1], 27)] _ (X_1.out.below hb X_1.out.lt))
  have HB_2 : Hid (Below w.heap.size w (v1.alloc (.cells #[.int .i64 P, .int .i64 N, .slice (some ⟨b, o, none⟩) ds.length k1] 27))) := Lib.hid (allocs_below [(#[.int .i64 P, .int .i64 N, .slice (some ⟨b, o, none⟩) ds.length k1], 27)] _ (HB_1.out.trans (hb.mono HB_1.out.size)) (HB_1.out.trans (hb.mono HB_1.out.size)).size)
  have S_2 : Hid (Blk (v1.alloc (.cells #[.int .i64 P, .int .i64 N, .slice (some ⟨b, o, none⟩) ds.length k1] 27)) v1.heap.size 27 #[.int .i64 P, .int .i64 N, .slice (some ⟨b, o, none⟩) ds.length k1]) := Lib.hid (allocs_blk [(#[.int .i64 P, .int .i64 N, .slice (some ⟨b, o, none⟩) ds.length k1], 27)] v1 0 _ rfl)
  clear hb X_1 HB_1
  have yy0 := X_2.out.cell (i := 0) (v := .int .i64 n0) rfl; have yy1 := X_2.out.cell (i := 1) (v := .int .i64 n1) rfl
  go_wp2_with fail
  refine (lmade_any n0 n1 A0 n c _ TZ_2.out hz hn0 hn1).mono ?_
  rintro e v2 ⟨P2, N2, es, A20, k2, rfl, hvd, hl24, hdz, hk1, -, hb⟩
  have HVD2 := Lib.hid hvd
  have hzl : es.length ≤ 24 := by omega
  have HZL2 := Lib.hid hzl
  obtain ⟨b2, o2, rfl⟩ := hdz.some (by have := hvd.2.2.1; omega)
  clear hvd hl24 hzl hk1
  clear yy0 yy1
  have DT_2 := Lib.hid hdz
  have TZ_3 : Hid (Tz (v2.alloc (.cells #[.int .i64 P2, .int .i64 N2, .slice (some ⟨b2, o2, none⟩) es.length k2] 27)) A0 n) := Lib.hid (TZ_2.out.below (allocs_below [(#[.int .i64 P2, .int .i64 N2, .slice (some ⟨b2, o2, none⟩) es.length k2], 27)] _ hb hb.size) (Nat.le_refl _))
  have DS_3 : Hid (Dz (v2.alloc (.cells #[.int .i64 P2, .int .i64 N2, .slice (some ⟨b2, o2, none⟩) es.length k2] 27)) (some ⟨b, o, none⟩) ds) := Lib.hid (DS_2.out.below (allocs_below [(#[.int .i64 P2, .int .i64 N2, .slice (some ⟨b2, o2, none⟩) es.length k2], 27)] _ hb hb.size) (Nat.le_refl _))
  have DT_3 : Hid (Dz (v2.alloc (.cells #[.int .i64 P2, .int .i64 N2, .slice (some ⟨b2, o2, none⟩) es.length k2] 27)) (some ⟨b2, o2, none⟩) es) := Lib.hid (DT_2.out.below (allocs_below [(#[.int .i64 P2, .int .i64 N2, .slice (some ⟨b2, o2, none⟩) es.length k2], 27)] _ (Below.refl _ _) (Nat.le_refl _)) (Nat.le_refl _))
  clear TZ_2 DS_2 DT_2
  have X_3 : Hid (Blk (v2.alloc (.cells #[.int .i64 P2, .int .i64 N2, .slice (some ⟨b2, o2, none⟩) es.length k2] 27)) w.heap.size 31 #[.int .i64 n0, .int .i64 n1]) := Lib.hid (allocs_keep [(#[.int .i64 P2, .int .i64 N2, .slice (some ⟨b2, o2, none⟩) es.length k2], 27)] _ (X_2.out.below hb X_2.out.lt))
  have S_3 : Hid (Blk (v2.alloc (.cells #[.int .i64 P2, .int .i64 N2, .slice (some ⟨b2, o2, none⟩) es.length k2] 27)) v1.heap.size 27 #[.int .i64 P, .int .i64 N, .slice (some ⟨b, o, none⟩) ds.length k1]) := Lib.hid (allocs_keep [(#[.int .i64 P2, .int .i64 N2, .slice (some ⟨b2, o2, none⟩) es.length k2], 27)] _ (S_2.out.below hb S_2.out.lt))
  have HB_3 : Hid (Below w.heap.size w (v2.alloc (.cells #[.int .i64 P2, .int .i64 N2, .slice (some ⟨b2, o2, none⟩) es.length k2] 27))) := Lib.hid (allocs_below [(#[.int .i64 P2, .int .i64 N2, .slice (some ⟨b2, o2, none⟩) es.length k2], 27)] _ (HB_2.out.trans (hb.mono HB_2.out.size)) (HB_2.out.trans (hb.mono HB_2.out.size)).size)
  have T_3 : Hid (Blk (v2.alloc (.cells #[.int .i64 P2, .int .i64 N2, .slice (some ⟨b2, o2, none⟩) es.length k2] 27)) v2.heap.size 27 #[.int .i64 P2, .int .i64 N2, .slice (some ⟨b2, o2, none⟩) es.length k2]) := Lib.hid (allocs_blk [(#[.int .i64 P2, .int .i64 N2, .slice (some ⟨b2, o2, none⟩) es.length k2], 27)] v2 0 _ rfl)
  clear hb X_2 S_2 HB_2
  have yy0 := S_3.out.cell (i := 0) (v := .int .i64 P) rfl; have yy1 := S_3.out.cell (i := 1) (v := .int .i64 N) rfl; have yy2 := S_3.out.cell (i := 2) (v := .slice (some ⟨b, o, none⟩) ds.length k1) rfl
  go_wp2_with fail
  refine (pbox_yes P N ds (some ⟨b, o, none⟩) k1 _ DS_3.out (by have := HZL.out; omega) HVD.out).mono ?_
  rintro e v3 ⟨x, y, ww, hh, hbx, rfl, hb⟩
  have HBX := Lib.hid hbx; clear hbx
  clear yy0 yy1 yy2
  have TZ_4 : Hid (Tz (v3.alloc (.cells #[.int .i64 x, .int .i64 y, .int .i64 ww, .int .i64 hh] 40)) A0 n) := Lib.hid (TZ_3.out.below (allocs_below [(#[.int .i64 x, .int .i64 y, .int .i64 ww, .int .i64 hh], 40)] _ hb hb.size) (Nat.le_refl _))
  have DS_4 : Hid (Dz (v3.alloc (.cells #[.int .i64 x, .int .i64 y, .int .i64 ww, .int .i64 hh] 40)) (some ⟨b, o, none⟩) ds) := Lib.hid (DS_3.out.below (allocs_below [(#[.int .i64 x, .int .i64 y, .int .i64 ww, .int .i64 hh], 40)] _ hb hb.size) (Nat.le_refl _))
  have DT_4 : Hid (Dz (v3.alloc (.cells #[.int .i64 x, .int .i64 y, .int .i64 ww, .int .i64 hh] 40)) (some ⟨b2, o2, none⟩) es) := Lib.hid (DT_3.out.below (allocs_below [(#[.int .i64 x, .int .i64 y, .int .i64 ww, .int .i64 hh], 40)] _ hb hb.size) (Nat.le_refl _))
  clear TZ_3 DS_3 DT_3
  have X_4 : Hid (Blk (v3.alloc (.cells #[.int .i64 x, .int .i64 y, .int .i64 ww, .int .i64 hh] 40)) w.heap.size 31 #[.int .i64 n0, .int .i64 n1]) := Lib.hid (allocs_keep [(#[.int .i64 x, .int .i64 y, .int .i64 ww, .int .i64 hh], 40)] _ (X_3.out.below hb X_3.out.lt))
  have S_4 : Hid (Blk (v3.alloc (.cells #[.int .i64 x, .int .i64 y, .int .i64 ww, .int .i64 hh] 40)) v1.heap.size 27 #[.int .i64 P, .int .i64 N, .slice (some ⟨b, o, none⟩) ds.length k1]) := Lib.hid (allocs_keep [(#[.int .i64 x, .int .i64 y, .int .i64 ww, .int .i64 hh], 40)] _ (S_3.out.below hb S_3.out.lt))
  have T_4 : Hid (Blk (v3.alloc (.cells #[.int .i64 x, .int .i64 y, .int .i64 ww, .int .i64 hh] 40)) v2.heap.size 27 #[.int .i64 P2, .int .i64 N2, .slice (some ⟨b2, o2, none⟩) es.length k2]) := Lib.hid (allocs_keep [(#[.int .i64 x, .int .i64 y, .int .i64 ww, .int .i64 hh], 40)] _ (T_3.out.below hb T_3.out.lt))
  have HB_4 : Hid (Below w.heap.size w (v3.alloc (.cells #[.int .i64 x, .int .i64 y, .int .i64 ww, .int .i64 hh] 40))) := Lib.hid (allocs_below [(#[.int .i64 x, .int .i64 y, .int .i64 ww, .int .i64 hh], 40)] _ (HB_3.out.trans (hb.mono HB_3.out.size)) (HB_3.out.trans (hb.mono HB_3.out.size)).size)
  have R_4 : Hid (Blk (v3.alloc (.cells #[.int .i64 x, .int .i64 y, .int .i64 ww, .int .i64 hh] 40)) v3.heap.size 40 #[.int .i64 x, .int .i64 y, .int .i64 ww, .int .i64 hh]) := Lib.hid (allocs_blk [(#[.int .i64 x, .int .i64 y, .int .i64 ww, .int .i64 hh], 40)] v3 0 _ rfl)
  clear hb X_3 S_3 T_3 HB_3
  have yy0 := S_4.out.cell (i := 0) (v := .int .i64 P) rfl; have yy1 := S_4.out.cell (i := 1) (v := .int .i64 N) rfl; have yy2 := S_4.out.cell (i := 2) (v := .slice (some ⟨b, o, none⟩) ds.length k1) rfl
  go_wp2_with fail
  refine (pway_yes P N ds (some ⟨b, o, none⟩) k1 _ DS_4.out (by have := HZL.out; omega) HVD.out).mono ?_
  rintro e v4 ⟨rfl, hb⟩
  clear yy0 yy1 yy2
  have TZ_5 : Hid (Tz v4 A0 n) := Lib.hid (TZ_4.out.below hb (Nat.le_refl _))
  have DS_5 : Hid (Dz v4 (some ⟨b, o, none⟩) ds) := Lib.hid (DS_4.out.below hb (Nat.le_refl _))
  have DT_5 : Hid (Dz v4 (some ⟨b2, o2, none⟩) es) := Lib.hid (DT_4.out.below hb (Nat.le_refl _))
  clear TZ_4 DS_4 DT_4
  have X_5 : Hid (Blk v4 w.heap.size 31 #[.int .i64 n0, .int .i64 n1]) := Lib.hid (X_4.out.below hb X_4.out.lt)
  have S_5 : Hid (Blk v4 v1.heap.size 27 #[.int .i64 P, .int .i64 N, .slice (some ⟨b, o, none⟩) ds.length k1]) := Lib.hid (S_4.out.below hb S_4.out.lt)
  have T_5 : Hid (Blk v4 v2.heap.size 27 #[.int .i64 P2, .int .i64 N2, .slice (some ⟨b2, o2, none⟩) es.length k2]) := Lib.hid (T_4.out.below hb T_4.out.lt)
  have R_5 : Hid (Blk v4 v3.heap.size 40 #[.int .i64 x, .int .i64 y, .int .i64 ww, .int .i64 hh]) := Lib.hid (R_4.out.below hb R_4.out.lt)
  have HB_5 : Hid (Below w.heap.size w v4) := Lib.hid (HB_4.out.trans (hb.mono HB_4.out.size))
  clear hb X_4 S_4 T_4 R_4 HB_4
  have hon := box_on HVD.out HBX.out
  obtain ⟨mx, hmx⟩ : ∃ q, (if ww < hh then hh else ww) = q := ⟨_, rfl⟩
  have hnl : ¬ (wayL ds < mx) := by have h1 := way_sides HVD.out HBX.out; rw [← hmx]; split <;> omega
  have hex : IntKind.i64.wrap (x + ww) = x + ww := IntWalk.i64_in _ (by omega)
  have hey : IntKind.i64.wrap (y + hh) = y + hh := IntWalk.i64_in _ (by omega)
  have HEX := Lib.hid hex; have HEY := Lib.hid hey; clear hon hex hey
  have yy0 := R_5.out.cell (i := 0) (v := .int .i64 x) rfl; have yy1 := R_5.out.cell (i := 1) (v := .int .i64 y) rfl; have yy2 := R_5.out.cell (i := 2) (v := .int .i64 ww) rfl; have yy3 := R_5.out.cell (i := 3) (v := .int .i64 hh) rfl
  have yy4 := S_5.out.cell (i := 2) (v := .slice (some ⟨b, o, none⟩) ds.length k1) rfl
  go_wp2_with fail
  clear yy0 yy1 yy2 yy3 yy4
  clear hnl hmx
  go_loopw [19] (fun ii wr => ∃ (i : Nat) (s0 s1 s2 s3 : Bool), ii = .int .i64 i ∧ i ≤ ds.length ∧ (Side Dt.x x ds i s0 ∧ Side Dt.x (x + ww) ds i s1 ∧ Side Dt.y y ds i s2 ∧ Side Dt.y (y + hh) ds i s3) ∧ Below v4.heap.size v4 wr ∧ Blk wr v4.heap.size 69 #[.bool s0, .bool s1, .bool s2, .bool s3]) (fun ii _ => ds.length - (intOf ii).toNat)
  case atStart => exact ⟨0, _, _, _, _, rfl, Nat.zero_le _, ⟨Side.zero _ _ _, Side.zero _ _ _, Side.zero _ _ _, Side.zero _ _ _⟩, (Below.refl _ _).alloc (Nat.le_refl _) _, Blk.new _ _ _⟩
  case round =>
    obtain ⟨i, s0, s1, s2, s3, rfl, hi, hinv, hB, hV⟩ := hrel
    have HU := Lib.hid hB; have HV := Lib.hid hV; have HINV := Lib.hid hinv; clear hB hV hinv
    by_cases hlt : i < ds.length
    case neg =>
      obtain rfl : i = ds.length := by omega
      obtain rfl := HINV.out.1.all HBX.out.2.1; obtain rfl := HINV.out.2.1.all HBX.out.2.2.1; obtain rfl := HINV.out.2.2.1.all HBX.out.2.2.2.1; obtain rfl := HINV.out.2.2.2.all HBX.out.2.2.2.2
      have hni : ¬ ((ds.length : Int) < (ds.length : Int)) := by omega
      have yc0 := (S_5.out.below HU.out S_5.out.lt).cell (i := 2) (v := .slice (some ⟨b, o, none⟩) ds.length k1) rfl
      go_wp2_with fail
      clear yc0
      clear hni hlt hi HINV
      have hpn := HVD.out; have hpn2 := HVD2.out
      have HN := Lib.hid (And.intro hpn.2.1 hpn2.2.1); clear hpn hpn2
      by_cases hP : P = P2
      case neg =>
        have hC : ¬ (1000 * P + N = 1000 * P2 + N2) := by have := HN.out; omega
        have hCd := decide_eq_false hC; have hPd := decide_eq_false hP
        refine wp_region_grow (S := (fun w' => w'.cell? ⟨v4.heap.size, 0, none⟩ = some (.bool true) ∧ w'.cell? ⟨v4.heap.size, 1, none⟩ = some (.bool true) ∧ w'.cell? ⟨v4.heap.size, 2, none⟩ = some (.bool true) ∧ w'.cell? ⟨v4.heap.size, 3, none⟩ = some (.bool true) ∧ w'.cell? ⟨v1.heap.size, 0, none⟩ = some (.int .i64 P) ∧ w'.cell? ⟨v1.heap.size, 1, none⟩ = some (.int .i64 N) ∧ w'.cell? ⟨v1.heap.size, 2, none⟩ = some (.slice (some ⟨b, o, none⟩) ds.length k1) ∧ w'.cell? ⟨v2.heap.size, 0, none⟩ = some (.int .i64 P2) ∧ w'.cell? ⟨v2.heap.size, 1, none⟩ = some (.int .i64 N2) ∧ w'.cell? ⟨v2.heap.size, 2, none⟩ = some (.slice (some ⟨b2, o2, none⟩) es.length k2) ∧ Dz w' (some ⟨b, o, none⟩) ds ∧ Dz w' (some ⟨b2, o2, none⟩) es)) ((fun w' => Below v4.heap.size v4 w' ∧ Blk w' v4.heap.size 69 #[.bool true, .bool true, .bool true, .bool true])) (by kernel_rfl) (⟨fun w2 h2 => ⟨(h2.2.cell (i := 0) rfl), (h2.2.cell (i := 1) rfl), (h2.2.cell (i := 2) rfl), (h2.2.cell (i := 3) rfl), ((S_5.out.below h2.1 S_5.out.lt).cell (i := 0) rfl), ((S_5.out.below h2.1 S_5.out.lt).cell (i := 1) rfl), ((S_5.out.below h2.1 S_5.out.lt).cell (i := 2) rfl), ((T_5.out.below h2.1 T_5.out.lt).cell (i := 0) rfl), ((T_5.out.below h2.1 T_5.out.lt).cell (i := 1) rfl), ((T_5.out.below h2.1 T_5.out.lt).cell (i := 2) rfl), (DS_5.out.below h2.1 (Nat.le_refl _)), (DT_5.out.below h2.1 (Nat.le_refl _))⟩, fun w2 w3 h2 hb2 => ⟨h2.1.trans (hb2.mono h2.1.size), h2.2.below hb2 h2.2.lt⟩⟩) (⟨HU.out.drew, HV.out.drew⟩) (fun hCalm => ?_)
        refine grow_take 0 (some 161) ?_ rfl rfl (by kernel_rfl) (fun _ _ _ h => h) (by kernel_rfl) hCalm ?_ ?_
        rotate_left
        · intro wS hS; (try dsimp only at hS); go_simp <;> with_reducible rfl
        try simp only [Act.put, List.setIfInBounds_toArray, List.set_cons_zero, List.set_cons_succ]
        refine grow_take 1 (some 162) ?_ rfl rfl (by kernel_rfl) (fun _ _ _ h => h) (by kernel_rfl) hCalm ?_ ?_
        rotate_left
        · intro wS hS; (try dsimp only at hS); go_simp <;> with_reducible rfl
        try simp only [Act.put, List.setIfInBounds_toArray, List.set_cons_zero, List.set_cons_succ]
        refine grow_take 2 (some 163) ?_ rfl rfl (by kernel_rfl) (fun _ _ _ h => h) (by kernel_rfl) hCalm ?_ ?_
        rotate_left
        · intro wS hS; (try dsimp only at hS); go_simp <;> with_reducible rfl
        try simp only [Act.put, List.setIfInBounds_toArray, List.set_cons_zero, List.set_cons_succ]
        refine grow_take 3 (some 164) ?_ rfl rfl (by kernel_rfl) (fun _ _ _ h => h) (by kernel_rfl) hCalm ?_ ?_
        rotate_left
        · intro wS hS; (try dsimp only at hS); go_simp <;> with_reducible rfl
        try simp only [Act.put, List.setIfInBounds_toArray, List.set_cons_zero, List.set_cons_succ]
        refine grow_take 4 (some 165) ?_ rfl rfl (by kernel_rfl) (fun _ _ _ h => h) (by kernel_rfl) hCalm ?_ ?_
        rotate_left
        · intro wS hS; (try dsimp only at hS); go_simp <;> with_reducible rfl
        try simp only [Act.put, List.setIfInBounds_toArray, List.set_cons_zero, List.set_cons_succ]
        refine grow_take 5 (some 166) ?_ rfl rfl (by kernel_rfl) (fun _ _ _ h => h) (by kernel_rfl) hCalm ?_ ?_
        rotate_left
        · intro wS hS; (try dsimp only at hS); go_simp <;> with_reducible rfl
        try simp only [Act.put, List.setIfInBounds_toArray, List.set_cons_zero, List.set_cons_succ]
        refine grow_take 6 (some 167) ?_ rfl rfl (by kernel_rfl) (fun _ _ _ h => h) (by kernel_rfl) hCalm ?_ ?_
        rotate_left
        · intro wS hS; (try dsimp only at hS); go_simp <;> with_reducible rfl
        try simp only [Act.put, List.setIfInBounds_toArray, List.set_cons_zero, List.set_cons_succ]
        refine grow_take 7 (some 168) ?_ rfl rfl (by kernel_rfl) (fun _ _ _ h => h) (by kernel_rfl) hCalm ?_ ?_
        rotate_left
        · intro wS hS; (try dsimp only at hS); go_simp <;> with_reducible rfl
        try simp only [Act.put, List.setIfInBounds_toArray, List.set_cons_zero, List.set_cons_succ]
        refine grow_take 8 (some 169) ?_ rfl rfl (by kernel_rfl) (fun _ _ _ h => h) (by kernel_rfl) hCalm ?_ ?_
        rotate_left
        · intro wS hS; (try dsimp only at hS); go_simp <;> with_reducible rfl
        try simp only [Act.put, List.setIfInBounds_toArray, List.set_cons_zero, List.set_cons_succ]
        refine grow_take 9 (some 170) ?_ rfl rfl (by kernel_rfl) (fun _ _ _ h => h) (by kernel_rfl) hCalm ?_ ?_
        rotate_left
        · intro wS hS; (try dsimp only at hS); go_simp <;> with_reducible rfl
        try simp only [Act.put, List.setIfInBounds_toArray, List.set_cons_zero, List.set_cons_succ]
        refine grow_take 10 (some 171) ?_ rfl rfl (by kernel_rfl) (fun _ _ _ h => h) (by kernel_rfl) hCalm ?_ ?_
        rotate_left
        · intro wS hS; (try dsimp only at hS); go_simp <;> with_reducible rfl
        try simp only [Act.put, List.setIfInBounds_toArray, List.set_cons_zero, List.set_cons_succ]
        refine grow_take 11 (some 172) ?_ rfl rfl (by kernel_rfl) (fun _ _ _ h => h) (by kernel_rfl) hCalm ?_ ?_
        rotate_left
        · intro wS hS; (try dsimp only at hS); go_simp <;> with_reducible rfl
        try simp only [Act.put, List.setIfInBounds_toArray, List.set_cons_zero, List.set_cons_succ]
        refine grow_take 12 (some 173) ?_ rfl rfl (by kernel_rfl) (fun _ _ _ h => h) (by kernel_rfl) hCalm ?_ ?_
        rotate_left
        · intro wS hS; (try dsimp only at hS); go_simp <;> with_reducible rfl
        try simp only [Act.put, List.setIfInBounds_toArray, List.set_cons_zero, List.set_cons_succ]
        refine grow_take 13 (some 174) ?_ rfl rfl (by kernel_rfl) (fun _ _ _ h => h) (by kernel_rfl) hCalm ?_ ?_
        rotate_left
        · intro wS hS; (try dsimp only at hS); go_simp <;> with_reducible rfl
        try simp only [Act.put, List.setIfInBounds_toArray, List.set_cons_zero, List.set_cons_succ]
        refine grow_take 14 (some 175) ?_ rfl rfl (by kernel_rfl) (fun _ _ _ h => h) (by kernel_rfl) hCalm ?_ ?_
        rotate_left
        · intro wS hS; (try dsimp only at hS); go_simp <;> with_reducible rfl
        try simp only [Act.put, List.setIfInBounds_toArray, List.set_cons_zero, List.set_cons_succ]
        refine grow_take 15 (some 176) ?_ rfl rfl (by kernel_rfl) (fun _ _ _ h => h) (by kernel_rfl) hCalm ?_ ?_
        rotate_left
        · intro wS hS; (try dsimp only at hS); go_simp <;> with_reducible rfl
        try simp only [Act.put, List.setIfInBounds_toArray, List.set_cons_zero, List.set_cons_succ]
        refine grow_take 16 (some 177) ?_ rfl rfl (by kernel_rfl) (fun _ _ _ h => h) (by kernel_rfl) hCalm ?_ ?_
        rotate_left
        · intro wS hS; (try dsimp only at hS); go_simp <;> with_reducible rfl
        try simp only [Act.put, List.setIfInBounds_toArray, List.set_cons_zero, List.set_cons_succ]
        refine grow_take 17 (some 178) ?_ rfl rfl (by kernel_rfl) (fun _ _ _ h => h) (by kernel_rfl) hCalm ?_ ?_
        rotate_left
        · intro wS hS; (try dsimp only at hS); go_simp <;> with_reducible rfl
        try simp only [Act.put, List.setIfInBounds_toArray, List.set_cons_zero, List.set_cons_succ]
        refine grow_take 18 (some 179) ?_ rfl rfl (by kernel_rfl) (fun _ _ _ h => h) (by kernel_rfl) hCalm ?_ ?_
        rotate_left
        · intro wS hS; (try dsimp only at hS); go_simp <;> with_reducible rfl
        try simp only [Act.put, List.setIfInBounds_toArray, List.set_cons_zero, List.set_cons_succ]
        refine grow_take 20 (some 181) ?_ rfl rfl (by kernel_rfl) (fun _ _ _ h => h) (by kernel_rfl) hCalm ?_ ?_
        rotate_left
        · intro wS hS; (try dsimp only at hS); go_simp <;> with_reducible rfl
        try simp only [Act.put, List.setIfInBounds_toArray, List.set_cons_zero, List.set_cons_succ]
        refine grow_take 23 (some 184) ?_ rfl rfl (by kernel_rfl) (fun _ _ _ h => h) (by kernel_rfl) hCalm ?_ ?_
        rotate_left
        · intro wS hS; (try dsimp only at hS); go_simp <;> with_reducible rfl
        try simp only [Act.put, List.setIfInBounds_toArray, List.set_cons_zero, List.set_cons_succ]
        refine grow_take 24 (some 185) ?_ rfl rfl (by kernel_rfl) (fun _ _ _ h => h) (by kernel_rfl) hCalm ?_ ?_
        rotate_left
        · intro wS hS; (try dsimp only at hS); go_simp <;> with_reducible rfl
        try simp only [Act.put, List.setIfInBounds_toArray, List.set_cons_zero, List.set_cons_succ]
        refine grow_take 25 (some 186) ?_ rfl rfl (by kernel_rfl) (fun _ _ _ h => h) (by kernel_rfl) hCalm ?_ ?_
        rotate_left
        · intro wS hS; (try dsimp only at hS); go_simp <;> with_reducible rfl
        try simp only [Act.put, List.setIfInBounds_toArray, List.set_cons_zero, List.set_cons_succ]
        refine grow_take 26 (some 187) ?_ rfl rfl (by kernel_rfl) (fun _ _ _ h => h) (by kernel_rfl) hCalm ?_ ?_
        rotate_left
        · intro wS hS; (try dsimp only at hS); go_simp <;> with_reducible rfl
        try simp only [Act.put, List.setIfInBounds_toArray, List.set_cons_zero, List.set_cons_succ]
        refine grow_take 27 (some 188) (.bool false) rfl rfl (by kernel_rfl) (fun _ _ _ h => h) (by kernel_rfl) hCalm ?_ ?_
        · intro wS hS; (try dsimp only at hS); go_simp
        try simp only [Act.put, List.setIfInBounds_toArray, List.set_cons_zero, List.set_cons_succ]
        refine grow_call 19 (some 180) (.int .i64 (1000 * P + N)) 22 [.tmp 179] #[27] rfl rfl (by kernel_rfl) (fun _ _ _ h => h) (by kernel_rfl) hCalm rfl (enters_of Try.func22 (by kernel_rfl) rfl) (fun wz hS => pcode_yes P N ds (some ⟨b, o, none⟩) k1 wz hS.2.2.2.2.2.2.2.2.2.2.1 (by have := HZL.out; omega) HVD.out) (by kernel_rfl) ?_
        try simp only [Act.put, List.setIfInBounds_toArray, List.set_cons_zero, List.set_cons_succ]
        refine grow_call 21 (some 182) (.int .i64 (1000 * P2 + N2)) 22 [.tmp 181] #[27] rfl rfl (by kernel_rfl) (fun _ _ _ h => h) (by kernel_rfl) hCalm rfl (enters_of Try.func22 (by kernel_rfl) rfl) (fun wz hS => pcode_yes P2 N2 es (some ⟨b2, o2, none⟩) k2 wz hS.2.2.2.2.2.2.2.2.2.2.2 (by have := HZL2.out; omega) HVD2.out) (by kernel_rfl) ?_
        try simp only [Act.put, List.setIfInBounds_toArray, List.set_cons_zero, List.set_cons_succ]
        refine grow_take 22 (some 183) (.bool false) rfl rfl (by kernel_rfl) (fun _ _ _ h => h) (by kernel_rfl) hCalm ?_ ?_
        · intro wS hS; (try dsimp only at hS); go_simp
        try simp only [Act.put, List.setIfInBounds_toArray, List.set_cons_zero, List.set_cons_succ]
        refine grow_take 28 (some 189) ?_ rfl rfl (by kernel_rfl) (fun _ _ _ h => h) (by kernel_rfl) hCalm ?_ ?_
        rotate_left
        · intro wS hS; (try dsimp only at hS); go_simp <;> with_reducible rfl
        try simp only [Act.put, List.setIfInBounds_toArray, List.set_cons_zero, List.set_cons_succ]
        refine grow_skip 29 (some 190) rfl rfl (by kernel_rfl) (fun _ _ _ h => h) (by kernel_rfl) hCalm ?_
        try simp only [Act.put, List.setIfInBounds_toArray, List.set_cons_zero, List.set_cons_succ]
        refine grow_skip 30 (some 191) rfl rfl (by kernel_rfl) (fun _ _ _ h => h) (by kernel_rfl) hCalm ?_
        try simp only [Act.put, List.setIfInBounds_toArray, List.set_cons_zero, List.set_cons_succ]
        refine grow_skip 31 (some 192) rfl rfl (by kernel_rfl) (fun _ _ _ h => h) (by kernel_rfl) hCalm ?_
        try simp only [Act.put, List.setIfInBounds_toArray, List.set_cons_zero, List.set_cons_succ]
        refine grow_skip 32 (some 193) rfl rfl (by kernel_rfl) (fun _ _ _ h => h) (by kernel_rfl) hCalm ?_
        try simp only [Act.put, List.setIfInBounds_toArray, List.set_cons_zero, List.set_cons_succ]
        refine grow_skip 33 (some 194) rfl rfl (by kernel_rfl) (fun _ _ _ h => h) (by kernel_rfl) hCalm ?_
        try simp only [Act.put, List.setIfInBounds_toArray, List.set_cons_zero, List.set_cons_succ]
        refine grow_take 34 (some 195) ?_ rfl rfl (by kernel_rfl) (fun _ _ _ h => h) (by kernel_rfl) hCalm ?_ ?_
        rotate_left
        · intro wS hS; (try dsimp only at hS); go_simp <;> with_reducible rfl
        try simp only [Act.put, List.setIfInBounds_toArray, List.set_cons_zero, List.set_cons_succ]
        refine grow_take 35 (some 196) ?_ rfl rfl (by kernel_rfl) (fun _ _ _ h => h) (by kernel_rfl) hCalm ?_ ?_
        rotate_left
        · intro wS hS; (try dsimp only at hS); go_simp <;> with_reducible rfl
        try simp only [Act.put, List.setIfInBounds_toArray, List.set_cons_zero, List.set_cons_succ]
        refine grow_take 36 (some 197) ?_ rfl rfl (by kernel_rfl) (fun _ _ _ h => h) (by kernel_rfl) hCalm ?_ ?_
        rotate_left
        · intro wS hS; (try dsimp only at hS); go_simp <;> with_reducible rfl
        try simp only [Act.put, List.setIfInBounds_toArray, List.set_cons_zero, List.set_cons_succ]
        refine grow_take 37 (some 10) ?_ rfl rfl (by kernel_rfl) (fun _ _ _ h => h) (by kernel_rfl) hCalm ?_ ?_
        rotate_left
        · intro wS hS; (try dsimp only at hS); go_simp <;> with_reducible rfl
        try simp only [Act.put, List.setIfInBounds_toArray, List.set_cons_zero, List.set_cons_succ]
        refine grow_done (by kernel_rfl) (fun wA hA => ?_) _
        go_wp2_with fail
        go_ret
        exact ⟨by first | rfl | simp, HB_5.out.trans (hA.1.mono HB_5.out.size)⟩
      case pos =>
        subst hP
        by_cases hN : N = N2
        case neg =>
          have hC : ¬ (1000 * P + N = 1000 * P + N2) := by omega
          have hCd := decide_eq_false hC; have hNd := decide_eq_false hN
          refine wp_region_grow (S := (fun w' => w'.cell? ⟨v4.heap.size, 0, none⟩ = some (.bool true) ∧ w'.cell? ⟨v4.heap.size, 1, none⟩ = some (.bool true) ∧ w'.cell? ⟨v4.heap.size, 2, none⟩ = some (.bool true) ∧ w'.cell? ⟨v4.heap.size, 3, none⟩ = some (.bool true) ∧ w'.cell? ⟨v1.heap.size, 0, none⟩ = some (.int .i64 P) ∧ w'.cell? ⟨v1.heap.size, 1, none⟩ = some (.int .i64 N) ∧ w'.cell? ⟨v1.heap.size, 2, none⟩ = some (.slice (some ⟨b, o, none⟩) ds.length k1) ∧ w'.cell? ⟨v2.heap.size, 0, none⟩ = some (.int .i64 P) ∧ w'.cell? ⟨v2.heap.size, 1, none⟩ = some (.int .i64 N2) ∧ w'.cell? ⟨v2.heap.size, 2, none⟩ = some (.slice (some ⟨b2, o2, none⟩) es.length k2) ∧ Dz w' (some ⟨b, o, none⟩) ds ∧ Dz w' (some ⟨b2, o2, none⟩) es)) ((fun w' => Below v4.heap.size v4 w' ∧ Blk w' v4.heap.size 69 #[.bool true, .bool true, .bool true, .bool true])) (by kernel_rfl) (⟨fun w2 h2 => ⟨(h2.2.cell (i := 0) rfl), (h2.2.cell (i := 1) rfl), (h2.2.cell (i := 2) rfl), (h2.2.cell (i := 3) rfl), ((S_5.out.below h2.1 S_5.out.lt).cell (i := 0) rfl), ((S_5.out.below h2.1 S_5.out.lt).cell (i := 1) rfl), ((S_5.out.below h2.1 S_5.out.lt).cell (i := 2) rfl), ((T_5.out.below h2.1 T_5.out.lt).cell (i := 0) rfl), ((T_5.out.below h2.1 T_5.out.lt).cell (i := 1) rfl), ((T_5.out.below h2.1 T_5.out.lt).cell (i := 2) rfl), (DS_5.out.below h2.1 (Nat.le_refl _)), (DT_5.out.below h2.1 (Nat.le_refl _))⟩, fun w2 w3 h2 hb2 => ⟨h2.1.trans (hb2.mono h2.1.size), h2.2.below hb2 h2.2.lt⟩⟩) (⟨HU.out.drew, HV.out.drew⟩) (fun hCalm => ?_)
          refine grow_take 0 (some 161) ?_ rfl rfl (by kernel_rfl) (fun _ _ _ h => h) (by kernel_rfl) hCalm ?_ ?_
          rotate_left
          · intro wS hS; (try dsimp only at hS); go_simp <;> with_reducible rfl
          try simp only [Act.put, List.setIfInBounds_toArray, List.set_cons_zero, List.set_cons_succ]
          refine grow_take 1 (some 162) ?_ rfl rfl (by kernel_rfl) (fun _ _ _ h => h) (by kernel_rfl) hCalm ?_ ?_
          rotate_left
          · intro wS hS; (try dsimp only at hS); go_simp <;> with_reducible rfl
          try simp only [Act.put, List.setIfInBounds_toArray, List.set_cons_zero, List.set_cons_succ]
          refine grow_take 2 (some 163) ?_ rfl rfl (by kernel_rfl) (fun _ _ _ h => h) (by kernel_rfl) hCalm ?_ ?_
          rotate_left
          · intro wS hS; (try dsimp only at hS); go_simp <;> with_reducible rfl
          try simp only [Act.put, List.setIfInBounds_toArray, List.set_cons_zero, List.set_cons_succ]
          refine grow_take 3 (some 164) ?_ rfl rfl (by kernel_rfl) (fun _ _ _ h => h) (by kernel_rfl) hCalm ?_ ?_
          rotate_left
          · intro wS hS; (try dsimp only at hS); go_simp <;> with_reducible rfl
          try simp only [Act.put, List.setIfInBounds_toArray, List.set_cons_zero, List.set_cons_succ]
          refine grow_take 4 (some 165) ?_ rfl rfl (by kernel_rfl) (fun _ _ _ h => h) (by kernel_rfl) hCalm ?_ ?_
          rotate_left
          · intro wS hS; (try dsimp only at hS); go_simp <;> with_reducible rfl
          try simp only [Act.put, List.setIfInBounds_toArray, List.set_cons_zero, List.set_cons_succ]
          refine grow_take 5 (some 166) ?_ rfl rfl (by kernel_rfl) (fun _ _ _ h => h) (by kernel_rfl) hCalm ?_ ?_
          rotate_left
          · intro wS hS; (try dsimp only at hS); go_simp <;> with_reducible rfl
          try simp only [Act.put, List.setIfInBounds_toArray, List.set_cons_zero, List.set_cons_succ]
          refine grow_take 6 (some 167) ?_ rfl rfl (by kernel_rfl) (fun _ _ _ h => h) (by kernel_rfl) hCalm ?_ ?_
          rotate_left
          · intro wS hS; (try dsimp only at hS); go_simp <;> with_reducible rfl
          try simp only [Act.put, List.setIfInBounds_toArray, List.set_cons_zero, List.set_cons_succ]
          refine grow_take 7 (some 168) ?_ rfl rfl (by kernel_rfl) (fun _ _ _ h => h) (by kernel_rfl) hCalm ?_ ?_
          rotate_left
          · intro wS hS; (try dsimp only at hS); go_simp <;> with_reducible rfl
          try simp only [Act.put, List.setIfInBounds_toArray, List.set_cons_zero, List.set_cons_succ]
          refine grow_take 8 (some 169) ?_ rfl rfl (by kernel_rfl) (fun _ _ _ h => h) (by kernel_rfl) hCalm ?_ ?_
          rotate_left
          · intro wS hS; (try dsimp only at hS); go_simp <;> with_reducible rfl
          try simp only [Act.put, List.setIfInBounds_toArray, List.set_cons_zero, List.set_cons_succ]
          refine grow_take 9 (some 170) ?_ rfl rfl (by kernel_rfl) (fun _ _ _ h => h) (by kernel_rfl) hCalm ?_ ?_
          rotate_left
          · intro wS hS; (try dsimp only at hS); go_simp <;> with_reducible rfl
          try simp only [Act.put, List.setIfInBounds_toArray, List.set_cons_zero, List.set_cons_succ]
          refine grow_take 10 (some 171) ?_ rfl rfl (by kernel_rfl) (fun _ _ _ h => h) (by kernel_rfl) hCalm ?_ ?_
          rotate_left
          · intro wS hS; (try dsimp only at hS); go_simp <;> with_reducible rfl
          try simp only [Act.put, List.setIfInBounds_toArray, List.set_cons_zero, List.set_cons_succ]
          refine grow_take 11 (some 172) ?_ rfl rfl (by kernel_rfl) (fun _ _ _ h => h) (by kernel_rfl) hCalm ?_ ?_
          rotate_left
          · intro wS hS; (try dsimp only at hS); go_simp <;> with_reducible rfl
          try simp only [Act.put, List.setIfInBounds_toArray, List.set_cons_zero, List.set_cons_succ]
          refine grow_take 12 (some 173) ?_ rfl rfl (by kernel_rfl) (fun _ _ _ h => h) (by kernel_rfl) hCalm ?_ ?_
          rotate_left
          · intro wS hS; (try dsimp only at hS); go_simp <;> with_reducible rfl
          try simp only [Act.put, List.setIfInBounds_toArray, List.set_cons_zero, List.set_cons_succ]
          refine grow_take 13 (some 174) ?_ rfl rfl (by kernel_rfl) (fun _ _ _ h => h) (by kernel_rfl) hCalm ?_ ?_
          rotate_left
          · intro wS hS; (try dsimp only at hS); go_simp <;> with_reducible rfl
          try simp only [Act.put, List.setIfInBounds_toArray, List.set_cons_zero, List.set_cons_succ]
          refine grow_take 14 (some 175) ?_ rfl rfl (by kernel_rfl) (fun _ _ _ h => h) (by kernel_rfl) hCalm ?_ ?_
          rotate_left
          · intro wS hS; (try dsimp only at hS); go_simp <;> with_reducible rfl
          try simp only [Act.put, List.setIfInBounds_toArray, List.set_cons_zero, List.set_cons_succ]
          refine grow_take 15 (some 176) ?_ rfl rfl (by kernel_rfl) (fun _ _ _ h => h) (by kernel_rfl) hCalm ?_ ?_
          rotate_left
          · intro wS hS; (try dsimp only at hS); go_simp <;> with_reducible rfl
          try simp only [Act.put, List.setIfInBounds_toArray, List.set_cons_zero, List.set_cons_succ]
          refine grow_take 16 (some 177) ?_ rfl rfl (by kernel_rfl) (fun _ _ _ h => h) (by kernel_rfl) hCalm ?_ ?_
          rotate_left
          · intro wS hS; (try dsimp only at hS); go_simp <;> with_reducible rfl
          try simp only [Act.put, List.setIfInBounds_toArray, List.set_cons_zero, List.set_cons_succ]
          refine grow_take 17 (some 178) ?_ rfl rfl (by kernel_rfl) (fun _ _ _ h => h) (by kernel_rfl) hCalm ?_ ?_
          rotate_left
          · intro wS hS; (try dsimp only at hS); go_simp <;> with_reducible rfl
          try simp only [Act.put, List.setIfInBounds_toArray, List.set_cons_zero, List.set_cons_succ]
          refine grow_take 18 (some 179) ?_ rfl rfl (by kernel_rfl) (fun _ _ _ h => h) (by kernel_rfl) hCalm ?_ ?_
          rotate_left
          · intro wS hS; (try dsimp only at hS); go_simp <;> with_reducible rfl
          try simp only [Act.put, List.setIfInBounds_toArray, List.set_cons_zero, List.set_cons_succ]
          refine grow_take 20 (some 181) ?_ rfl rfl (by kernel_rfl) (fun _ _ _ h => h) (by kernel_rfl) hCalm ?_ ?_
          rotate_left
          · intro wS hS; (try dsimp only at hS); go_simp <;> with_reducible rfl
          try simp only [Act.put, List.setIfInBounds_toArray, List.set_cons_zero, List.set_cons_succ]
          refine grow_take 23 (some 184) ?_ rfl rfl (by kernel_rfl) (fun _ _ _ h => h) (by kernel_rfl) hCalm ?_ ?_
          rotate_left
          · intro wS hS; (try dsimp only at hS); go_simp <;> with_reducible rfl
          try simp only [Act.put, List.setIfInBounds_toArray, List.set_cons_zero, List.set_cons_succ]
          refine grow_take 24 (some 185) ?_ rfl rfl (by kernel_rfl) (fun _ _ _ h => h) (by kernel_rfl) hCalm ?_ ?_
          rotate_left
          · intro wS hS; (try dsimp only at hS); go_simp <;> with_reducible rfl
          try simp only [Act.put, List.setIfInBounds_toArray, List.set_cons_zero, List.set_cons_succ]
          refine grow_take 25 (some 186) ?_ rfl rfl (by kernel_rfl) (fun _ _ _ h => h) (by kernel_rfl) hCalm ?_ ?_
          rotate_left
          · intro wS hS; (try dsimp only at hS); go_simp <;> with_reducible rfl
          try simp only [Act.put, List.setIfInBounds_toArray, List.set_cons_zero, List.set_cons_succ]
          refine grow_take 26 (some 187) ?_ rfl rfl (by kernel_rfl) (fun _ _ _ h => h) (by kernel_rfl) hCalm ?_ ?_
          rotate_left
          · intro wS hS; (try dsimp only at hS); go_simp <;> with_reducible rfl
          try simp only [Act.put, List.setIfInBounds_toArray, List.set_cons_zero, List.set_cons_succ]
          refine grow_take 27 (some 188) (.bool true) rfl rfl (by kernel_rfl) (fun _ _ _ h => h) (by kernel_rfl) hCalm ?_ ?_
          · intro wS hS; (try dsimp only at hS); go_simp
          try simp only [Act.put, List.setIfInBounds_toArray, List.set_cons_zero, List.set_cons_succ]
          refine grow_call 19 (some 180) (.int .i64 (1000 * P + N)) 22 [.tmp 179] #[27] rfl rfl (by kernel_rfl) (fun _ _ _ h => h) (by kernel_rfl) hCalm rfl (enters_of Try.func22 (by kernel_rfl) rfl) (fun wz hS => pcode_yes P N ds (some ⟨b, o, none⟩) k1 wz hS.2.2.2.2.2.2.2.2.2.2.1 (by have := HZL.out; omega) HVD.out) (by kernel_rfl) ?_
          try simp only [Act.put, List.setIfInBounds_toArray, List.set_cons_zero, List.set_cons_succ]
          refine grow_call 21 (some 182) (.int .i64 (1000 * P + N2)) 22 [.tmp 181] #[27] rfl rfl (by kernel_rfl) (fun _ _ _ h => h) (by kernel_rfl) hCalm rfl (enters_of Try.func22 (by kernel_rfl) rfl) (fun wz hS => pcode_yes P N2 es (some ⟨b2, o2, none⟩) k2 wz hS.2.2.2.2.2.2.2.2.2.2.2 (by have := HZL2.out; omega) HVD2.out) (by kernel_rfl) ?_
          try simp only [Act.put, List.setIfInBounds_toArray, List.set_cons_zero, List.set_cons_succ]
          refine grow_take 22 (some 183) (.bool false) rfl rfl (by kernel_rfl) (fun _ _ _ h => h) (by kernel_rfl) hCalm ?_ ?_
          · intro wS hS; (try dsimp only at hS); go_simp
          try simp only [Act.put, List.setIfInBounds_toArray, List.set_cons_zero, List.set_cons_succ]
          refine grow_take 28 (some 189) ?_ rfl rfl (by kernel_rfl) (fun _ _ _ h => h) (by kernel_rfl) hCalm ?_ ?_
          rotate_left
          · intro wS hS; (try dsimp only at hS); go_simp <;> with_reducible rfl
          try simp only [Act.put, List.setIfInBounds_toArray, List.set_cons_zero, List.set_cons_succ]
          refine grow_take 29 (some 190) ?_ rfl rfl (by kernel_rfl) (fun _ _ _ h => h) (by kernel_rfl) hCalm ?_ ?_
          rotate_left
          · intro wS hS; (try dsimp only at hS); go_simp <;> with_reducible rfl
          try simp only [Act.put, List.setIfInBounds_toArray, List.set_cons_zero, List.set_cons_succ]
          refine grow_take 30 (some 191) ?_ rfl rfl (by kernel_rfl) (fun _ _ _ h => h) (by kernel_rfl) hCalm ?_ ?_
          rotate_left
          · intro wS hS; (try dsimp only at hS); go_simp <;> with_reducible rfl
          try simp only [Act.put, List.setIfInBounds_toArray, List.set_cons_zero, List.set_cons_succ]
          refine grow_take 31 (some 192) ?_ rfl rfl (by kernel_rfl) (fun _ _ _ h => h) (by kernel_rfl) hCalm ?_ ?_
          rotate_left
          · intro wS hS; (try dsimp only at hS); go_simp <;> with_reducible rfl
          try simp only [Act.put, List.setIfInBounds_toArray, List.set_cons_zero, List.set_cons_succ]
          refine grow_take 32 (some 193) ?_ rfl rfl (by kernel_rfl) (fun _ _ _ h => h) (by kernel_rfl) hCalm ?_ ?_
          rotate_left
          · intro wS hS; (try dsimp only at hS); go_simp <;> with_reducible rfl
          try simp only [Act.put, List.setIfInBounds_toArray, List.set_cons_zero, List.set_cons_succ]
          refine grow_take 33 (some 194) (.bool false) rfl rfl (by kernel_rfl) (fun _ _ _ h => h) (by kernel_rfl) hCalm ?_ ?_
          · intro wS hS; (try dsimp only at hS); go_simp
          try simp only [Act.put, List.setIfInBounds_toArray, List.set_cons_zero, List.set_cons_succ]
          refine grow_take 34 (some 195) ?_ rfl rfl (by kernel_rfl) (fun _ _ _ h => h) (by kernel_rfl) hCalm ?_ ?_
          rotate_left
          · intro wS hS; (try dsimp only at hS); go_simp <;> with_reducible rfl
          try simp only [Act.put, List.setIfInBounds_toArray, List.set_cons_zero, List.set_cons_succ]
          refine grow_take 35 (some 196) ?_ rfl rfl (by kernel_rfl) (fun _ _ _ h => h) (by kernel_rfl) hCalm ?_ ?_
          rotate_left
          · intro wS hS; (try dsimp only at hS); go_simp <;> with_reducible rfl
          try simp only [Act.put, List.setIfInBounds_toArray, List.set_cons_zero, List.set_cons_succ]
          refine grow_take 36 (some 197) ?_ rfl rfl (by kernel_rfl) (fun _ _ _ h => h) (by kernel_rfl) hCalm ?_ ?_
          rotate_left
          · intro wS hS; (try dsimp only at hS); go_simp <;> with_reducible rfl
          try simp only [Act.put, List.setIfInBounds_toArray, List.set_cons_zero, List.set_cons_succ]
          refine grow_take 37 (some 10) ?_ rfl rfl (by kernel_rfl) (fun _ _ _ h => h) (by kernel_rfl) hCalm ?_ ?_
          rotate_left
          · intro wS hS; (try dsimp only at hS); go_simp <;> with_reducible rfl
          try simp only [Act.put, List.setIfInBounds_toArray, List.set_cons_zero, List.set_cons_succ]
          refine grow_done (by kernel_rfl) (fun wA hA => ?_) _
          go_wp2_with fail
          go_ret
          exact ⟨by first | rfl | simp, HB_5.out.trans (hA.1.mono HB_5.out.size)⟩
        case pos =>
          subst hN
          refine wp_region_grow (S := (fun w' => w'.cell? ⟨v4.heap.size, 0, none⟩ = some (.bool true) ∧ w'.cell? ⟨v4.heap.size, 1, none⟩ = some (.bool true) ∧ w'.cell? ⟨v4.heap.size, 2, none⟩ = some (.bool true) ∧ w'.cell? ⟨v4.heap.size, 3, none⟩ = some (.bool true) ∧ w'.cell? ⟨v1.heap.size, 0, none⟩ = some (.int .i64 P) ∧ w'.cell? ⟨v1.heap.size, 1, none⟩ = some (.int .i64 N) ∧ w'.cell? ⟨v1.heap.size, 2, none⟩ = some (.slice (some ⟨b, o, none⟩) ds.length k1) ∧ w'.cell? ⟨v2.heap.size, 0, none⟩ = some (.int .i64 P) ∧ w'.cell? ⟨v2.heap.size, 1, none⟩ = some (.int .i64 N) ∧ w'.cell? ⟨v2.heap.size, 2, none⟩ = some (.slice (some ⟨b2, o2, none⟩) es.length k2) ∧ Dz w' (some ⟨b, o, none⟩) ds ∧ Dz w' (some ⟨b2, o2, none⟩) es)) ((fun w' => Below v4.heap.size v4 w' ∧ Blk w' v4.heap.size 69 #[.bool true, .bool true, .bool true, .bool true])) (by kernel_rfl) (⟨fun w2 h2 => ⟨(h2.2.cell (i := 0) rfl), (h2.2.cell (i := 1) rfl), (h2.2.cell (i := 2) rfl), (h2.2.cell (i := 3) rfl), ((S_5.out.below h2.1 S_5.out.lt).cell (i := 0) rfl), ((S_5.out.below h2.1 S_5.out.lt).cell (i := 1) rfl), ((S_5.out.below h2.1 S_5.out.lt).cell (i := 2) rfl), ((T_5.out.below h2.1 T_5.out.lt).cell (i := 0) rfl), ((T_5.out.below h2.1 T_5.out.lt).cell (i := 1) rfl), ((T_5.out.below h2.1 T_5.out.lt).cell (i := 2) rfl), (DS_5.out.below h2.1 (Nat.le_refl _)), (DT_5.out.below h2.1 (Nat.le_refl _))⟩, fun w2 w3 h2 hb2 => ⟨h2.1.trans (hb2.mono h2.1.size), h2.2.below hb2 h2.2.lt⟩⟩) (⟨HU.out.drew, HV.out.drew⟩) (fun hCalm => ?_)
          refine grow_take 0 (some 161) ?_ rfl rfl (by kernel_rfl) (fun _ _ _ h => h) (by kernel_rfl) hCalm ?_ ?_
          rotate_left
          · intro wS hS; (try dsimp only at hS); go_simp <;> with_reducible rfl
          try simp only [Act.put, List.setIfInBounds_toArray, List.set_cons_zero, List.set_cons_succ]
          refine grow_take 1 (some 162) ?_ rfl rfl (by kernel_rfl) (fun _ _ _ h => h) (by kernel_rfl) hCalm ?_ ?_
          rotate_left
          · intro wS hS; (try dsimp only at hS); go_simp <;> with_reducible rfl
          try simp only [Act.put, List.setIfInBounds_toArray, List.set_cons_zero, List.set_cons_succ]
          refine grow_take 2 (some 163) ?_ rfl rfl (by kernel_rfl) (fun _ _ _ h => h) (by kernel_rfl) hCalm ?_ ?_
          rotate_left
          · intro wS hS; (try dsimp only at hS); go_simp <;> with_reducible rfl
          try simp only [Act.put, List.setIfInBounds_toArray, List.set_cons_zero, List.set_cons_succ]
          refine grow_take 3 (some 164) ?_ rfl rfl (by kernel_rfl) (fun _ _ _ h => h) (by kernel_rfl) hCalm ?_ ?_
          rotate_left
          · intro wS hS; (try dsimp only at hS); go_simp <;> with_reducible rfl
          try simp only [Act.put, List.setIfInBounds_toArray, List.set_cons_zero, List.set_cons_succ]
          refine grow_take 4 (some 165) ?_ rfl rfl (by kernel_rfl) (fun _ _ _ h => h) (by kernel_rfl) hCalm ?_ ?_
          rotate_left
          · intro wS hS; (try dsimp only at hS); go_simp <;> with_reducible rfl
          try simp only [Act.put, List.setIfInBounds_toArray, List.set_cons_zero, List.set_cons_succ]
          refine grow_take 5 (some 166) ?_ rfl rfl (by kernel_rfl) (fun _ _ _ h => h) (by kernel_rfl) hCalm ?_ ?_
          rotate_left
          · intro wS hS; (try dsimp only at hS); go_simp <;> with_reducible rfl
          try simp only [Act.put, List.setIfInBounds_toArray, List.set_cons_zero, List.set_cons_succ]
          refine grow_take 6 (some 167) ?_ rfl rfl (by kernel_rfl) (fun _ _ _ h => h) (by kernel_rfl) hCalm ?_ ?_
          rotate_left
          · intro wS hS; (try dsimp only at hS); go_simp <;> with_reducible rfl
          try simp only [Act.put, List.setIfInBounds_toArray, List.set_cons_zero, List.set_cons_succ]
          refine grow_take 7 (some 168) ?_ rfl rfl (by kernel_rfl) (fun _ _ _ h => h) (by kernel_rfl) hCalm ?_ ?_
          rotate_left
          · intro wS hS; (try dsimp only at hS); go_simp <;> with_reducible rfl
          try simp only [Act.put, List.setIfInBounds_toArray, List.set_cons_zero, List.set_cons_succ]
          refine grow_take 8 (some 169) ?_ rfl rfl (by kernel_rfl) (fun _ _ _ h => h) (by kernel_rfl) hCalm ?_ ?_
          rotate_left
          · intro wS hS; (try dsimp only at hS); go_simp <;> with_reducible rfl
          try simp only [Act.put, List.setIfInBounds_toArray, List.set_cons_zero, List.set_cons_succ]
          refine grow_take 9 (some 170) ?_ rfl rfl (by kernel_rfl) (fun _ _ _ h => h) (by kernel_rfl) hCalm ?_ ?_
          rotate_left
          · intro wS hS; (try dsimp only at hS); go_simp <;> with_reducible rfl
          try simp only [Act.put, List.setIfInBounds_toArray, List.set_cons_zero, List.set_cons_succ]
          refine grow_take 10 (some 171) ?_ rfl rfl (by kernel_rfl) (fun _ _ _ h => h) (by kernel_rfl) hCalm ?_ ?_
          rotate_left
          · intro wS hS; (try dsimp only at hS); go_simp <;> with_reducible rfl
          try simp only [Act.put, List.setIfInBounds_toArray, List.set_cons_zero, List.set_cons_succ]
          refine grow_take 11 (some 172) ?_ rfl rfl (by kernel_rfl) (fun _ _ _ h => h) (by kernel_rfl) hCalm ?_ ?_
          rotate_left
          · intro wS hS; (try dsimp only at hS); go_simp <;> with_reducible rfl
          try simp only [Act.put, List.setIfInBounds_toArray, List.set_cons_zero, List.set_cons_succ]
          refine grow_take 12 (some 173) ?_ rfl rfl (by kernel_rfl) (fun _ _ _ h => h) (by kernel_rfl) hCalm ?_ ?_
          rotate_left
          · intro wS hS; (try dsimp only at hS); go_simp <;> with_reducible rfl
          try simp only [Act.put, List.setIfInBounds_toArray, List.set_cons_zero, List.set_cons_succ]
          refine grow_take 13 (some 174) ?_ rfl rfl (by kernel_rfl) (fun _ _ _ h => h) (by kernel_rfl) hCalm ?_ ?_
          rotate_left
          · intro wS hS; (try dsimp only at hS); go_simp <;> with_reducible rfl
          try simp only [Act.put, List.setIfInBounds_toArray, List.set_cons_zero, List.set_cons_succ]
          refine grow_take 14 (some 175) ?_ rfl rfl (by kernel_rfl) (fun _ _ _ h => h) (by kernel_rfl) hCalm ?_ ?_
          rotate_left
          · intro wS hS; (try dsimp only at hS); go_simp <;> with_reducible rfl
          try simp only [Act.put, List.setIfInBounds_toArray, List.set_cons_zero, List.set_cons_succ]
          refine grow_take 15 (some 176) ?_ rfl rfl (by kernel_rfl) (fun _ _ _ h => h) (by kernel_rfl) hCalm ?_ ?_
          rotate_left
          · intro wS hS; (try dsimp only at hS); go_simp <;> with_reducible rfl
          try simp only [Act.put, List.setIfInBounds_toArray, List.set_cons_zero, List.set_cons_succ]
          refine grow_take 16 (some 177) ?_ rfl rfl (by kernel_rfl) (fun _ _ _ h => h) (by kernel_rfl) hCalm ?_ ?_
          rotate_left
          · intro wS hS; (try dsimp only at hS); go_simp <;> with_reducible rfl
          try simp only [Act.put, List.setIfInBounds_toArray, List.set_cons_zero, List.set_cons_succ]
          refine grow_take 17 (some 178) ?_ rfl rfl (by kernel_rfl) (fun _ _ _ h => h) (by kernel_rfl) hCalm ?_ ?_
          rotate_left
          · intro wS hS; (try dsimp only at hS); go_simp <;> with_reducible rfl
          try simp only [Act.put, List.setIfInBounds_toArray, List.set_cons_zero, List.set_cons_succ]
          refine grow_take 18 (some 179) ?_ rfl rfl (by kernel_rfl) (fun _ _ _ h => h) (by kernel_rfl) hCalm ?_ ?_
          rotate_left
          · intro wS hS; (try dsimp only at hS); go_simp <;> with_reducible rfl
          try simp only [Act.put, List.setIfInBounds_toArray, List.set_cons_zero, List.set_cons_succ]
          refine grow_take 20 (some 181) ?_ rfl rfl (by kernel_rfl) (fun _ _ _ h => h) (by kernel_rfl) hCalm ?_ ?_
          rotate_left
          · intro wS hS; (try dsimp only at hS); go_simp <;> with_reducible rfl
          try simp only [Act.put, List.setIfInBounds_toArray, List.set_cons_zero, List.set_cons_succ]
          refine grow_take 23 (some 184) ?_ rfl rfl (by kernel_rfl) (fun _ _ _ h => h) (by kernel_rfl) hCalm ?_ ?_
          rotate_left
          · intro wS hS; (try dsimp only at hS); go_simp <;> with_reducible rfl
          try simp only [Act.put, List.setIfInBounds_toArray, List.set_cons_zero, List.set_cons_succ]
          refine grow_take 24 (some 185) ?_ rfl rfl (by kernel_rfl) (fun _ _ _ h => h) (by kernel_rfl) hCalm ?_ ?_
          rotate_left
          · intro wS hS; (try dsimp only at hS); go_simp <;> with_reducible rfl
          try simp only [Act.put, List.setIfInBounds_toArray, List.set_cons_zero, List.set_cons_succ]
          refine grow_take 25 (some 186) ?_ rfl rfl (by kernel_rfl) (fun _ _ _ h => h) (by kernel_rfl) hCalm ?_ ?_
          rotate_left
          · intro wS hS; (try dsimp only at hS); go_simp <;> with_reducible rfl
          try simp only [Act.put, List.setIfInBounds_toArray, List.set_cons_zero, List.set_cons_succ]
          refine grow_take 26 (some 187) ?_ rfl rfl (by kernel_rfl) (fun _ _ _ h => h) (by kernel_rfl) hCalm ?_ ?_
          rotate_left
          · intro wS hS; (try dsimp only at hS); go_simp <;> with_reducible rfl
          try simp only [Act.put, List.setIfInBounds_toArray, List.set_cons_zero, List.set_cons_succ]
          refine grow_take 27 (some 188) (.bool true) rfl rfl (by kernel_rfl) (fun _ _ _ h => h) (by kernel_rfl) hCalm ?_ ?_
          · intro wS hS; (try dsimp only at hS); go_simp
          try simp only [Act.put, List.setIfInBounds_toArray, List.set_cons_zero, List.set_cons_succ]
          refine grow_call 19 (some 180) (.int .i64 (1000 * P + N)) 22 [.tmp 179] #[27] rfl rfl (by kernel_rfl) (fun _ _ _ h => h) (by kernel_rfl) hCalm rfl (enters_of Try.func22 (by kernel_rfl) rfl) (fun wz hS => pcode_yes P N ds (some ⟨b, o, none⟩) k1 wz hS.2.2.2.2.2.2.2.2.2.2.1 (by have := HZL.out; omega) HVD.out) (by kernel_rfl) ?_
          try simp only [Act.put, List.setIfInBounds_toArray, List.set_cons_zero, List.set_cons_succ]
          refine grow_call 21 (some 182) (.int .i64 (1000 * P + N)) 22 [.tmp 181] #[27] rfl rfl (by kernel_rfl) (fun _ _ _ h => h) (by kernel_rfl) hCalm rfl (enters_of Try.func22 (by kernel_rfl) rfl) (fun wz hS => pcode_yes P N es (some ⟨b2, o2, none⟩) k2 wz hS.2.2.2.2.2.2.2.2.2.2.2 (by have := HZL2.out; omega) HVD2.out) (by kernel_rfl) ?_
          try simp only [Act.put, List.setIfInBounds_toArray, List.set_cons_zero, List.set_cons_succ]
          refine grow_take 22 (some 183) (.bool true) rfl rfl (by kernel_rfl) (fun _ _ _ h => h) (by kernel_rfl) hCalm ?_ ?_
          · intro wS hS; (try dsimp only at hS); go_simp
          try simp only [Act.put, List.setIfInBounds_toArray, List.set_cons_zero, List.set_cons_succ]
          refine grow_take 28 (some 189) ?_ rfl rfl (by kernel_rfl) (fun _ _ _ h => h) (by kernel_rfl) hCalm ?_ ?_
          rotate_left
          · intro wS hS; (try dsimp only at hS); go_simp <;> with_reducible rfl
          try simp only [Act.put, List.setIfInBounds_toArray, List.set_cons_zero, List.set_cons_succ]
          refine grow_take 29 (some 190) ?_ rfl rfl (by kernel_rfl) (fun _ _ _ h => h) (by kernel_rfl) hCalm ?_ ?_
          rotate_left
          · intro wS hS; (try dsimp only at hS); go_simp <;> with_reducible rfl
          try simp only [Act.put, List.setIfInBounds_toArray, List.set_cons_zero, List.set_cons_succ]
          refine grow_take 30 (some 191) ?_ rfl rfl (by kernel_rfl) (fun _ _ _ h => h) (by kernel_rfl) hCalm ?_ ?_
          rotate_left
          · intro wS hS; (try dsimp only at hS); go_simp <;> with_reducible rfl
          try simp only [Act.put, List.setIfInBounds_toArray, List.set_cons_zero, List.set_cons_succ]
          refine grow_take 31 (some 192) ?_ rfl rfl (by kernel_rfl) (fun _ _ _ h => h) (by kernel_rfl) hCalm ?_ ?_
          rotate_left
          · intro wS hS; (try dsimp only at hS); go_simp <;> with_reducible rfl
          try simp only [Act.put, List.setIfInBounds_toArray, List.set_cons_zero, List.set_cons_succ]
          refine grow_take 32 (some 193) ?_ rfl rfl (by kernel_rfl) (fun _ _ _ h => h) (by kernel_rfl) hCalm ?_ ?_
          rotate_left
          · intro wS hS; (try dsimp only at hS); go_simp <;> with_reducible rfl
          try simp only [Act.put, List.setIfInBounds_toArray, List.set_cons_zero, List.set_cons_succ]
          refine grow_take 33 (some 194) (.bool true) rfl rfl (by kernel_rfl) (fun _ _ _ h => h) (by kernel_rfl) hCalm ?_ ?_
          · intro wS hS; (try dsimp only at hS); go_simp
          try simp only [Act.put, List.setIfInBounds_toArray, List.set_cons_zero, List.set_cons_succ]
          refine grow_take 34 (some 195) ?_ rfl rfl (by kernel_rfl) (fun _ _ _ h => h) (by kernel_rfl) hCalm ?_ ?_
          rotate_left
          · intro wS hS; (try dsimp only at hS); go_simp <;> with_reducible rfl
          try simp only [Act.put, List.setIfInBounds_toArray, List.set_cons_zero, List.set_cons_succ]
          refine grow_take 35 (some 196) ?_ rfl rfl (by kernel_rfl) (fun _ _ _ h => h) (by kernel_rfl) hCalm ?_ ?_
          rotate_left
          · intro wS hS; (try dsimp only at hS); go_simp <;> with_reducible rfl
          try simp only [Act.put, List.setIfInBounds_toArray, List.set_cons_zero, List.set_cons_succ]
          refine grow_take 36 (some 197) ?_ rfl rfl (by kernel_rfl) (fun _ _ _ h => h) (by kernel_rfl) hCalm ?_ ?_
          rotate_left
          · intro wS hS; (try dsimp only at hS); go_simp <;> with_reducible rfl
          try simp only [Act.put, List.setIfInBounds_toArray, List.set_cons_zero, List.set_cons_succ]
          refine grow_take 37 (some 10) ?_ rfl rfl (by kernel_rfl) (fun _ _ _ h => h) (by kernel_rfl) hCalm ?_ ?_
          rotate_left
          · intro wS hS; (try dsimp only at hS); go_simp <;> with_reducible rfl
          try simp only [Act.put, List.setIfInBounds_toArray, List.set_cons_zero, List.set_cons_succ]
          refine grow_done (by kernel_rfl) (fun wA hA => ?_) _
          go_wp2_with fail
          go_ret
          exact ⟨by first | rfl | simp, HB_5.out.trans (hA.1.mono HB_5.out.size)⟩
    case pos =>
      have HDZ := Lib.hid (DS_5.out.below HU.out (Nat.le_refl _))
      obtain ⟨k0, k1_, k2_, k3⟩ := HDZ.out.at wr (Below.refl _ _) i hlt
      obtain ⟨d, hd⟩ : ∃ d, d = ds[i] := ⟨_, rfl⟩
      rw [← hd] at k0 k1_ k2_ k3
      have HDI : Hid (ds[i]? = some d) := Lib.hid (by rw [hd]; exact List.getElem?_eq_getElem _)
      have q1 : (0 : Int) ≤ (i : Int) := by omega
      have q2 : (i : Int) < (ds.length : Int) := by omega
      have HLT := Lib.hid hlt
      clear hd hlt hi HDZ
      have NEV : Hid (v4.heap.size < wr.heap.size) := Lib.hid HV.out.lt
      have D1 : Hid (Blk (wr.alloc (.cells #[.int .i64 d.x, .int .i64 d.y, .int .i64 d.t, .int .i64 d.p] 24)) wr.heap.size 24 #[.int .i64 d.x, .int .i64 d.y, .int .i64 d.t, .int .i64 d.p]) := Lib.hid (Blk.new wr _ _)
      have V1 : Hid (Blk (wr.alloc (.cells #[.int .i64 d.x, .int .i64 d.y, .int .i64 d.t, .int .i64 d.p] 24)) v4.heap.size 69 #[.bool s0, .bool s1, .bool s2, .bool s3]) := Lib.hid (HV.out.alloc _)
      have U1 : Hid (Below v4.heap.size v4 (wr.alloc (.cells #[.int .i64 d.x, .int .i64 d.y, .int .i64 d.t, .int .i64 d.p] 24))) := Lib.hid (HU.out.alloc HU.out.size _)
      have yc0 := (S_5.out.below U1.out S_5.out.lt).cell (i := 2) (v := .slice (some ⟨b, o, none⟩) ds.length k1) rfl
      have hSL := (S_5.out.below HU.out S_5.out.lt).cell (i := 2) (v := .slice (some ⟨b, o, none⟩) ds.length k1) rfl
      clear HU HV
      go_upto_region 15 with fail
      clear yc0
      clear k0 k1_ k2_ k3 hSL
      have hbx := HBX.out.1 d (List.mem_of_getElem? HDI.out)
      have hex := HEX.out; have hey := HEY.out
      have t1 : ¬ (d.x < x) := by omega
      have t2 : ¬ (x + ww < d.x) := by omega
      have t3 : ¬ (d.y < y) := by omega
      have t4 : ¬ (y + hh < d.y) := by omega
      have t1d := decide_eq_false t1; have t2d := decide_eq_false t2; have t3d := decide_eq_false t3; have t4d := decide_eq_false t4
      clear hbx
      have HWI := Lib.hid (fun W (h : Dz W (some ⟨b, o, none⟩) ds) => by have h2 := pwithin_any P N ds (some ⟨b, o, none⟩) k1 d.x d.y z W h (by have := HZL.out; omega); rwa [decide_eq_true (within_self HVD.out HDI.out HZZ.out)] at h2)
      refine wp_region_grow (S := (fun w' => w'.cell? ⟨wr.heap.size, 0, none⟩ = some (.int .i64 d.x) ∧ w'.cell? ⟨wr.heap.size, 1, none⟩ = some (.int .i64 d.y) ∧ w'.cell? ⟨v3.heap.size, 0, none⟩ = some (.int .i64 x) ∧ w'.cell? ⟨v3.heap.size, 1, none⟩ = some (.int .i64 y) ∧ w'.cell? ⟨v3.heap.size, 2, none⟩ = some (.int .i64 ww) ∧ w'.cell? ⟨v3.heap.size, 3, none⟩ = some (.int .i64 hh) ∧ w'.cell? ⟨v1.heap.size, 0, none⟩ = some (.int .i64 P) ∧ w'.cell? ⟨v1.heap.size, 1, none⟩ = some (.int .i64 N) ∧ w'.cell? ⟨v1.heap.size, 2, none⟩ = some (.slice (some ⟨b, o, none⟩) ds.length k1) ∧ Dz w' (some ⟨b, o, none⟩) ds)) ((fun w' => Below v4.heap.size v4 w' ∧ Blk w' v4.heap.size 69 #[.bool s0, .bool s1, .bool s2, .bool s3] ∧ Blk w' wr.heap.size 24 #[.int .i64 d.x, .int .i64 d.y, .int .i64 d.t, .int .i64 d.p])) (by kernel_rfl) (⟨fun w2 h2 => ⟨(h2.2.2.cell (i := 0) rfl), (h2.2.2.cell (i := 1) rfl), ((R_5.out.below h2.1 R_5.out.lt).cell (i := 0) rfl), ((R_5.out.below h2.1 R_5.out.lt).cell (i := 1) rfl), ((R_5.out.below h2.1 R_5.out.lt).cell (i := 2) rfl), ((R_5.out.below h2.1 R_5.out.lt).cell (i := 3) rfl), ((S_5.out.below h2.1 S_5.out.lt).cell (i := 0) rfl), ((S_5.out.below h2.1 S_5.out.lt).cell (i := 1) rfl), ((S_5.out.below h2.1 S_5.out.lt).cell (i := 2) rfl), (DS_5.out.below h2.1 (Nat.le_refl _))⟩, fun w2 w3 h2 hb2 => ⟨h2.1.trans (hb2.mono h2.1.size), h2.2.1.below hb2 h2.2.1.lt, h2.2.2.below hb2 h2.2.2.lt⟩⟩) (⟨U1.out.drew, V1.out.drew, D1.out.drew⟩) (fun hCalm => ?_)
      refine grow_take 0 (some 71) ?_ rfl rfl (by kernel_rfl) (fun _ _ _ h => h) (by kernel_rfl) hCalm ?_ ?_
      rotate_left
      · intro wS hS; (try dsimp only at hS); go_simp <;> with_reducible rfl
      try simp only [Act.put, List.setIfInBounds_toArray, List.set_cons_zero, List.set_cons_succ]
      refine grow_take 1 (some 72) ?_ rfl rfl (by kernel_rfl) (fun _ _ _ h => h) (by kernel_rfl) hCalm ?_ ?_
      rotate_left
      · intro wS hS; (try dsimp only at hS); go_simp <;> with_reducible rfl
      try simp only [Act.put, List.setIfInBounds_toArray, List.set_cons_zero, List.set_cons_succ]
      refine grow_take 2 (some 73) ?_ rfl rfl (by kernel_rfl) (fun _ _ _ h => h) (by kernel_rfl) hCalm ?_ ?_
      rotate_left
      · intro wS hS; (try dsimp only at hS); go_simp <;> with_reducible rfl
      try simp only [Act.put, List.setIfInBounds_toArray, List.set_cons_zero, List.set_cons_succ]
      refine grow_take 3 (some 74) ?_ rfl rfl (by kernel_rfl) (fun _ _ _ h => h) (by kernel_rfl) hCalm ?_ ?_
      rotate_left
      · intro wS hS; (try dsimp only at hS); go_simp <;> with_reducible rfl
      try simp only [Act.put, List.setIfInBounds_toArray, List.set_cons_zero, List.set_cons_succ]
      refine grow_take 4 (some 75) (.bool false) rfl rfl (by kernel_rfl) (fun _ _ _ h => h) (by kernel_rfl) hCalm ?_ ?_
      · intro wS hS; (try dsimp only at hS); go_simp
      try simp only [Act.put, List.setIfInBounds_toArray, List.set_cons_zero, List.set_cons_succ]
      refine grow_take 5 (some 76) ?_ rfl rfl (by kernel_rfl) (fun _ _ _ h => h) (by kernel_rfl) hCalm ?_ ?_
      rotate_left
      · intro wS hS; (try dsimp only at hS); go_simp <;> with_reducible rfl
      try simp only [Act.put, List.setIfInBounds_toArray, List.set_cons_zero, List.set_cons_succ]
      refine grow_take 6 (some 77) ?_ rfl rfl (by kernel_rfl) (fun _ _ _ h => h) (by kernel_rfl) hCalm ?_ ?_
      rotate_left
      · intro wS hS; (try dsimp only at hS); go_simp <;> with_reducible rfl
      try simp only [Act.put, List.setIfInBounds_toArray, List.set_cons_zero, List.set_cons_succ]
      refine grow_take 7 (some 78) ?_ rfl rfl (by kernel_rfl) (fun _ _ _ h => h) (by kernel_rfl) hCalm ?_ ?_
      rotate_left
      · intro wS hS; (try dsimp only at hS); go_simp <;> with_reducible rfl
      try simp only [Act.put, List.setIfInBounds_toArray, List.set_cons_zero, List.set_cons_succ]
      refine grow_take 8 (some 79) ?_ rfl rfl (by kernel_rfl) (fun _ _ _ h => h) (by kernel_rfl) hCalm ?_ ?_
      rotate_left
      · intro wS hS; (try dsimp only at hS); go_simp <;> with_reducible rfl
      try simp only [Act.put, List.setIfInBounds_toArray, List.set_cons_zero, List.set_cons_succ]
      refine grow_take 9 (some 80) ?_ rfl rfl (by kernel_rfl) (fun _ _ _ h => h) (by kernel_rfl) hCalm ?_ ?_
      rotate_left
      · intro wS hS; (try dsimp only at hS); go_simp <;> with_reducible rfl
      try simp only [Act.put, List.setIfInBounds_toArray, List.set_cons_zero, List.set_cons_succ]
      refine grow_take 10 (some 81) ?_ rfl rfl (by kernel_rfl) (fun _ _ _ h => h) (by kernel_rfl) hCalm ?_ ?_
      rotate_left
      · intro wS hS; (try dsimp only at hS); go_simp <;> with_reducible rfl
      try simp only [Act.put, List.setIfInBounds_toArray, List.set_cons_zero, List.set_cons_succ]
      refine grow_take 11 (some 82) ?_ rfl rfl (by kernel_rfl) (fun _ _ _ h => h) (by kernel_rfl) hCalm ?_ ?_
      rotate_left
      · intro wS hS; (try dsimp only at hS); go_simp <;> with_reducible rfl
      try simp only [Act.put, List.setIfInBounds_toArray, List.set_cons_zero, List.set_cons_succ]
      refine grow_take 12 (some 83) ?_ rfl rfl (by kernel_rfl) (fun _ _ _ h => h) (by kernel_rfl) hCalm ?_ ?_
      rotate_left
      · intro wS hS; (try dsimp only at hS); go_simp <;> with_reducible rfl
      try simp only [Act.put, List.setIfInBounds_toArray, List.set_cons_zero, List.set_cons_succ]
      refine grow_take 13 (some 84) (.bool false) rfl rfl (by kernel_rfl) (fun _ _ _ h => h) (by kernel_rfl) hCalm ?_ ?_
      · intro wS hS; (try dsimp only at hS); go_simp
      try simp only [Act.put, List.setIfInBounds_toArray, List.set_cons_zero, List.set_cons_succ]
      refine grow_take 14 (some 85) ?_ rfl rfl (by kernel_rfl) (fun _ _ _ h => h) (by kernel_rfl) hCalm ?_ ?_
      rotate_left
      · intro wS hS; (try dsimp only at hS); go_simp <;> with_reducible rfl
      try simp only [Act.put, List.setIfInBounds_toArray, List.set_cons_zero, List.set_cons_succ]
      refine grow_take 15 (some 86) ?_ rfl rfl (by kernel_rfl) (fun _ _ _ h => h) (by kernel_rfl) hCalm ?_ ?_
      rotate_left
      · intro wS hS; (try dsimp only at hS); go_simp <;> with_reducible rfl
      try simp only [Act.put, List.setIfInBounds_toArray, List.set_cons_zero, List.set_cons_succ]
      refine grow_take 16 (some 87) ?_ rfl rfl (by kernel_rfl) (fun _ _ _ h => h) (by kernel_rfl) hCalm ?_ ?_
      rotate_left
      · intro wS hS; (try dsimp only at hS); go_simp <;> with_reducible rfl
      try simp only [Act.put, List.setIfInBounds_toArray, List.set_cons_zero, List.set_cons_succ]
      refine grow_take 17 (some 88) ?_ rfl rfl (by kernel_rfl) (fun _ _ _ h => h) (by kernel_rfl) hCalm ?_ ?_
      rotate_left
      · intro wS hS; (try dsimp only at hS); go_simp <;> with_reducible rfl
      try simp only [Act.put, List.setIfInBounds_toArray, List.set_cons_zero, List.set_cons_succ]
      refine grow_take 18 (some 89) ?_ rfl rfl (by kernel_rfl) (fun _ _ _ h => h) (by kernel_rfl) hCalm ?_ ?_
      rotate_left
      · intro wS hS; (try dsimp only at hS); go_simp <;> with_reducible rfl
      try simp only [Act.put, List.setIfInBounds_toArray, List.set_cons_zero, List.set_cons_succ]
      refine grow_take 19 (some 90) ?_ rfl rfl (by kernel_rfl) (fun _ _ _ h => h) (by kernel_rfl) hCalm ?_ ?_
      rotate_left
      · intro wS hS; (try dsimp only at hS); go_simp <;> with_reducible rfl
      try simp only [Act.put, List.setIfInBounds_toArray, List.set_cons_zero, List.set_cons_succ]
      refine grow_take 20 (some 91) (.bool false) rfl rfl (by kernel_rfl) (fun _ _ _ h => h) (by kernel_rfl) hCalm ?_ ?_
      · intro wS hS; (try dsimp only at hS); go_simp
      try simp only [Act.put, List.setIfInBounds_toArray, List.set_cons_zero, List.set_cons_succ]
      refine grow_take 21 (some 92) ?_ rfl rfl (by kernel_rfl) (fun _ _ _ h => h) (by kernel_rfl) hCalm ?_ ?_
      rotate_left
      · intro wS hS; (try dsimp only at hS); go_simp <;> with_reducible rfl
      try simp only [Act.put, List.setIfInBounds_toArray, List.set_cons_zero, List.set_cons_succ]
      refine grow_take 22 (some 93) ?_ rfl rfl (by kernel_rfl) (fun _ _ _ h => h) (by kernel_rfl) hCalm ?_ ?_
      rotate_left
      · intro wS hS; (try dsimp only at hS); go_simp <;> with_reducible rfl
      try simp only [Act.put, List.setIfInBounds_toArray, List.set_cons_zero, List.set_cons_succ]
      refine grow_take 23 (some 94) ?_ rfl rfl (by kernel_rfl) (fun _ _ _ h => h) (by kernel_rfl) hCalm ?_ ?_
      rotate_left
      · intro wS hS; (try dsimp only at hS); go_simp <;> with_reducible rfl
      try simp only [Act.put, List.setIfInBounds_toArray, List.set_cons_zero, List.set_cons_succ]
      refine grow_take 24 (some 95) ?_ rfl rfl (by kernel_rfl) (fun _ _ _ h => h) (by kernel_rfl) hCalm ?_ ?_
      rotate_left
      · intro wS hS; (try dsimp only at hS); go_simp <;> with_reducible rfl
      try simp only [Act.put, List.setIfInBounds_toArray, List.set_cons_zero, List.set_cons_succ]
      refine grow_take 25 (some 96) ?_ rfl rfl (by kernel_rfl) (fun _ _ _ h => h) (by kernel_rfl) hCalm ?_ ?_
      rotate_left
      · intro wS hS; (try dsimp only at hS); go_simp <;> with_reducible rfl
      try simp only [Act.put, List.setIfInBounds_toArray, List.set_cons_zero, List.set_cons_succ]
      refine grow_take 26 (some 97) ?_ rfl rfl (by kernel_rfl) (fun _ _ _ h => h) (by kernel_rfl) hCalm ?_ ?_
      rotate_left
      · intro wS hS; (try dsimp only at hS); go_simp <;> with_reducible rfl
      try simp only [Act.put, List.setIfInBounds_toArray, List.set_cons_zero, List.set_cons_succ]
      refine grow_take 27 (some 98) ?_ rfl rfl (by kernel_rfl) (fun _ _ _ h => h) (by kernel_rfl) hCalm ?_ ?_
      rotate_left
      · intro wS hS; (try dsimp only at hS); go_simp <;> with_reducible rfl
      try simp only [Act.put, List.setIfInBounds_toArray, List.set_cons_zero, List.set_cons_succ]
      refine grow_take 28 (some 99) ?_ rfl rfl (by kernel_rfl) (fun _ _ _ h => h) (by kernel_rfl) hCalm ?_ ?_
      rotate_left
      · intro wS hS; (try dsimp only at hS); go_simp <;> with_reducible rfl
      try simp only [Act.put, List.setIfInBounds_toArray, List.set_cons_zero, List.set_cons_succ]
      refine grow_take 29 (some 100) ?_ rfl rfl (by kernel_rfl) (fun _ _ _ h => h) (by kernel_rfl) hCalm ?_ ?_
      rotate_left
      · intro wS hS; (try dsimp only at hS); go_simp <;> with_reducible rfl
      try simp only [Act.put, List.setIfInBounds_toArray, List.set_cons_zero, List.set_cons_succ]
      refine grow_take 30 (some 101) (.bool false) rfl rfl (by kernel_rfl) (fun _ _ _ h => h) (by kernel_rfl) hCalm ?_ ?_
      · intro wS hS; (try dsimp only at hS); go_simp
      try simp only [Act.put, List.setIfInBounds_toArray, List.set_cons_zero, List.set_cons_succ]
      refine grow_take 31 (some 102) ?_ rfl rfl (by kernel_rfl) (fun _ _ _ h => h) (by kernel_rfl) hCalm ?_ ?_
      rotate_left
      · intro wS hS; (try dsimp only at hS); go_simp <;> with_reducible rfl
      try simp only [Act.put, List.setIfInBounds_toArray, List.set_cons_zero, List.set_cons_succ]
      refine grow_take 32 (some 103) ?_ rfl rfl (by kernel_rfl) (fun _ _ _ h => h) (by kernel_rfl) hCalm ?_ ?_
      rotate_left
      · intro wS hS; (try dsimp only at hS); go_simp <;> with_reducible rfl
      try simp only [Act.put, List.setIfInBounds_toArray, List.set_cons_zero, List.set_cons_succ]
      refine grow_take 33 (some 104) ?_ rfl rfl (by kernel_rfl) (fun _ _ _ h => h) (by kernel_rfl) hCalm ?_ ?_
      rotate_left
      · intro wS hS; (try dsimp only at hS); go_simp <;> with_reducible rfl
      try simp only [Act.put, List.setIfInBounds_toArray, List.set_cons_zero, List.set_cons_succ]
      refine grow_take 34 (some 105) ?_ rfl rfl (by kernel_rfl) (fun _ _ _ h => h) (by kernel_rfl) hCalm ?_ ?_
      rotate_left
      · intro wS hS; (try dsimp only at hS); go_simp <;> with_reducible rfl
      try simp only [Act.put, List.setIfInBounds_toArray, List.set_cons_zero, List.set_cons_succ]
      refine grow_take 35 (some 106) ?_ rfl rfl (by kernel_rfl) (fun _ _ _ h => h) (by kernel_rfl) hCalm ?_ ?_
      rotate_left
      · intro wS hS; (try dsimp only at hS); go_simp <;> with_reducible rfl
      try simp only [Act.put, List.setIfInBounds_toArray, List.set_cons_zero, List.set_cons_succ]
      refine grow_take 36 (some 107) ?_ rfl rfl (by kernel_rfl) (fun _ _ _ h => h) (by kernel_rfl) hCalm ?_ ?_
      rotate_left
      · intro wS hS; (try dsimp only at hS); go_simp <;> with_reducible rfl
      try simp only [Act.put, List.setIfInBounds_toArray, List.set_cons_zero, List.set_cons_succ]
      refine grow_take 37 (some 108) ?_ rfl rfl (by kernel_rfl) (fun _ _ _ h => h) (by kernel_rfl) hCalm ?_ ?_
      rotate_left
      · intro wS hS; (try dsimp only at hS); go_simp <;> with_reducible rfl
      try simp only [Act.put, List.setIfInBounds_toArray, List.set_cons_zero, List.set_cons_succ]
      refine grow_take 38 (some 109) ?_ rfl rfl (by kernel_rfl) (fun _ _ _ h => h) (by kernel_rfl) hCalm ?_ ?_
      rotate_left
      · intro wS hS; (try dsimp only at hS); go_simp <;> with_reducible rfl
      try simp only [Act.put, List.setIfInBounds_toArray, List.set_cons_zero, List.set_cons_succ]
      refine grow_take 39 (some 110) ?_ rfl rfl (by kernel_rfl) (fun _ _ _ h => h) (by kernel_rfl) hCalm ?_ ?_
      rotate_left
      · intro wS hS; (try dsimp only at hS); go_simp <;> with_reducible rfl
      try simp only [Act.put, List.setIfInBounds_toArray, List.set_cons_zero, List.set_cons_succ]
      refine grow_call 40 (some 111) (.int .i64 z) 12 [.tmp 110, .const (Go.Value.int Go.IntKind.i64 1001)] #[3, 3] rfl rfl (by kernel_rfl) (fun _ _ _ h => h) (by kernel_rfl) hCalm rfl (enters_of Try.func12 (by kernel_rfl) rfl) (fun wz _ => hz0.out wz) (by kernel_rfl) ?_
      try simp only [Act.put, List.setIfInBounds_toArray, List.set_cons_zero, List.set_cons_succ]
      refine grow_call 41 (some 112) (.bool true) 31 [.tmp 104, .tmp 109, .tmp 111] #[27, 29, 3] rfl rfl (by kernel_rfl) (fun _ _ _ h => h) (by kernel_rfl) hCalm rfl (enters_of Try.func31 (by kernel_rfl) rfl) (fun wz hS => HWI.out wz hS.2.2.2.2.2.2.2.2.2) (by kernel_rfl) ?_
      try simp only [Act.put, List.setIfInBounds_toArray, List.set_cons_zero, List.set_cons_succ]
      refine grow_take 42 (some 113) ?_ rfl rfl (by kernel_rfl) (fun _ _ _ h => h) (by kernel_rfl) hCalm ?_ ?_
      rotate_left
      · intro wS hS; (try dsimp only at hS); go_simp <;> with_reducible rfl
      try simp only [Act.put, List.setIfInBounds_toArray, List.set_cons_zero, List.set_cons_succ]
      refine grow_take 43 (some 114) ?_ rfl rfl (by kernel_rfl) (fun _ _ _ h => h) (by kernel_rfl) hCalm ?_ ?_
      rotate_left
      · intro wS hS; (try dsimp only at hS); go_simp <;> with_reducible rfl
      try simp only [Act.put, List.setIfInBounds_toArray, List.set_cons_zero, List.set_cons_succ]
      refine grow_done (by kernel_rfl) (fun wA hA => ?_) _
      have U2 : Hid (Below v4.heap.size v4 wA) := Lib.hid hA.1; have V2 : Hid (Blk wA v4.heap.size 69 #[.bool s0, .bool s1, .bool s2, .bool s3]) := Lib.hid hA.2.1; have D2 : Hid (Blk wA wr.heap.size 24 #[.int .i64 d.x, .int .i64 d.y, .int .i64 d.t, .int .i64 d.p]) := Lib.hid hA.2.2
      clear hA hCalm U1 V1 D1 t1 t2 t3 t4 t1d t2d t3d t4d HWI
      obtain ⟨pD, hpD⟩ : ∃ q, wr.heap.size = q := ⟨_, rfl⟩
      simp only [hpD] at D2 NEV ⊢
      clear hpD
      go_upto_region 17 with fail
      go_cut [] from 115 to 124 (fun wx => ∃ bb : Bool, (bb = true ↔ s0 = true ∨ d.x = x) ∧ (wA.setCell ⟨v4.heap.size, 0, none⟩ (.bool bb)) = wx)
      case first =>
        have v0 := V2.out.cell (i := 0) (v := .bool s0) rfl; have vf := V2.out.frozen 0
        have d0 := D2.out.cell (i := 0) (v := .int .i64 d.x) rfl; have d1 := D2.out.cell (i := 1) (v := .int .i64 d.y) rfl
        have r0 := (R_5.out.below U2.out R_5.out.lt).cell (i := 0) (v := .int .i64 x) rfl
        have r1 := (R_5.out.below U2.out R_5.out.lt).cell (i := 1) (v := .int .i64 y) rfl
        have r2 := (R_5.out.below U2.out R_5.out.lt).cell (i := 2) (v := .int .i64 ww) rfl
        have r3 := (R_5.out.below U2.out R_5.out.lt).cell (i := 3) (v := .int .i64 hh) rfl
        cases s0 with
        | true =>
          go_wp2_with fail
          go_meet
          exact ⟨_, (by simp), rfl⟩
        | false =>
          by_cases hq : d.x = x
          case pos =>
            go_wp2_with fail
            go_meet
            exact ⟨_, (by simp [hq]), rfl⟩
          case neg =>
            go_wp2_with fail
            go_meet
            exact ⟨_, (by simp [hq]), rfl⟩
      case rest =>
        obtain ⟨b0_, hb0_, rfl⟩ := hcut
        have HS0 := Lib.hid hb0_; clear hb0_
        have U3 : Hid (Below v4.heap.size v4 (wA.setCell ⟨v4.heap.size, 0, none⟩ (.bool b0_))) := Lib.hid (U2.out.setCell (p := ⟨v4.heap.size, 0, none⟩) (Nat.le_refl _) _)
        have V3 : Hid (Blk (wA.setCell ⟨v4.heap.size, 0, none⟩ (.bool b0_)) v4.heap.size 69 #[.bool b0_, .bool s1, .bool s2, .bool s3]) := Lib.hid (V2.out.set 0 _)
        have D3 : Hid (Blk (wA.setCell ⟨v4.heap.size, 0, none⟩ (.bool b0_)) pD 24 #[.int .i64 d.x, .int .i64 d.y, .int .i64 d.t, .int .i64 d.p]) := Lib.hid (D2.out.far (p := ⟨v4.heap.size, 0, none⟩) (by have := NEV.out; show pD ≠ v4.heap.size; omega) _)
        clear U2 V2 D2
        go_upto_region 18 with fail
        go_cut [] from 125 to 137 (fun wx => ∃ bb : Bool, (bb = true ↔ s1 = true ∨ d.x = x + ww) ∧ ((wA.setCell ⟨v4.heap.size, 0, none⟩ (.bool b0_)).setCell ⟨v4.heap.size, 1, none⟩ (.bool bb)) = wx)
        case first =>
          have v0 := V3.out.cell (i := 1) (v := .bool s1) rfl; have vf := V3.out.frozen 1
          have d0 := D3.out.cell (i := 0) (v := .int .i64 d.x) rfl; have d1 := D3.out.cell (i := 1) (v := .int .i64 d.y) rfl
          have r0 := (R_5.out.below U3.out R_5.out.lt).cell (i := 0) (v := .int .i64 x) rfl
          have r1 := (R_5.out.below U3.out R_5.out.lt).cell (i := 1) (v := .int .i64 y) rfl
          have r2 := (R_5.out.below U3.out R_5.out.lt).cell (i := 2) (v := .int .i64 ww) rfl
          have r3 := (R_5.out.below U3.out R_5.out.lt).cell (i := 3) (v := .int .i64 hh) rfl
          cases s1 with
          | true =>
            go_wp2_with fail
            go_meet
            exact ⟨_, (by simp), rfl⟩
          | false =>
            by_cases hq : d.x = x + ww
            case pos =>
              go_wp2_with fail
              go_meet
              exact ⟨_, (by simp [hq]), rfl⟩
            case neg =>
              go_wp2_with fail
              go_meet
              exact ⟨_, (by simp [hq]), rfl⟩
        case rest =>
          obtain ⟨b1_, hb1_, rfl⟩ := hcut
          have HS1 := Lib.hid hb1_; clear hb1_
          have U4 : Hid (Below v4.heap.size v4 ((wA.setCell ⟨v4.heap.size, 0, none⟩ (.bool b0_)).setCell ⟨v4.heap.size, 1, none⟩ (.bool b1_))) := Lib.hid (U3.out.setCell (p := ⟨v4.heap.size, 1, none⟩) (Nat.le_refl _) _)
          have V4 : Hid (Blk ((wA.setCell ⟨v4.heap.size, 0, none⟩ (.bool b0_)).setCell ⟨v4.heap.size, 1, none⟩ (.bool b1_)) v4.heap.size 69 #[.bool b0_, .bool b1_, .bool s2, .bool s3]) := Lib.hid (V3.out.set 1 _)
          have D4 : Hid (Blk ((wA.setCell ⟨v4.heap.size, 0, none⟩ (.bool b0_)).setCell ⟨v4.heap.size, 1, none⟩ (.bool b1_)) pD 24 #[.int .i64 d.x, .int .i64 d.y, .int .i64 d.t, .int .i64 d.p]) := Lib.hid (D3.out.far (p := ⟨v4.heap.size, 1, none⟩) (by have := NEV.out; show pD ≠ v4.heap.size; omega) _)
          clear U3 V3 D3
          go_upto_region 19 with fail
          go_cut [] from 138 to 147 (fun wx => ∃ bb : Bool, (bb = true ↔ s2 = true ∨ d.y = y) ∧ (((wA.setCell ⟨v4.heap.size, 0, none⟩ (.bool b0_)).setCell ⟨v4.heap.size, 1, none⟩ (.bool b1_)).setCell ⟨v4.heap.size, 2, none⟩ (.bool bb)) = wx)
          case first =>
            have v0 := V4.out.cell (i := 2) (v := .bool s2) rfl; have vf := V4.out.frozen 2
            have d0 := D4.out.cell (i := 0) (v := .int .i64 d.x) rfl; have d1 := D4.out.cell (i := 1) (v := .int .i64 d.y) rfl
            have r0 := (R_5.out.below U4.out R_5.out.lt).cell (i := 0) (v := .int .i64 x) rfl
            have r1 := (R_5.out.below U4.out R_5.out.lt).cell (i := 1) (v := .int .i64 y) rfl
            have r2 := (R_5.out.below U4.out R_5.out.lt).cell (i := 2) (v := .int .i64 ww) rfl
            have r3 := (R_5.out.below U4.out R_5.out.lt).cell (i := 3) (v := .int .i64 hh) rfl
            cases s2 with
            | true =>
              go_wp2_with fail
              go_meet
              exact ⟨_, (by simp), rfl⟩
            | false =>
              by_cases hq : d.y = y
              case pos =>
                go_wp2_with fail
                go_meet
                exact ⟨_, (by simp [hq]), rfl⟩
              case neg =>
                go_wp2_with fail
                go_meet
                exact ⟨_, (by simp [hq]), rfl⟩
          case rest =>
            obtain ⟨b2_, hb2_, rfl⟩ := hcut
            have HS2 := Lib.hid hb2_; clear hb2_
            have U5 : Hid (Below v4.heap.size v4 (((wA.setCell ⟨v4.heap.size, 0, none⟩ (.bool b0_)).setCell ⟨v4.heap.size, 1, none⟩ (.bool b1_)).setCell ⟨v4.heap.size, 2, none⟩ (.bool b2_))) := Lib.hid (U4.out.setCell (p := ⟨v4.heap.size, 2, none⟩) (Nat.le_refl _) _)
            have V5 : Hid (Blk (((wA.setCell ⟨v4.heap.size, 0, none⟩ (.bool b0_)).setCell ⟨v4.heap.size, 1, none⟩ (.bool b1_)).setCell ⟨v4.heap.size, 2, none⟩ (.bool b2_)) v4.heap.size 69 #[.bool b0_, .bool b1_, .bool b2_, .bool s3]) := Lib.hid (V4.out.set 2 _)
            have D5 : Hid (Blk (((wA.setCell ⟨v4.heap.size, 0, none⟩ (.bool b0_)).setCell ⟨v4.heap.size, 1, none⟩ (.bool b1_)).setCell ⟨v4.heap.size, 2, none⟩ (.bool b2_)) pD 24 #[.int .i64 d.x, .int .i64 d.y, .int .i64 d.t, .int .i64 d.p]) := Lib.hid (D4.out.far (p := ⟨v4.heap.size, 2, none⟩) (by have := NEV.out; show pD ≠ v4.heap.size; omega) _)
            clear U4 V4 D4
            have q5 : (i : Int) + 1 ≤ 9223372036854775807 := by have := HZL.out; have := HLT.out; omega
            have v0 := V5.out.cell (i := 3) (v := .bool s3) rfl; have vf := V5.out.frozen 3
            have d0 := D5.out.cell (i := 0) (v := .int .i64 d.x) rfl; have d1 := D5.out.cell (i := 1) (v := .int .i64 d.y) rfl
            have r0 := (R_5.out.below U5.out R_5.out.lt).cell (i := 0) (v := .int .i64 x) rfl
            have r1 := (R_5.out.below U5.out R_5.out.lt).cell (i := 1) (v := .int .i64 y) rfl
            have r2 := (R_5.out.below U5.out R_5.out.lt).cell (i := 2) (v := .int .i64 ww) rfl
            have r3 := (R_5.out.below U5.out R_5.out.lt).cell (i := 3) (v := .int .i64 hh) rfl
            cases s3 with
            | true =>
              go_wp2_with fail
              go_roundw
              case rel => exact ⟨i + 1, _, _, _, _, by go_num, by have := HLT.out; omega, ⟨HINV.out.1.step HDI.out HS0.out, HINV.out.2.1.step HDI.out HS1.out, HINV.out.2.2.1.step HDI.out HS2.out, HINV.out.2.2.2.step HDI.out (by simp)⟩, U5.out.setCell (p := ⟨v4.heap.size, 3, none⟩) (Nat.le_refl _) _, V5.out.set 3 _⟩
              case measure => have := HLT.out; simp [intOf]; omega
            | false =>
              by_cases hq : d.y = y + hh
              case pos =>
                go_wp2_with fail
                go_roundw
                case rel => exact ⟨i + 1, _, _, _, _, by go_num, by have := HLT.out; omega, ⟨HINV.out.1.step HDI.out HS0.out, HINV.out.2.1.step HDI.out HS1.out, HINV.out.2.2.1.step HDI.out HS2.out, HINV.out.2.2.2.step HDI.out (by simp [hq])⟩, U5.out.setCell (p := ⟨v4.heap.size, 3, none⟩) (Nat.le_refl _) _, V5.out.set 3 _⟩
                case measure => have := HLT.out; simp [intOf]; omega
              case neg =>
                go_wp2_with fail
                go_roundw
                case rel => exact ⟨i + 1, _, _, _, _, by go_num, by have := HLT.out; omega, ⟨HINV.out.1.step HDI.out HS0.out, HINV.out.2.1.step HDI.out HS1.out, HINV.out.2.2.1.step HDI.out HS2.out, HINV.out.2.2.2.step HDI.out (by simp [hq])⟩, U5.out.setCell (p := ⟨v4.heap.size, 3, none⟩) (Nat.le_refl _) _, V5.out.set 3 _⟩
                case measure => have := HLT.out; simp [intOf]; omega
end Go.Proofs.Ytamogfcedkjmcaa
