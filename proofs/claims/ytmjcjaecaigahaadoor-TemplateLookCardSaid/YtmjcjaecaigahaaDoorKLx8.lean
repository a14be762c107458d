/- The walk of TemplateLook. Conditions: a slice of triples that reads, the tables. -/
import Derived.Test.YtmjcjaecaigahaaDoorKLw8
namespace Go.Proofs.YtmjcjaecaigahaaDoor
open Go.RowKit Go.Lib

theorem max4_8 (a b c d : Int) : (if d > (if c > (if b > a then b else a) then c else if b > a then b else a) then d else if c > (if b > a then b else a) then c else if b > a then b else a) ≤ 120 ↔ (a ≤ 120 ∧ b ≤ 120) ∧ (c ≤ 120 ∧ d ≤ 120) := by
  generalize h1 : (if b > a then b else a) = m1
  generalize h2 : (if c > m1 then c else m1) = m2
  split at h1 <;> split at h2 <;> split <;> omega
theorem run_max4_8 (a b c d : Int) : ∃ mx : Int, (∀ W, (Builtin.max_ #[3, 3, 3, 3] 3 #[.int .i64 a, .int .i64 b, .int .i64 c, .int .i64 d]).run Tryd.prog W = .ok (.int .i64 mx) W) ∧ (mx ≤ 120 ↔ (a ≤ 120 ∧ b ≤ 120) ∧ (c ≤ 120 ∧ d ≤ 120)) :=
  ⟨(if d > (if c > (if b > a then b else a) then c else if b > a then b else a) then d else if c > (if b > a then b else a) then c else if b > a then b else a), fun W => by
    simp [Builtin.max_, go_sem]; rfl, max4_8 a b c d⟩
set_option maxRecDepth 100000 in
set_option maxHeartbeats 32000000 in
theorem look8_law (p0 q0 u0 u1 u2 u3 : Int) (A0 : Option Addr) (n c : Nat) (w : World) (hT : Tb8 w) (hA : Tz w A0 n) (hz : n ≤ 9223372036854775807) (hp0 : I8 p0) (hq0 : I8 q0) (h0 : I8 u0) (h1 : I8 u1) (h2 : I8 u2) (h3 : I8 u3) :
    Yl 8 #[.int .i64 p0, .int .i64 q0, .slice A0 n c, .agg #[.int .i64 u0, .int .i64 u1, .int .i64 u2, .int .i64 u3]] w (.bool true) := by
  have HMD := Lib.hid (fun W (h : Tz W A0 n) => lmade_any p0 q0 A0 n c W h hz hp0 hq0)
  have HP0 := Lib.hid (fun W => lpick8_any u0 4096 W h0 (by omega)); have HP1 := Lib.hid (fun W => lpick8_any u1 4096 W h1 (by omega))
  have HP2 := Lib.hid (fun W => lpick8_any u2 4096 W h2 (by omega)); have HP3 := Lib.hid (fun W => lpick8_any u3 4096 W h3 (by omega))
  have b0 := pk8_in u0 (n := 4096) (by omega); have b1 := pk8_in u1 (n := 4096) (by omega); have b2 := pk8_in u2 (n := 4096) (by omega); have b3 := pk8_in u3 (n := 4096) (by omega)
  obtain ⟨a, ha⟩ : ∃ a : P7, a = ⟨pk8 u0 4096, pk8 u1 4096⟩ := ⟨_, rfl⟩
  obtain ⟨b, hb0⟩ : ∃ b : P7, b = ⟨pk8 u2 4096, pk8 u3 4096⟩ := ⟨_, rfl⟩
  have HAB : Hid (a.ok ∧ b.ok) := Lib.hid (by rw [ha, hb0]; unfold P7.ok; simp only; omega)
  rw [show pk8 u0 4096 = a.x by rw [ha]] at HP0; rw [show pk8 u1 4096 = a.y by rw [ha]] at HP1; rw [show pk8 u2 4096 = b.x by rw [hb0]] at HP2; rw [show pk8 u3 4096 = b.y by rw [hb0]] at HP3
  clear ha hb0 b0 b1 b2 b3 h0 h1 h2 h3 hp0 hq0 hz
  have B_0 : Hid (Blk (w.alloc (.cells #[.int .i64 u0, .int .i64 u1, .int .i64 u2, .int .i64 u3] 74)) w.heap.size 74 #[.int .i64 u0, .int .i64 u1, .int .i64 u2, .int .i64 u3]) := allocs_blk [(#[.int .i64 u0, .int .i64 u1, .int .i64 u2, .int .i64 u3], 74)] w 0 _ rfl
  have HB_0 : Hid (Below w.heap.size w (w.alloc (.cells #[.int .i64 u0, .int .i64 u1, .int .i64 u2, .int .i64 u3] 74))) := allocs_below [(#[.int .i64 u0, .int .i64 u1, .int .i64 u2, .int .i64 u3], 74)] w (Below.refl w.heap.size w) (Nat.le_refl _)
  have TB_0 : Hid (Tb8 (w.alloc (.cells #[.int .i64 u0, .int .i64 u1, .int .i64 u2, .int .i64 u3] 74))) := Lib.hid (hT.below HB_0.out (Nat.le_refl _))
  have TZ_0 : Hid (Tz (w.alloc (.cells #[.int .i64 u0, .int .i64 u1, .int .i64 u2, .int .i64 u3] 74)) A0 n) := Lib.hid (hA.below HB_0.out (Nat.le_refl _))
  clear hT hA
  go_enter Tryd.func8, Tryd.ntmps8
  go_wp2_with fail
  refine (sane8_any _ TB_0.out).mono ?_
  rintro e v0 ⟨rfl, hb⟩
  have TB_1 : Hid (Tb8 v0) := Lib.hid (TB_0.out.below hb (Nat.le_refl _))
  have TZ_1 : Hid (Tz v0 A0 n) := Lib.hid (TZ_0.out.below hb (Nat.le_refl _))
  clear TB_0 TZ_0
  have B_1 : Hid (Blk v0 w.heap.size 74 #[.int .i64 u0, .int .i64 u1, .int .i64 u2, .int .i64 u3]) := Lib.hid (B_0.out.below hb B_0.out.lt)
  have HB_1 : Hid (Below w.heap.size w v0) := Lib.hid (HB_0.out.trans (hb.mono HB_0.out.size))
  clear hb B_0 HB_0
  go_wp2_with fail
  refine (HMD.out _ TZ_1.out).mono ?_
  rintro e v1 ⟨P, N, ds, A1, k1, rfl, hvd, -, hdz, hk1, -, hb⟩
  have HVD := Lib.hid hvd; have HK1 := Lib.hid hk1; clear hvd hk1
  have DS_1 := Lib.hid hdz
  have TB_2 : Hid (Tb8 (v1.alloc (.cells #[.int .i64 P, .int .i64 N, .slice A1 ds.length k1] 26))) := Lib.hid (TB_1.out.below (allocs_below [(#[.int .i64 P, .int .i64 N, .slice A1 ds.length k1], 26)] _ hb hb.size) (Nat.le_refl _))
  have TZ_2 : Hid (Tz (v1.alloc (.cells #[.int .i64 P, .int .i64 N, .slice A1 ds.length k1] 26)) A0 n) := Lib.hid (TZ_1.out.below (allocs_below [(#[.int .i64 P, .int .i64 N, .slice A1 ds.length k1], 26)] _ hb hb.size) (Nat.le_refl _))
  have DS_2 : Hid (Dz (v1.alloc (.cells #[.int .i64 P, .int .i64 N, .slice A1 ds.length k1] 26)) A1 ds) := Lib.hid (DS_1.out.below (allocs_below [(#[.int .i64 P, .int .i64 N, .slice A1 ds.length k1], 26)] _ (Below.refl _ _) (Nat.le_refl _)) (Nat.le_refl _))
  clear TB_1 TZ_1 DS_1
  have B_2 : Hid (Blk (v1.alloc (.cells #[.int .i64 P, .int .i64 N, .slice A1 ds.length k1] 26)) w.heap.size 74 #[.int .i64 u0, .int .i64 u1, .int .i64 u2, .int .i64 u3]) := Lib.hid (allocs_keep [(#[.int .i64 P, .int .i64 N, .slice A1 ds.length k1], 26)] _ (B_1.out.below hb B_1.out.lt))
  have HB_2 : Hid (Below w.heap.size w (v1.alloc (.cells #[.int .i64 P, .int .i64 N, .slice A1 ds.length k1] 26))) := Lib.hid (allocs_below [(#[.int .i64 P, .int .i64 N, .slice A1 ds.length k1], 26)] _ (HB_1.out.trans (hb.mono HB_1.out.size)) (HB_1.out.trans (hb.mono HB_1.out.size)).size)
  have S_2 : Hid (Blk (v1.alloc (.cells #[.int .i64 P, .int .i64 N, .slice A1 ds.length k1] 26)) v1.heap.size 26 #[.int .i64 P, .int .i64 N, .slice A1 ds.length k1]) := Lib.hid (allocs_blk [(#[.int .i64 P, .int .i64 N, .slice A1 ds.length k1], 26)] v1 0 _ rfl)
  clear hb B_1 HB_1
  clear hdz
  have yy0 := S_2.out.cell (i := 0) (v := .int .i64 P) rfl; have yy1 := S_2.out.cell (i := 1) (v := .int .i64 N) rfl; have yy2 := S_2.out.cell (i := 2) (v := .slice A1 ds.length k1) rfl
  go_wp2_with fail
  refine (look8_more P N ds A1 k1 _ DS_2.out HK1.out HVD.out TB_2.out.1).mono ?_
  rintro e v2 ⟨⟨v, rfl, hz, M, hth, hlk⟩, hb⟩
  have hlw := lw8_of HVD.out hth
  rw [← hlk] at hlw
  obtain ⟨F, hF⟩ : ∃ F, F = look8 ds := ⟨_, rfl⟩
  rw [← hF] at hlw hz
  have HLW := Lib.hid hlw
  clear hlw hlk hF hth
  obtain ⟨p, q, rfl, -, hpz, hqz⟩ := hz
  have hpz := hpz.reads; have hqz := hqz.reads
  clear yy0 yy1 yy2
  have PZ_2 := Lib.hid hpz
  have IZ_2 := Lib.hid hqz
  have TB_3 : Hid (Tb8 (v2.alloc (.cells #[.slice (some ⟨p, 0, none⟩) F.ps.length F.ps.length, .slice (some ⟨q, 0, none⟩) F.ss.length F.ss.length, .bool F.cl] 48))) := Lib.hid (TB_2.out.below (allocs_below [(#[.slice (some ⟨p, 0, none⟩) F.ps.length F.ps.length, .slice (some ⟨q, 0, none⟩) F.ss.length F.ss.length, .bool F.cl], 48)] _ hb hb.size) (Nat.le_refl _))
  have TZ_3 : Hid (Tz (v2.alloc (.cells #[.slice (some ⟨p, 0, none⟩) F.ps.length F.ps.length, .slice (some ⟨q, 0, none⟩) F.ss.length F.ss.length, .bool F.cl] 48)) A0 n) := Lib.hid (TZ_2.out.below (allocs_below [(#[.slice (some ⟨p, 0, none⟩) F.ps.length F.ps.length, .slice (some ⟨q, 0, none⟩) F.ss.length F.ss.length, .bool F.cl], 48)] _ hb hb.size) (Nat.le_refl _))
  have DS_3 : Hid (Dz (v2.alloc (.cells #[.slice (some ⟨p, 0, none⟩) F.ps.length F.ps.length, .slice (some ⟨q, 0, none⟩) F.ss.length F.ss.length, .bool F.cl] 48)) A1 ds) := Lib.hid (DS_2.out.below (allocs_below [(#[.slice (some ⟨p, 0, none⟩) F.ps.length F.ps.length, .slice (some ⟨q, 0, none⟩) F.ss.length F.ss.length, .bool F.cl], 48)] _ hb hb.size) (Nat.le_refl _))
  have PZ_3 : Hid (Pz (v2.alloc (.cells #[.slice (some ⟨p, 0, none⟩) F.ps.length F.ps.length, .slice (some ⟨q, 0, none⟩) F.ss.length F.ss.length, .bool F.cl] 48)) (some ⟨p, 0, none⟩) F.ps) := Lib.hid (PZ_2.out.below (allocs_below [(#[.slice (some ⟨p, 0, none⟩) F.ps.length F.ps.length, .slice (some ⟨q, 0, none⟩) F.ss.length F.ss.length, .bool F.cl], 48)] _ (Below.refl _ _) (Nat.le_refl _)) (Nat.le_refl _))
  have IZ_3 : Hid (Iz (v2.alloc (.cells #[.slice (some ⟨p, 0, none⟩) F.ps.length F.ps.length, .slice (some ⟨q, 0, none⟩) F.ss.length F.ss.length, .bool F.cl] 48)) (some ⟨q, 0, none⟩) F.ss) := Lib.hid (IZ_2.out.below (allocs_below [(#[.slice (some ⟨p, 0, none⟩) F.ps.length F.ps.length, .slice (some ⟨q, 0, none⟩) F.ss.length F.ss.length, .bool F.cl], 48)] _ (Below.refl _ _) (Nat.le_refl _)) (Nat.le_refl _))
  clear TB_2 TZ_2 DS_2 PZ_2 IZ_2
  have B_3 : Hid (Blk (v2.alloc (.cells #[.slice (some ⟨p, 0, none⟩) F.ps.length F.ps.length, .slice (some ⟨q, 0, none⟩) F.ss.length F.ss.length, .bool F.cl] 48)) w.heap.size 74 #[.int .i64 u0, .int .i64 u1, .int .i64 u2, .int .i64 u3]) := Lib.hid (allocs_keep [(#[.slice (some ⟨p, 0, none⟩) F.ps.length F.ps.length, .slice (some ⟨q, 0, none⟩) F.ss.length F.ss.length, .bool F.cl], 48)] _ (B_2.out.below hb B_2.out.lt))
  have S_3 : Hid (Blk (v2.alloc (.cells #[.slice (some ⟨p, 0, none⟩) F.ps.length F.ps.length, .slice (some ⟨q, 0, none⟩) F.ss.length F.ss.length, .bool F.cl] 48)) v1.heap.size 26 #[.int .i64 P, .int .i64 N, .slice A1 ds.length k1]) := Lib.hid (allocs_keep [(#[.slice (some ⟨p, 0, none⟩) F.ps.length F.ps.length, .slice (some ⟨q, 0, none⟩) F.ss.length F.ss.length, .bool F.cl], 48)] _ (S_2.out.below hb S_2.out.lt))
  have HB_3 : Hid (Below w.heap.size w (v2.alloc (.cells #[.slice (some ⟨p, 0, none⟩) F.ps.length F.ps.length, .slice (some ⟨q, 0, none⟩) F.ss.length F.ss.length, .bool F.cl] 48))) := Lib.hid (allocs_below [(#[.slice (some ⟨p, 0, none⟩) F.ps.length F.ps.length, .slice (some ⟨q, 0, none⟩) F.ss.length F.ss.length, .bool F.cl], 48)] _ (HB_2.out.trans (hb.mono HB_2.out.size)) (HB_2.out.trans (hb.mono HB_2.out.size)).size)
  have F_3 : Hid (Blk (v2.alloc (.cells #[.slice (some ⟨p, 0, none⟩) F.ps.length F.ps.length, .slice (some ⟨q, 0, none⟩) F.ss.length F.ss.length, .bool F.cl] 48)) v2.heap.size 48 #[.slice (some ⟨p, 0, none⟩) F.ps.length F.ps.length, .slice (some ⟨q, 0, none⟩) F.ss.length F.ss.length, .bool F.cl]) := Lib.hid (allocs_blk [(#[.slice (some ⟨p, 0, none⟩) F.ps.length F.ps.length, .slice (some ⟨q, 0, none⟩) F.ss.length F.ss.length, .bool F.cl], 48)] v2 0 _ rfl)
  clear hb B_2 S_2 HB_2
  clear hpz hqz
  obtain ⟨f, hf⟩ : ∃ f, f = pt8 ds 0 := ⟨_, rfl⟩
  obtain ⟨t, ht⟩ : ∃ t, t = pt8 ds (ds.length - 1) := ⟨_, rfl⟩
  have HEN := Lib.hid (fun W (h : Dz W A1 ds) => pends8 P N ds A1 k1 W h HVD.out)
  have HN1 := Lib.hid HLW.out.n1; have HLE := Lib.hid HLW.out.len; have HF1 := Lib.hid HLW.out.first; have HF2 := Lib.hid HLW.out.last; have HCL := Lib.hid HLW.out.cl
  rw [← hf, ← ht] at HEN HCL; rw [← hf] at HF1; rw [← ht] at HF2
  have HFT : Hid (f.ok ∧ t.ok) := Lib.hid ⟨HLW.out.ok _ (List.mem_of_getElem? HF1.out), HLW.out.ok _ (List.mem_of_getElem? HF2.out)⟩
  clear hf ht
  have yy0 := S_3.out.cell (i := 0) (v := .int .i64 P) rfl; have yy1 := S_3.out.cell (i := 1) (v := .int .i64 N) rfl; have yy2 := S_3.out.cell (i := 2) (v := .slice A1 ds.length k1) rfl
  go_wp2_with fail
  refine (HEN.out _ DS_3.out).mono ?_
  rintro e v3 ⟨rfl, hb⟩
  clear yy0 yy1 yy2
  have TB_4 : Hid (Tb8 ((v3.alloc (.cells #[.int .i64 f.x, .int .i64 f.y] 28)).alloc (.cells #[.int .i64 t.x, .int .i64 t.y] 28))) := Lib.hid (TB_3.out.below (allocs_below [(#[.int .i64 f.x, .int .i64 f.y], 28), (#[.int .i64 t.x, .int .i64 t.y], 28)] _ hb hb.size) (Nat.le_refl _))
  have TZ_4 : Hid (Tz ((v3.alloc (.cells #[.int .i64 f.x, .int .i64 f.y] 28)).alloc (.cells #[.int .i64 t.x, .int .i64 t.y] 28)) A0 n) := Lib.hid (TZ_3.out.below (allocs_below [(#[.int .i64 f.x, .int .i64 f.y], 28), (#[.int .i64 t.x, .int .i64 t.y], 28)] _ hb hb.size) (Nat.le_refl _))
  have DS_4 : Hid (Dz ((v3.alloc (.cells #[.int .i64 f.x, .int .i64 f.y] 28)).alloc (.cells #[.int .i64 t.x, .int .i64 t.y] 28)) A1 ds) := Lib.hid (DS_3.out.below (allocs_below [(#[.int .i64 f.x, .int .i64 f.y], 28), (#[.int .i64 t.x, .int .i64 t.y], 28)] _ hb hb.size) (Nat.le_refl _))
  have PZ_4 : Hid (Pz ((v3.alloc (.cells #[.int .i64 f.x, .int .i64 f.y] 28)).alloc (.cells #[.int .i64 t.x, .int .i64 t.y] 28)) (some ⟨p, 0, none⟩) F.ps) := Lib.hid (PZ_3.out.below (allocs_below [(#[.int .i64 f.x, .int .i64 f.y], 28), (#[.int .i64 t.x, .int .i64 t.y], 28)] _ hb hb.size) (Nat.le_refl _))
  have IZ_4 : Hid (Iz ((v3.alloc (.cells #[.int .i64 f.x, .int .i64 f.y] 28)).alloc (.cells #[.int .i64 t.x, .int .i64 t.y] 28)) (some ⟨q, 0, none⟩) F.ss) := Lib.hid (IZ_3.out.below (allocs_below [(#[.int .i64 f.x, .int .i64 f.y], 28), (#[.int .i64 t.x, .int .i64 t.y], 28)] _ hb hb.size) (Nat.le_refl _))
  clear TB_3 TZ_3 DS_3 PZ_3 IZ_3
  have B_4 : Hid (Blk ((v3.alloc (.cells #[.int .i64 f.x, .int .i64 f.y] 28)).alloc (.cells #[.int .i64 t.x, .int .i64 t.y] 28)) w.heap.size 74 #[.int .i64 u0, .int .i64 u1, .int .i64 u2, .int .i64 u3]) := Lib.hid (allocs_keep [(#[.int .i64 f.x, .int .i64 f.y], 28), (#[.int .i64 t.x, .int .i64 t.y], 28)] _ (B_3.out.below hb B_3.out.lt))
  have S_4 : Hid (Blk ((v3.alloc (.cells #[.int .i64 f.x, .int .i64 f.y] 28)).alloc (.cells #[.int .i64 t.x, .int .i64 t.y] 28)) v1.heap.size 26 #[.int .i64 P, .int .i64 N, .slice A1 ds.length k1]) := Lib.hid (allocs_keep [(#[.int .i64 f.x, .int .i64 f.y], 28), (#[.int .i64 t.x, .int .i64 t.y], 28)] _ (S_3.out.below hb S_3.out.lt))
  have F_4 : Hid (Blk ((v3.alloc (.cells #[.int .i64 f.x, .int .i64 f.y] 28)).alloc (.cells #[.int .i64 t.x, .int .i64 t.y] 28)) v2.heap.size 48 #[.slice (some ⟨p, 0, none⟩) F.ps.length F.ps.length, .slice (some ⟨q, 0, none⟩) F.ss.length F.ss.length, .bool F.cl]) := Lib.hid (allocs_keep [(#[.int .i64 f.x, .int .i64 f.y], 28), (#[.int .i64 t.x, .int .i64 t.y], 28)] _ (F_3.out.below hb F_3.out.lt))
  have HB_4 : Hid (Below w.heap.size w ((v3.alloc (.cells #[.int .i64 f.x, .int .i64 f.y] 28)).alloc (.cells #[.int .i64 t.x, .int .i64 t.y] 28))) := Lib.hid (allocs_below [(#[.int .i64 f.x, .int .i64 f.y], 28), (#[.int .i64 t.x, .int .i64 t.y], 28)] _ (HB_3.out.trans (hb.mono HB_3.out.size)) (HB_3.out.trans (hb.mono HB_3.out.size)).size)
  have E_4 : Hid (Blk ((v3.alloc (.cells #[.int .i64 f.x, .int .i64 f.y] 28)).alloc (.cells #[.int .i64 t.x, .int .i64 t.y] 28)) v3.heap.size 28 #[.int .i64 f.x, .int .i64 f.y]) := Lib.hid (allocs_blk [(#[.int .i64 f.x, .int .i64 f.y], 28), (#[.int .i64 t.x, .int .i64 t.y], 28)] v3 0 _ rfl)
  have G_4 : Hid (Blk ((v3.alloc (.cells #[.int .i64 f.x, .int .i64 f.y] 28)).alloc (.cells #[.int .i64 t.x, .int .i64 t.y] 28)) (v3.heap.size + 1) 28 #[.int .i64 t.x, .int .i64 t.y]) := Lib.hid (allocs_blk [(#[.int .i64 f.x, .int .i64 f.y], 28), (#[.int .i64 t.x, .int .i64 t.y], 28)] v3 1 _ rfl)
  clear hb B_3 S_3 F_3 HB_3
  obtain ⟨m, hm⟩ : ∃ m, m = F.ps.length := ⟨_, rfl⟩
  have HM := Lib.hid hm
  have hn1 := HN1.out; have hle := HLE.out
  rw [← hm] at hn1 hle
  have q1 : ¬ (m : Int) < 1 := by omega
  have e1 : IntKind.i64.wrap ((m : Int) - 1) = ((m - 1 : Nat) : Int) := by rw [IntWalk.i64_in _ (by omega)]; omega
  have q2 : ((m - 1 : Nat) : Int) < (m : Int) := by omega
  have q3 : (0 : Int) ≤ ((m - 1 : Nat) : Int) := by omega
  have q4 : (0 : Int) < (m : Int) := by omega
  have q5 : 0 < m := by omega
  have hPZ := PZ_4.out; have hF2 := HF2.out; have hF1 := HF1.out
  have hlx : ((v3.alloc (.cells #[.int .i64 f.x, .int .i64 f.y] 28)).alloc (.cells #[.int .i64 t.x, .int .i64 t.y] 28)).cell? ⟨p, (m - 1) * 2, none⟩ = some (.int .i64 t.x) := by have h := hPZ.at (i := m - 1) (j := 0) (v := .int .i64 t.x) (by omega) (by have h9 := List.getElem?_eq_some_iff.1 (hm ▸ hF2); rw [h9.2]; rfl); simpa using h
  have hly : ((v3.alloc (.cells #[.int .i64 f.x, .int .i64 f.y] 28)).alloc (.cells #[.int .i64 t.x, .int .i64 t.y] 28)).cell? ⟨p, (m - 1) * 2 + 1, none⟩ = some (.int .i64 t.y) := by have h := hPZ.at (i := m - 1) (j := 1) (v := .int .i64 t.y) (by omega) (by have h9 := List.getElem?_eq_some_iff.1 (hm ▸ hF2); rw [h9.2]; rfl); simpa using h
  have hHX : Hid (∀ W, Below (((v3.alloc (.cells #[.int .i64 f.x, .int .i64 f.y] 28)).alloc (.cells #[.int .i64 t.x, .int .i64 t.y] 28))).heap.size ((v3.alloc (.cells #[.int .i64 f.x, .int .i64 f.y] 28)).alloc (.cells #[.int .i64 t.x, .int .i64 t.y] 28)) W → W.cell? ⟨p, 0, none⟩ = some (.int .i64 f.x) ∧ W.cell? ⟨p, 1, none⟩ = some (.int .i64 f.y)) := Lib.hid (fun W hb => ⟨by have h := (hPZ.below hb (Nat.le_refl _)).at (i := 0) (j := 0) (v := .int .i64 f.x) (by omega) (by have h9 := List.getElem?_eq_some_iff.1 hF1; rw [h9.2]; rfl); simpa using h, by have h := (hPZ.below hb (Nat.le_refl _)).at (i := 0) (j := 1) (v := .int .i64 f.y) (by omega) (by have h9 := List.getElem?_eq_some_iff.1 hF1; rw [h9.2]; rfl); simpa using h⟩)
  have HML := Lib.hid hle
  obtain ⟨cl, hcl⟩ : ∃ cl, cl = F.cl := ⟨_, rfl⟩
  have HCM : Hid (cl = (decide (4 ≤ m) && nr8 f t)) := Lib.hid (by rw [hcl, HCL.out, ← hm])
  have hFm := F_4.out
  rw [hle, ← hm, ← hcl] at hFm
  clear F_4; have F_4 := Lib.hid hFm; clear hFm
  rw [hle, ← hm, ← hcl]
  clear hPZ hF2 hF1 hcl hm
  have yy0 := F_4.out.cell (i := 0) (v := .slice (some ⟨p, 0, none⟩) m m) rfl; have yy1 := F_4.out.cell (i := 1) (v := .slice (some ⟨q, 0, none⟩) (m - 1) (m - 1)) rfl; have yy2 := F_4.out.cell (i := 2) (v := .bool cl) rfl
  go_upto_region 9 with fail
  clear yy0 yy1 yy2
  have yy0 := F_4.out.cell (i := 0) (v := .slice (some ⟨p, 0, none⟩) m m) rfl; have yy1 := F_4.out.cell (i := 1) (v := .slice (some ⟨q, 0, none⟩) (m - 1) (m - 1)) rfl; have yy2 := F_4.out.cell (i := 2) (v := .bool cl) rfl
  go_upto_region 10 with fail
  clear yy0 yy1 yy2
  have hb := Below.refl ((v3.alloc (.cells #[.int .i64 f.x, .int .i64 f.y] 28)).alloc (.cells #[.int .i64 t.x, .int .i64 t.y] 28)).heap.size ((v3.alloc (.cells #[.int .i64 f.x, .int .i64 f.y] 28)).alloc (.cells #[.int .i64 t.x, .int .i64 t.y] 28))
  have TB_5 : Hid (Tb8 (((v3.alloc (.cells #[.int .i64 f.x, .int .i64 f.y] 28)).alloc (.cells #[.int .i64 t.x, .int .i64 t.y] 28)).alloc (.cells #[.int .i64 t.x, .int .i64 t.y] 28))) := Lib.hid (TB_4.out.below (allocs_below [(#[.int .i64 t.x, .int .i64 t.y], 28)] _ hb hb.size) (Nat.le_refl _))
  have TZ_5 : Hid (Tz (((v3.alloc (.cells #[.int .i64 f.x, .int .i64 f.y] 28)).alloc (.cells #[.int .i64 t.x, .int .i64 t.y] 28)).alloc (.cells #[.int .i64 t.x, .int .i64 t.y] 28)) A0 n) := Lib.hid (TZ_4.out.below (allocs_below [(#[.int .i64 t.x, .int .i64 t.y], 28)] _ hb hb.size) (Nat.le_refl _))
  have DS_5 : Hid (Dz (((v3.alloc (.cells #[.int .i64 f.x, .int .i64 f.y] 28)).alloc (.cells #[.int .i64 t.x, .int .i64 t.y] 28)).alloc (.cells #[.int .i64 t.x, .int .i64 t.y] 28)) A1 ds) := Lib.hid (DS_4.out.below (allocs_below [(#[.int .i64 t.x, .int .i64 t.y], 28)] _ hb hb.size) (Nat.le_refl _))
  have PZ_5 : Hid (Pz (((v3.alloc (.cells #[.int .i64 f.x, .int .i64 f.y] 28)).alloc (.cells #[.int .i64 t.x, .int .i64 t.y] 28)).alloc (.cells #[.int .i64 t.x, .int .i64 t.y] 28)) (some ⟨p, 0, none⟩) F.ps) := Lib.hid (PZ_4.out.below (allocs_below [(#[.int .i64 t.x, .int .i64 t.y], 28)] _ hb hb.size) (Nat.le_refl _))
  have IZ_5 : Hid (Iz (((v3.alloc (.cells #[.int .i64 f.x, .int .i64 f.y] 28)).alloc (.cells #[.int .i64 t.x, .int .i64 t.y] 28)).alloc (.cells #[.int .i64 t.x, .int .i64 t.y] 28)) (some ⟨q, 0, none⟩) F.ss) := Lib.hid (IZ_4.out.below (allocs_below [(#[.int .i64 t.x, .int .i64 t.y], 28)] _ hb hb.size) (Nat.le_refl _))
  clear TB_4 TZ_4 DS_4 PZ_4 IZ_4
  have B_5 : Hid (Blk (((v3.alloc (.cells #[.int .i64 f.x, .int .i64 f.y] 28)).alloc (.cells #[.int .i64 t.x, .int .i64 t.y] 28)).alloc (.cells #[.int .i64 t.x, .int .i64 t.y] 28)) w.heap.size 74 #[.int .i64 u0, .int .i64 u1, .int .i64 u2, .int .i64 u3]) := Lib.hid (allocs_keep [(#[.int .i64 t.x, .int .i64 t.y], 28)] _ (B_4.out.below hb B_4.out.lt))
  have S_5 : Hid (Blk (((v3.alloc (.cells #[.int .i64 f.x, .int .i64 f.y] 28)).alloc (.cells #[.int .i64 t.x, .int .i64 t.y] 28)).alloc (.cells #[.int .i64 t.x, .int .i64 t.y] 28)) v1.heap.size 26 #[.int .i64 P, .int .i64 N, .slice A1 ds.length k1]) := Lib.hid (allocs_keep [(#[.int .i64 t.x, .int .i64 t.y], 28)] _ (S_4.out.below hb S_4.out.lt))
  have F_5 : Hid (Blk (((v3.alloc (.cells #[.int .i64 f.x, .int .i64 f.y] 28)).alloc (.cells #[.int .i64 t.x, .int .i64 t.y] 28)).alloc (.cells #[.int .i64 t.x, .int .i64 t.y] 28)) v2.heap.size 48 #[.slice (some ⟨p, 0, none⟩) m m, .slice (some ⟨q, 0, none⟩) (m - 1) (m - 1), .bool cl]) := Lib.hid (allocs_keep [(#[.int .i64 t.x, .int .i64 t.y], 28)] _ (F_4.out.below hb F_4.out.lt))
  have E_5 : Hid (Blk (((v3.alloc (.cells #[.int .i64 f.x, .int .i64 f.y] 28)).alloc (.cells #[.int .i64 t.x, .int .i64 t.y] 28)).alloc (.cells #[.int .i64 t.x, .int .i64 t.y] 28)) v3.heap.size 28 #[.int .i64 f.x, .int .i64 f.y]) := Lib.hid (allocs_keep [(#[.int .i64 t.x, .int .i64 t.y], 28)] _ (E_4.out.below hb E_4.out.lt))
  have G_5 : Hid (Blk (((v3.alloc (.cells #[.int .i64 f.x, .int .i64 f.y] 28)).alloc (.cells #[.int .i64 t.x, .int .i64 t.y] 28)).alloc (.cells #[.int .i64 t.x, .int .i64 t.y] 28)) (v3.heap.size + 1) 28 #[.int .i64 t.x, .int .i64 t.y]) := Lib.hid (allocs_keep [(#[.int .i64 t.x, .int .i64 t.y], 28)] _ (G_4.out.below hb G_4.out.lt))
  have HB_5 : Hid (Below w.heap.size w (((v3.alloc (.cells #[.int .i64 f.x, .int .i64 f.y] 28)).alloc (.cells #[.int .i64 t.x, .int .i64 t.y] 28)).alloc (.cells #[.int .i64 t.x, .int .i64 t.y] 28))) := Lib.hid (allocs_below [(#[.int .i64 t.x, .int .i64 t.y], 28)] _ (HB_4.out.trans (hb.mono HB_4.out.size)) (HB_4.out.trans (hb.mono HB_4.out.size)).size)
  have K_5 : Hid (Blk (((v3.alloc (.cells #[.int .i64 f.x, .int .i64 f.y] 28)).alloc (.cells #[.int .i64 t.x, .int .i64 t.y] 28)).alloc (.cells #[.int .i64 t.x, .int .i64 t.y] 28)) ((v3.alloc (.cells #[.int .i64 f.x, .int .i64 f.y] 28)).alloc (.cells #[.int .i64 t.x, .int .i64 t.y] 28)).heap.size 28 #[.int .i64 t.x, .int .i64 t.y]) := Lib.hid (allocs_blk [(#[.int .i64 t.x, .int .i64 t.y], 28)] ((v3.alloc (.cells #[.int .i64 f.x, .int .i64 f.y] 28)).alloc (.cells #[.int .i64 t.x, .int .i64 t.y] 28)) 0 _ rfl)
  clear hb B_4 S_4 F_4 E_4 G_4 HB_4
  have hK := K_5.out; simp only [World.size_alloc] at hK; clear K_5; have K_5 : Hid (Blk (((v3.alloc (.cells #[.int .i64 f.x, .int .i64 f.y] 28)).alloc (.cells #[.int .i64 t.x, .int .i64 t.y] 28)).alloc (.cells #[.int .i64 t.x, .int .i64 t.y] 28)) (v3.heap.size + 1 + 1) 28 #[.int .i64 t.x, .int .i64 t.y]) := Lib.hid hK; clear hK
  clear hlx hly
  have HX2 : Hid (∀ W, Below (((v3.alloc (.cells #[.int .i64 f.x, .int .i64 f.y] 28)).alloc (.cells #[.int .i64 t.x, .int .i64 t.y] 28)).alloc (.cells #[.int .i64 t.x, .int .i64 t.y] 28)).heap.size (((v3.alloc (.cells #[.int .i64 f.x, .int .i64 f.y] 28)).alloc (.cells #[.int .i64 t.x, .int .i64 t.y] 28)).alloc (.cells #[.int .i64 t.x, .int .i64 t.y] 28)) W → W.cell? ⟨p, 0, none⟩ = some (.int .i64 f.x) ∧ W.cell? ⟨p, 1, none⟩ = some (.int .i64 f.y)) := Lib.hid (fun W hb => hHX.out W (((Below.refl _ _).alloc (Nat.le_refl _) _).trans (hb.mono (by simp))))
  refine wp_region_grow (S := (fun w' => w'.cell? ⟨v2.heap.size, 0, none⟩ = some (.slice (some ⟨p, 0, none⟩) m m) ∧ w'.cell? ⟨v2.heap.size, 1, none⟩ = some (.slice (some ⟨q, 0, none⟩) (m - 1) (m - 1)) ∧ w'.cell? ⟨v2.heap.size, 2, none⟩ = some (.bool cl) ∧ w'.cell? ⟨v3.heap.size, 0, none⟩ = some (.int .i64 f.x) ∧ w'.cell? ⟨v3.heap.size, 1, none⟩ = some (.int .i64 f.y) ∧ w'.cell? ⟨(v3.heap.size + 1), 0, none⟩ = some (.int .i64 t.x) ∧ w'.cell? ⟨(v3.heap.size + 1), 1, none⟩ = some (.int .i64 t.y) ∧ w'.cell? ⟨(v3.heap.size + 1 + 1), 0, none⟩ = some (.int .i64 t.x) ∧ w'.cell? ⟨(v3.heap.size + 1 + 1), 1, none⟩ = some (.int .i64 t.y) ∧ w'.cell? ⟨p, 0, none⟩ = some (.int .i64 f.x) ∧ w'.cell? ⟨p, 1, none⟩ = some (.int .i64 f.y))) ((fun w' => Below (((v3.alloc (.cells #[.int .i64 f.x, .int .i64 f.y] 28)).alloc (.cells #[.int .i64 t.x, .int .i64 t.y] 28)).alloc (.cells #[.int .i64 t.x, .int .i64 t.y] 28)).heap.size (((v3.alloc (.cells #[.int .i64 f.x, .int .i64 f.y] 28)).alloc (.cells #[.int .i64 t.x, .int .i64 t.y] 28)).alloc (.cells #[.int .i64 t.x, .int .i64 t.y] 28)) w')) (by kernel_rfl) (⟨fun w2 h2 => ⟨(F_5.out.below h2 F_5.out.lt).cell (i := 0) (v := .slice (some ⟨p, 0, none⟩) m m) rfl, (F_5.out.below h2 F_5.out.lt).cell (i := 1) (v := .slice (some ⟨q, 0, none⟩) (m - 1) (m - 1)) rfl, (F_5.out.below h2 F_5.out.lt).cell (i := 2) (v := .bool cl) rfl, (E_5.out.below h2 E_5.out.lt).cell (i := 0) (v := .int .i64 f.x) rfl, (E_5.out.below h2 E_5.out.lt).cell (i := 1) (v := .int .i64 f.y) rfl, (G_5.out.below h2 G_5.out.lt).cell (i := 0) (v := .int .i64 t.x) rfl, (G_5.out.below h2 G_5.out.lt).cell (i := 1) (v := .int .i64 t.y) rfl, (K_5.out.below h2 K_5.out.lt).cell (i := 0) (v := .int .i64 t.x) rfl, (K_5.out.below h2 K_5.out.lt).cell (i := 1) (v := .int .i64 t.y) rfl, (HX2.out _ h2).1, (HX2.out _ h2).2⟩, fun w2 w3 h2 hb2 => h2.trans (hb2.mono h2.size)⟩) ((Below.refl (((v3.alloc (.cells #[.int .i64 f.x, .int .i64 f.y] 28)).alloc (.cells #[.int .i64 t.x, .int .i64 t.y] 28)).alloc (.cells #[.int .i64 t.x, .int .i64 t.y] 28)).heap.size (((v3.alloc (.cells #[.int .i64 f.x, .int .i64 f.y] 28)).alloc (.cells #[.int .i64 t.x, .int .i64 t.y] 28)).alloc (.cells #[.int .i64 t.x, .int .i64 t.y] 28))).drew) (fun hCalm => ?_)
  refine grow_take 0 (some 71) ?_ rfl rfl (by kernel_rfl) (fun _ _ _ h => h) (by kernel_rfl) hCalm ?_ ?_
  rotate_left
  · intro wS hS; (try dsimp only at hS); go_simp <;> with_reducible rfl
  try simp only [Act.put, List.setIfInBounds_toArray, List.set_cons_zero, List.set_cons_succ]
  refine grow_take 1 (some 72) ?_ rfl rfl (by kernel_rfl) (fun _ _ _ h => h) (by kernel_rfl) hCalm ?_ ?_
  rotate_left
  · intro wS hS; (try dsimp only at hS); go_simp <;> with_reducible rfl
  try simp only [Act.put, List.setIfInBounds_toArray, List.set_cons_zero, List.set_cons_succ]
  refine grow_take 2 (some 73) ?_ rfl rfl (by kernel_rfl) (fun _ _ _ h => h) (by kernel_rfl) hCalm ?_ ?_
  rotate_left
  · intro wS hS; (try dsimp only at hS); go_simp <;> with_reducible rfl
  try simp only [Act.put, List.setIfInBounds_toArray, List.set_cons_zero, List.set_cons_succ]
  refine grow_take 3 (some 74) ?_ rfl rfl (by kernel_rfl) (fun _ _ _ h => h) (by kernel_rfl) hCalm ?_ ?_
  rotate_left
  · intro wS hS; (try dsimp only at hS); go_simp <;> with_reducible rfl
  try simp only [Act.put, List.setIfInBounds_toArray, List.set_cons_zero, List.set_cons_succ]
  refine grow_take 4 (some 75) ?_ rfl rfl (by kernel_rfl) (fun _ _ _ h => h) (by kernel_rfl) hCalm ?_ ?_
  rotate_left
  · intro wS hS; (try dsimp only at hS); go_simp <;> with_reducible rfl
  try simp only [Act.put, List.setIfInBounds_toArray, List.set_cons_zero, List.set_cons_succ]
  refine grow_take 5 (some 76) (.bool false) rfl rfl (by kernel_rfl) (fun _ _ _ h => h) (by kernel_rfl) hCalm ?_ ?_
  · intro wS hS; (try dsimp only at hS); go_simp
  try simp only [Act.put, List.setIfInBounds_toArray, List.set_cons_zero, List.set_cons_succ]
  refine grow_take 6 (some 77) ?_ rfl rfl (by kernel_rfl) (fun _ _ _ h => h) (by kernel_rfl) hCalm ?_ ?_
  rotate_left
  · intro wS hS; (try dsimp only at hS); go_simp <;> with_reducible rfl
  try simp only [Act.put, List.setIfInBounds_toArray, List.set_cons_zero, List.set_cons_succ]
  refine grow_take 7 (some 78) ?_ rfl rfl (by kernel_rfl) (fun _ _ _ h => h) (by kernel_rfl) hCalm ?_ ?_
  rotate_left
  · intro wS hS; (try dsimp only at hS); go_simp <;> with_reducible rfl
  try simp only [Act.put, List.setIfInBounds_toArray, List.set_cons_zero, List.set_cons_succ]
  refine grow_take 8 (some 79) ?_ rfl rfl (by kernel_rfl) (fun _ _ _ h => h) (by kernel_rfl) hCalm ?_ ?_
  rotate_left
  · intro wS hS; (try dsimp only at hS); go_simp <;> with_reducible rfl
  try simp only [Act.put, List.setIfInBounds_toArray, List.set_cons_zero, List.set_cons_succ]
  refine grow_take 9 (some 80) (.bool false) rfl rfl (by kernel_rfl) (fun _ _ _ h => h) (by kernel_rfl) hCalm ?_ ?_
  · intro wS hS; (try dsimp only at hS); go_simp
  try simp only [Act.put, List.setIfInBounds_toArray, List.set_cons_zero, List.set_cons_succ]
  refine grow_take 10 (some 81) ?_ rfl rfl (by kernel_rfl) (fun _ _ _ h => h) (by kernel_rfl) hCalm ?_ ?_
  rotate_left
  · intro wS hS; (try dsimp only at hS); go_simp <;> with_reducible rfl
  try simp only [Act.put, List.setIfInBounds_toArray, List.set_cons_zero, List.set_cons_succ]
  refine grow_done (by kernel_rfl) (fun wA hA => ?_) _
  obtain ⟨v5, hv5⟩ : ∃ x, x = wA := ⟨_, rfl⟩
  rw [← hv5] at hA ⊢
  clear hv5
  have hb := hA; clear hA hCalm
  have TB_6 : Hid (Tb8 v5) := Lib.hid (TB_5.out.below hb (Nat.le_refl _))
  have TZ_6 : Hid (Tz v5 A0 n) := Lib.hid (TZ_5.out.below hb (Nat.le_refl _))
  have DS_6 : Hid (Dz v5 A1 ds) := Lib.hid (DS_5.out.below hb (Nat.le_refl _))
  have PZ_6 : Hid (Pz v5 (some ⟨p, 0, none⟩) F.ps) := Lib.hid (PZ_5.out.below hb (Nat.le_refl _))
  have IZ_6 : Hid (Iz v5 (some ⟨q, 0, none⟩) F.ss) := Lib.hid (IZ_5.out.below hb (Nat.le_refl _))
  clear TB_5 TZ_5 DS_5 PZ_5 IZ_5
  have B_6 : Hid (Blk v5 w.heap.size 74 #[.int .i64 u0, .int .i64 u1, .int .i64 u2, .int .i64 u3]) := Lib.hid (B_5.out.below hb B_5.out.lt)
  have S_6 : Hid (Blk v5 v1.heap.size 26 #[.int .i64 P, .int .i64 N, .slice A1 ds.length k1]) := Lib.hid (S_5.out.below hb S_5.out.lt)
  have F_6 : Hid (Blk v5 v2.heap.size 48 #[.slice (some ⟨p, 0, none⟩) m m, .slice (some ⟨q, 0, none⟩) (m - 1) (m - 1), .bool cl]) := Lib.hid (F_5.out.below hb F_5.out.lt)
  have E_6 : Hid (Blk v5 v3.heap.size 28 #[.int .i64 f.x, .int .i64 f.y]) := Lib.hid (E_5.out.below hb E_5.out.lt)
  have G_6 : Hid (Blk v5 (v3.heap.size + 1) 28 #[.int .i64 t.x, .int .i64 t.y]) := Lib.hid (G_5.out.below hb G_5.out.lt)
  have K_6 : Hid (Blk v5 (v3.heap.size + 1 + 1) 28 #[.int .i64 t.x, .int .i64 t.y]) := Lib.hid (K_5.out.below hb K_5.out.lt)
  have HB_6 : Hid (Below w.heap.size w v5) := Lib.hid (HB_5.out.trans (hb.mono HB_5.out.size))
  clear hb B_5 S_5 F_5 E_5 G_5 K_5 HB_5
  clear HX2 hHX
  go_wp2_with fail
  go_loopw [17] (fun ii wr => ∃ i : Nat, ii = .int .i64 i ∧ i ≤ m - 1 ∧ Below v5.heap.size v5 wr) (fun ii _ => m - (intOf ii).toNat)
  case atStart => exact ⟨0, rfl, Nat.zero_le _, Below.refl _ _⟩
  case round =>
    obtain ⟨i, rfl, hi, hB⟩ := hrel
    rename World => wr
    have HWB := Lib.hid hB
    have hb := hB; clear hB
    have TB_7 : Hid (Tb8 wr) := Lib.hid (TB_6.out.below hb (Nat.le_refl _))
    have TZ_7 : Hid (Tz wr A0 n) := Lib.hid (TZ_6.out.below hb (Nat.le_refl _))
    have DS_7 : Hid (Dz wr A1 ds) := Lib.hid (DS_6.out.below hb (Nat.le_refl _))
    have PZ_7 : Hid (Pz wr (some ⟨p, 0, none⟩) F.ps) := Lib.hid (PZ_6.out.below hb (Nat.le_refl _))
    have IZ_7 : Hid (Iz wr (some ⟨q, 0, none⟩) F.ss) := Lib.hid (IZ_6.out.below hb (Nat.le_refl _))
    clear TB_6 TZ_6 DS_6 PZ_6 IZ_6
    have B_7 : Hid (Blk wr w.heap.size 74 #[.int .i64 u0, .int .i64 u1, .int .i64 u2, .int .i64 u3]) := Lib.hid (B_6.out.below hb B_6.out.lt)
    have S_7 : Hid (Blk wr v1.heap.size 26 #[.int .i64 P, .int .i64 N, .slice A1 ds.length k1]) := Lib.hid (S_6.out.below hb S_6.out.lt)
    have F_7 : Hid (Blk wr v2.heap.size 48 #[.slice (some ⟨p, 0, none⟩) m m, .slice (some ⟨q, 0, none⟩) (m - 1) (m - 1), .bool cl]) := Lib.hid (F_6.out.below hb F_6.out.lt)
    have E_7 : Hid (Blk wr v3.heap.size 28 #[.int .i64 f.x, .int .i64 f.y]) := Lib.hid (E_6.out.below hb E_6.out.lt)
    have G_7 : Hid (Blk wr (v3.heap.size + 1) 28 #[.int .i64 t.x, .int .i64 t.y]) := Lib.hid (G_6.out.below hb G_6.out.lt)
    have K_7 : Hid (Blk wr (v3.heap.size + 1 + 1) 28 #[.int .i64 t.x, .int .i64 t.y]) := Lib.hid (K_6.out.below hb K_6.out.lt)
    have HB_7 : Hid (Below w.heap.size w wr) := Lib.hid (HB_6.out.trans (hb.mono HB_6.out.size))
    clear hb B_6 S_6 F_6 E_6 G_6 K_6 HB_6
    by_cases hlt : i < m - 1
    case pos =>
      have hst := HLW.out.step i (by rw [← HM.out]; omega)
      have hi1 : i < F.ps.length := by rw [← HM.out]; omega
      have hi2 : i + 1 < F.ps.length := by rw [← HM.out]; omega
      have hi3 : i < F.ss.length := by rw [HML.out]; exact hlt
      have HOK : Hid (F.ps[i].ok ∧ F.ps[i + 1].ok) := Lib.hid ⟨HLW.out.ok _ (List.getElem_mem hi1), HLW.out.ok _ (List.getElem_mem hi2)⟩
      have HCX : Hid (∀ W, Below wr.heap.size wr W → (W.cell? ⟨p, i * 2, none⟩ = some (.int .i64 F.ps[i].x) ∧ W.cell? ⟨p, i * 2 + 1, none⟩ = some (.int .i64 F.ps[i].y)) ∧ (W.cell? ⟨p, (i + 1) * 2, none⟩ = some (.int .i64 F.ps[i + 1].x) ∧ W.cell? ⟨p, (i + 1) * 2 + 1, none⟩ = some (.int .i64 F.ps[i + 1].y)) ∧ W.cell? ⟨q, i, none⟩ = some (.int .i64 (dr8 F.ps[i] F.ps[i + 1]))) := Lib.hid (fun W hb => by
        have hP := PZ_7.out.below hb (Nat.le_refl _); have hQ := IZ_7.out.below hb (Nat.le_refl _)
        have z0 := hP.at hi1 (j := 0) (v := .int .i64 F.ps[i].x) rfl; have z1 := hP.at hi1 (j := 1) (v := .int .i64 F.ps[i].y) rfl
        have z2 := hP.at hi2 (j := 0) (v := .int .i64 F.ps[i + 1].x) rfl; have z3 := hP.at hi2 (j := 1) (v := .int .i64 F.ps[i + 1].y) rfl
        obtain ⟨bq, oq, he, hbq, hcq⟩ := hQ (by omega)
        have z4 := hcq i hi3
        have h9 := List.getElem?_eq_some_iff.1 hst
        rw [h9.2] at z4
        simp only [Option.some.injEq, Addr.mk.injEq, and_true] at he
        obtain ⟨rfl, rfl⟩ := he
        simp only [Nat.zero_add, Nat.add_zero] at z0 z1 z2 z3 z4
        exact ⟨⟨z0, z1⟩, ⟨z2, z3⟩, z4⟩)
      have HDI := Lib.hid (fun W (hb : Below wr.heap.size wr W) => pdir8 F.ps[i] F.ps[i + 1] W HOK.out.1 HOK.out.2 (TB_7.out.1.below hb (Nat.le_refl _)))
      generalize dr8 F.ps[i] F.ps[i + 1] = s at *
      generalize F.ps[i] = x at *
      generalize F.ps[i + 1] = y at *
      have HI := Lib.hid hlt
      have q1 : (0 : Int) ≤ (i : Int) := by omega
      have q2 : (i : Int) < ((m - 1 : Nat) : Int) := by omega
      have q3 : (i : Int) < (m : Int) := by omega
      have n1 : i < m - 1 := hlt
      have n2 : i < m := by omega
      have n3 : i + 1 < m := by omega
      have q4 : (0 : Int) ≤ (i : Int) + 1 := by omega
      have q5 : (i : Int) + 1 < (m : Int) := by omega
      have hm2 := HN1.out; rw [← HM.out] at hm2
      have e2 : IntKind.i64.wrap ((i : Int) + 1) = (i : Int) + 1 := IntWalk.i64_in _ (by omega)
      have e3 : ((i : Int) + 1).toNat = i + 1 := by omega
      clear hst hi1 hi2 hi3 hlt hi hm2 HOK
      have yy0 := F_7.out.cell (i := 0) (v := .slice (some ⟨p, 0, none⟩) m m) rfl; have yy1 := F_7.out.cell (i := 1) (v := .slice (some ⟨q, 0, none⟩) (m - 1) (m - 1)) rfl; have yy2 := F_7.out.cell (i := 2) (v := .bool cl) rfl
      go_upto_region 15 with fail
      clear yy0 yy1 yy2
      refine wp_region_grow (S := (fun w' => w'.cell? ⟨v2.heap.size, 0, none⟩ = some (.slice (some ⟨p, 0, none⟩) m m) ∧ w'.cell? ⟨v2.heap.size, 1, none⟩ = some (.slice (some ⟨q, 0, none⟩) (m - 1) (m - 1)) ∧ w'.cell? ⟨v2.heap.size, 2, none⟩ = some (.bool cl) ∧ w'.cell? ⟨p, i * 2, none⟩ = some (.int .i64 x.x) ∧ w'.cell? ⟨p, i * 2 + 1, none⟩ = some (.int .i64 x.y) ∧ w'.cell? ⟨p, (i + 1) * 2, none⟩ = some (.int .i64 y.x) ∧ w'.cell? ⟨p, (i + 1) * 2 + 1, none⟩ = some (.int .i64 y.y) ∧ w'.cell? ⟨q, i, none⟩ = some (.int .i64 s) ∧ Below wr.heap.size wr w')) ((fun w' => Below wr.heap.size wr w')) (by kernel_rfl) (⟨fun w2 h2 => ⟨(F_7.out.below h2 F_7.out.lt).cell (i := 0) (v := .slice (some ⟨p, 0, none⟩) m m) rfl, (F_7.out.below h2 F_7.out.lt).cell (i := 1) (v := .slice (some ⟨q, 0, none⟩) (m - 1) (m - 1)) rfl, (F_7.out.below h2 F_7.out.lt).cell (i := 2) (v := .bool cl) rfl, (HCX.out _ h2).1.1, (HCX.out _ h2).1.2, (HCX.out _ h2).2.1.1, (HCX.out _ h2).2.1.2, (HCX.out _ h2).2.2, h2⟩, fun w2 w3 h2 hb2 => h2.trans (hb2.mono h2.size)⟩) ((Below.refl wr.heap.size wr).drew) (fun hCalm => ?_)
      refine grow_take 0 (some 89) ?_ rfl rfl (by kernel_rfl) (fun _ _ _ h => h) (by kernel_rfl) hCalm ?_ ?_
      rotate_left
      · intro wS hS; (try dsimp only at hS); go_simp <;> with_reducible rfl
      try simp only [Act.put, List.setIfInBounds_toArray, List.set_cons_zero, List.set_cons_succ]
      refine grow_take 1 (some 90) ?_ rfl rfl (by kernel_rfl) (fun _ _ _ h => h) (by kernel_rfl) hCalm ?_ ?_
      rotate_left
      · intro wS hS; (try dsimp only at hS); go_simp <;> with_reducible rfl
      try simp only [Act.put, List.setIfInBounds_toArray, List.set_cons_zero, List.set_cons_succ]
      refine grow_take 2 (some 91) ?_ rfl rfl (by kernel_rfl) (fun _ _ _ h => h) (by kernel_rfl) hCalm ?_ ?_
      rotate_left
      · intro wS hS; (try dsimp only at hS); go_simp <;> with_reducible rfl
      try simp only [Act.put, List.setIfInBounds_toArray, List.set_cons_zero, List.set_cons_succ]
      refine grow_take 3 (some 92) ?_ rfl rfl (by kernel_rfl) (fun _ _ _ h => h) (by kernel_rfl) hCalm ?_ ?_
      rotate_left
      · intro wS hS; (try dsimp only at hS); go_simp <;> with_reducible rfl
      try simp only [Act.put, List.setIfInBounds_toArray, List.set_cons_zero, List.set_cons_succ]
      refine grow_take 4 (some 93) ?_ rfl rfl (by kernel_rfl) (fun _ _ _ h => h) (by kernel_rfl) hCalm ?_ ?_
      rotate_left
      · intro wS hS; (try dsimp only at hS); go_simp <;> with_reducible rfl
      try simp only [Act.put, List.setIfInBounds_toArray, List.set_cons_zero, List.set_cons_succ]
      refine grow_take 5 (some 94) ?_ rfl rfl (by kernel_rfl) (fun _ _ _ h => h) (by kernel_rfl) hCalm ?_ ?_
      rotate_left
      · intro wS hS; (try dsimp only at hS); go_simp <;> with_reducible rfl
      try simp only [Act.put, List.setIfInBounds_toArray, List.set_cons_zero, List.set_cons_succ]
      refine grow_take 6 (some 95) ?_ rfl rfl (by kernel_rfl) (fun _ _ _ h => h) (by kernel_rfl) hCalm ?_ ?_
      rotate_left
      · intro wS hS; (try dsimp only at hS); go_simp <;> with_reducible rfl
      try simp only [Act.put, List.setIfInBounds_toArray, List.set_cons_zero, List.set_cons_succ]
      refine grow_take 7 (some 96) ?_ rfl rfl (by kernel_rfl) (fun _ _ _ h => h) (by kernel_rfl) hCalm ?_ ?_
      rotate_left
      · intro wS hS; (try dsimp only at hS); go_simp <;> with_reducible rfl
      try simp only [Act.put, List.setIfInBounds_toArray, List.set_cons_zero, List.set_cons_succ]
      refine grow_take 8 (some 97) ?_ rfl rfl (by kernel_rfl) (fun _ _ _ h => h) (by kernel_rfl) hCalm ?_ ?_
      rotate_left
      · intro wS hS; (try dsimp only at hS); go_simp <;> with_reducible rfl
      try simp only [Act.put, List.setIfInBounds_toArray, List.set_cons_zero, List.set_cons_succ]
      refine grow_take 9 (some 98) ?_ rfl rfl (by kernel_rfl) (fun _ _ _ h => h) (by kernel_rfl) hCalm ?_ ?_
      rotate_left
      · intro wS hS; (try dsimp only at hS); go_simp <;> with_reducible rfl
      try simp only [Act.put, List.setIfInBounds_toArray, List.set_cons_zero, List.set_cons_succ]
      refine grow_take 10 (some 99) ?_ rfl rfl (by kernel_rfl) (fun _ _ _ h => h) (by kernel_rfl) hCalm ?_ ?_
      rotate_left
      · intro wS hS; (try dsimp only at hS); go_simp <;> with_reducible rfl
      try simp only [Act.put, List.setIfInBounds_toArray, List.set_cons_zero, List.set_cons_succ]
      refine grow_take 11 (some 100) ?_ rfl rfl (by kernel_rfl) (fun _ _ _ h => h) (by kernel_rfl) hCalm ?_ ?_
      rotate_left
      · intro wS hS; (try dsimp only at hS); go_simp <;> with_reducible rfl
      try simp only [Act.put, List.setIfInBounds_toArray, List.set_cons_zero, List.set_cons_succ]
      refine grow_take 12 (some 101) ?_ rfl rfl (by kernel_rfl) (fun _ _ _ h => h) (by kernel_rfl) hCalm ?_ ?_
      rotate_left
      · intro wS hS; (try dsimp only at hS); go_simp <;> with_reducible rfl
      try simp only [Act.put, List.setIfInBounds_toArray, List.set_cons_zero, List.set_cons_succ]
      refine grow_take 13 (some 102) ?_ rfl rfl (by kernel_rfl) (fun _ _ _ h => h) (by kernel_rfl) hCalm ?_ ?_
      rotate_left
      · intro wS hS; (try dsimp only at hS); go_simp <;> with_reducible rfl
      try simp only [Act.put, List.setIfInBounds_toArray, List.set_cons_zero, List.set_cons_succ]
      refine grow_take 14 (some 103) ?_ rfl rfl (by kernel_rfl) (fun _ _ _ h => h) (by kernel_rfl) hCalm ?_ ?_
      rotate_left
      · intro wS hS; (try dsimp only at hS); go_simp <;> with_reducible rfl
      try simp only [Act.put, List.setIfInBounds_toArray, List.set_cons_zero, List.set_cons_succ]
      refine grow_take 15 (some 104) ?_ rfl rfl (by kernel_rfl) (fun _ _ _ h => h) (by kernel_rfl) hCalm ?_ ?_
      rotate_left
      · intro wS hS; (try dsimp only at hS); go_simp <;> with_reducible rfl
      try simp only [Act.put, List.setIfInBounds_toArray, List.set_cons_zero, List.set_cons_succ]
      refine grow_call 16 (some 105) (.int .i64 s) 25 [.tmp 98, .tmp 104] #[28, 28] rfl rfl (by kernel_rfl) (fun _ _ _ h => h) (by kernel_rfl) hCalm rfl (enters_of Tryd.func25 (by kernel_rfl) rfl) (fun wz hz => HDI.out wz hz.2.2.2.2.2.2.2.2) (by kernel_rfl) ?_
      try simp only [Act.put, List.setIfInBounds_toArray, List.set_cons_zero, List.set_cons_succ]
      refine grow_take 17 (some 106) (.bool false) rfl rfl (by kernel_rfl) (fun _ _ _ h => h) (by kernel_rfl) hCalm ?_ ?_
      · intro wS hS; (try dsimp only at hS); go_simp
      try simp only [Act.put, List.setIfInBounds_toArray, List.set_cons_zero, List.set_cons_succ]
      refine grow_done (by kernel_rfl) (fun wA hA => ?_) _
      obtain ⟨v7, hv7⟩ : ∃ x, x = wA := ⟨_, rfl⟩
      rw [← hv7] at hA ⊢
      clear hv7
      have hb := hA; clear hA hCalm
      have hbr := hb
      have TB_8 : Hid (Tb8 v7) := Lib.hid (TB_7.out.below hb (Nat.le_refl _))
      have TZ_8 : Hid (Tz v7 A0 n) := Lib.hid (TZ_7.out.below hb (Nat.le_refl _))
      have DS_8 : Hid (Dz v7 A1 ds) := Lib.hid (DS_7.out.below hb (Nat.le_refl _))
      have PZ_8 : Hid (Pz v7 (some ⟨p, 0, none⟩) F.ps) := Lib.hid (PZ_7.out.below hb (Nat.le_refl _))
      have IZ_8 : Hid (Iz v7 (some ⟨q, 0, none⟩) F.ss) := Lib.hid (IZ_7.out.below hb (Nat.le_refl _))
      clear TB_7 TZ_7 DS_7 PZ_7 IZ_7
      have B_8 : Hid (Blk v7 w.heap.size 74 #[.int .i64 u0, .int .i64 u1, .int .i64 u2, .int .i64 u3]) := Lib.hid (B_7.out.below hb B_7.out.lt)
      have S_8 : Hid (Blk v7 v1.heap.size 26 #[.int .i64 P, .int .i64 N, .slice A1 ds.length k1]) := Lib.hid (S_7.out.below hb S_7.out.lt)
      have F_8 : Hid (Blk v7 v2.heap.size 48 #[.slice (some ⟨p, 0, none⟩) m m, .slice (some ⟨q, 0, none⟩) (m - 1) (m - 1), .bool cl]) := Lib.hid (F_7.out.below hb F_7.out.lt)
      have E_8 : Hid (Blk v7 v3.heap.size 28 #[.int .i64 f.x, .int .i64 f.y]) := Lib.hid (E_7.out.below hb E_7.out.lt)
      have G_8 : Hid (Blk v7 (v3.heap.size + 1) 28 #[.int .i64 t.x, .int .i64 t.y]) := Lib.hid (G_7.out.below hb G_7.out.lt)
      have K_8 : Hid (Blk v7 (v3.heap.size + 1 + 1) 28 #[.int .i64 t.x, .int .i64 t.y]) := Lib.hid (K_7.out.below hb K_7.out.lt)
      have HB_8 : Hid (Below w.heap.size w v7) := Lib.hid (HB_7.out.trans (hb.mono HB_7.out.size))
      clear hb B_7 S_7 F_7 E_7 G_7 K_7 HB_7
      have HW2 := Lib.hid (HWB.out.trans (hbr.mono HWB.out.size)); clear hbr
      go_wp2_with fail
      go_roundw
      case rel => exact ⟨i + 1, by go_num, by have := HI.out; omega, HW2.out⟩
      case measure => have := HI.out; simp [intOf]; omega
    case neg =>
      obtain rfl : i = m - 1 := by omega
      clear hlt hi HWB
      have yy0 := F_7.out.cell (i := 0) (v := .slice (some ⟨p, 0, none⟩) m m) rfl; have yy1 := F_7.out.cell (i := 1) (v := .slice (some ⟨q, 0, none⟩) (m - 1) (m - 1)) rfl; have yy2 := F_7.out.cell (i := 2) (v := .bool cl) rfl
      go_upto_region 17 with fail
      clear yy0 yy1 yy2
      obtain ⟨tt, htt⟩ : ∃ b, b = nr8 f t := ⟨_, rfl⟩
      have HTT : Hid ((tt = true) ↔ ((f.x - t.x ≤ 120 ∧ t.x - f.x ≤ 120) ∧ (f.y - t.y ≤ 120 ∧ t.y - f.y ≤ 120))) := Lib.hid (by rw [htt]; unfold nr8; rw [Bool.and_eq_true, decide_eq_true_iff, decide_eq_true_iff]; omega)
      rw [← htt] at HCM
      clear htt
      have hft := HFT.out; unfold P7.ok at hft
      have e1 : IntKind.i64.wrap (f.x - t.x) = f.x - t.x := IntWalk.i64_in _ (by omega)
      have e2 : IntKind.i64.wrap (t.x - f.x) = t.x - f.x := IntWalk.i64_in _ (by omega)
      have e3 : IntKind.i64.wrap (f.y - t.y) = f.y - t.y := IntWalk.i64_in _ (by omega)
      have e4 : IntKind.i64.wrap (t.y - f.y) = t.y - f.y := IntWalk.i64_in _ (by omega)
      have yy0 := E_7.out.cell (i := 0) (v := .int .i64 f.x) rfl; have yy1 := E_7.out.cell (i := 1) (v := .int .i64 f.y) rfl
      have yy2 := G_7.out.cell (i := 0) (v := .int .i64 t.x) rfl; have yy3 := G_7.out.cell (i := 1) (v := .int .i64 t.y) rfl
      go_cut [18] from 107 to 128 (fun v wx => v = .bool tt ∧ wr = wx)
      case first =>
        obtain ⟨mx, hrm, hmx⟩ := run_max4_8 (f.x - t.x) (t.x - f.x) (f.y - t.y) (t.y - f.y)
        have HMX := Lib.hid hmx; clear hmx
        go_wp2_with fail
        go_meet
        exact ⟨congrArg Value.bool (Bool.eq_iff_iff.2 (by rw [decide_eq_true_iff, HTT.out]; exact HMX.out)), rfl⟩
      case rest =>
        obtain ⟨rfl, rfl⟩ := hcut
        clear yy0 yy1 yy2 yy3
        clear hft e1 e2 e3 e4
        go_upto_region 18 with fail
        go_cut [138] from 129 to 137 (fun v wx => v = .bool false ∧ wr = wx)
        case first =>
          have hcm := HCM.out
          by_cases h4 : 4 ≤ m
          case pos =>
            rw [decide_eq_true h4] at hcm
            have h5 : (4 : Int) ≤ (m : Int) := by omega
            cases tt
            case false =>
              obtain rfl : cl = false := by rw [hcm]; rfl
              clear hcm
              have y0 := F_7.out.cell (i := 0) (v := .slice (some ⟨p, 0, none⟩) m m) rfl
              have y1 := F_7.out.cell (i := 1) (v := .slice (some ⟨q, 0, none⟩) (m - 1) (m - 1)) rfl
              have y2 := F_7.out.cell (i := 2) (v := .bool false) rfl
              go_wp2_with fail
              go_meet
              exact ⟨rfl, rfl⟩
            case true =>
              obtain rfl : cl = true := by rw [hcm]; rfl
              clear hcm
              have y0 := F_7.out.cell (i := 0) (v := .slice (some ⟨p, 0, none⟩) m m) rfl
              have y1 := F_7.out.cell (i := 1) (v := .slice (some ⟨q, 0, none⟩) (m - 1) (m - 1)) rfl
              have y2 := F_7.out.cell (i := 2) (v := .bool true) rfl
              go_wp2_with fail
              go_meet
              exact ⟨rfl, rfl⟩
          case neg =>
            rw [decide_eq_false h4] at hcm
            have h5 : ¬ (4 : Int) ≤ (m : Int) := by omega
            cases tt
            case false =>
              obtain rfl : cl = false := by rw [hcm]; rfl
              clear hcm
              have y0 := F_7.out.cell (i := 0) (v := .slice (some ⟨p, 0, none⟩) m m) rfl
              have y1 := F_7.out.cell (i := 1) (v := .slice (some ⟨q, 0, none⟩) (m - 1) (m - 1)) rfl
              have y2 := F_7.out.cell (i := 2) (v := .bool false) rfl
              go_wp2_with fail
              go_meet
              exact ⟨rfl, rfl⟩
            case true =>
              obtain rfl : cl = false := by rw [hcm]; rfl
              clear hcm
              have y0 := F_7.out.cell (i := 0) (v := .slice (some ⟨p, 0, none⟩) m m) rfl
              have y1 := F_7.out.cell (i := 1) (v := .slice (some ⟨q, 0, none⟩) (m - 1) (m - 1)) rfl
              have y2 := F_7.out.cell (i := 2) (v := .bool false) rfl
              go_wp2_with fail
              go_meet
              exact ⟨rfl, rfl⟩
        case rest =>
          obtain ⟨rfl, rfl⟩ := hcut
          clear HCM HTT
          go_upto_region 20 with fail
          refine wp_region_grow (S := (fun w' => w'.cell? ⟨w.heap.size, 0, none⟩ = some (.int .i64 u0) ∧ w'.cell? ⟨w.heap.size, 1, none⟩ = some (.int .i64 u1) ∧ w'.cell? ⟨w.heap.size, 2, none⟩ = some (.int .i64 u2) ∧ w'.cell? ⟨w.heap.size, 3, none⟩ = some (.int .i64 u3))) ((fun w' => Below wr.heap.size wr w')) (by kernel_rfl) (⟨fun w2 h2 => ⟨(B_7.out.below h2 B_7.out.lt).cell (i := 0) (v := .int .i64 u0) rfl, (B_7.out.below h2 B_7.out.lt).cell (i := 1) (v := .int .i64 u1) rfl, (B_7.out.below h2 B_7.out.lt).cell (i := 2) (v := .int .i64 u2) rfl, (B_7.out.below h2 B_7.out.lt).cell (i := 3) (v := .int .i64 u3) rfl⟩, fun w2 w3 h2 hb2 => h2.trans (hb2.mono h2.size)⟩) ((Below.refl wr.heap.size wr).drew) (fun hCalm => ?_)
          refine grow_take 0 (some 139) ?_ rfl rfl (by kernel_rfl) (fun _ _ _ h => h) (by kernel_rfl) hCalm ?_ ?_
          rotate_left
          · intro wS hS; (try dsimp only at hS); go_simp <;> with_reducible rfl
          try simp only [Act.put, List.setIfInBounds_toArray, List.set_cons_zero, List.set_cons_succ]
          refine grow_take 1 (some 140) ?_ rfl rfl (by kernel_rfl) (fun _ _ _ h => h) (by kernel_rfl) hCalm ?_ ?_
          rotate_left
          · intro wS hS; (try dsimp only at hS); go_simp <;> with_reducible rfl
          try simp only [Act.put, List.setIfInBounds_toArray, List.set_cons_zero, List.set_cons_succ]
          refine grow_take 3 (some 142) ?_ rfl rfl (by kernel_rfl) (fun _ _ _ h => h) (by kernel_rfl) hCalm ?_ ?_
          rotate_left
          · intro wS hS; (try dsimp only at hS); go_simp <;> with_reducible rfl
          try simp only [Act.put, List.setIfInBounds_toArray, List.set_cons_zero, List.set_cons_succ]
          refine grow_take 4 (some 143) ?_ rfl rfl (by kernel_rfl) (fun _ _ _ h => h) (by kernel_rfl) hCalm ?_ ?_
          rotate_left
          · intro wS hS; (try dsimp only at hS); go_simp <;> with_reducible rfl
          try simp only [Act.put, List.setIfInBounds_toArray, List.set_cons_zero, List.set_cons_succ]
          refine grow_call 2 (some 141) (.int .i64 a.x) 24 [.tmp 140, .const (Go.Value.int Go.IntKind.i64 4096)] #[3, 3] rfl rfl (by kernel_rfl) (fun _ _ _ h => h) (by kernel_rfl) hCalm rfl (enters_of Tryd.func24 (by kernel_rfl) rfl) (fun wz _ => HP0.out wz) (by kernel_rfl) ?_
          try simp only [Act.put, List.setIfInBounds_toArray, List.set_cons_zero, List.set_cons_succ]
          refine grow_call 5 (some 144) (.int .i64 a.y) 24 [.tmp 143, .const (Go.Value.int Go.IntKind.i64 4096)] #[3, 3] rfl rfl (by kernel_rfl) (fun _ _ _ h => h) (by kernel_rfl) hCalm rfl (enters_of Tryd.func24 (by kernel_rfl) rfl) (fun wz _ => HP1.out wz) (by kernel_rfl) ?_
          try simp only [Act.put, List.setIfInBounds_toArray, List.set_cons_zero, List.set_cons_succ]
          refine grow_take 6 (some 145) ?_ rfl rfl (by kernel_rfl) (fun _ _ _ h => h) (by kernel_rfl) hCalm ?_ ?_
          rotate_left
          · intro wS hS; (try dsimp only at hS); go_simp <;> with_reducible rfl
          try simp only [Act.put, List.setIfInBounds_toArray, List.set_cons_zero, List.set_cons_succ]
          refine grow_each [7] (by kernel_rfl) (by decide) ?_
          refine grow_cons 7 rfl (by kernel_rfl) (fun wA hA K hK => ?_) grow_nil
          obtain ⟨pX, hpX⟩ : ∃ b, b = wA.heap.size := ⟨_, rfl⟩
          have le_pX : wr.heap.size ≤ pX := by rw [hpX]; exact hA.size
          have hnew : Blk (wA.alloc (.cells #[.int .i64 0, .int .i64 0] 28)) pX 28 #[.int .i64 0, .int .i64 0] := by rw [hpX]; exact Blk.new wA _ _
          go_simp
          rw [← hpX]
          refine grow_new hK hCalm hA hnew (fun h9 => ?_)
          clear hCalm hnew hpX hK K hA wA; have hCalm := h9; clear h9
          try simp only [Act.put, List.setIfInBounds_toArray, List.set_cons_zero, List.set_cons_succ]
          refine grow_each [8] (by kernel_rfl) (by decide) ?_
          refine grow_cons 8 rfl (by kernel_rfl) (fun wA hA K hK => ?_) grow_nil
          have z0 := hA.2.cell (i := 0) (v := .int .i64 0) rfl; have f0 := hA.2.frozen 0
          have z1 := hA.2.cell (i := 1) (v := .int .i64 0) rfl; have f1 := hA.2.frozen 1
          go_simp
          clear hCalm; refine grow_put hK (fun w' => (Below wr.heap.size wr w') ∧ Blk w' pX 28 #[(.int .i64 a.x), (.int .i64 a.y)]) ⟨fun w2 h2 => ⟨(B_7.out.below h2.1 B_7.out.lt).cell (i := 0) (v := .int .i64 u0) rfl, (B_7.out.below h2.1 B_7.out.lt).cell (i := 1) (v := .int .i64 u1) rfl, (B_7.out.below h2.1 B_7.out.lt).cell (i := 2) (v := .int .i64 u2) rfl, (B_7.out.below h2.1 B_7.out.lt).cell (i := 3) (v := .int .i64 u3) rfl⟩, fun w2 w3 h2 hb2 => ⟨h2.1.trans (hb2.mono h2.1.size), h2.2.below hb2 h2.2.lt⟩⟩ ⟨((hA.1.setCell (p := ⟨pX, 0, none⟩) (by show wr.heap.size ≤ pX; omega) _).setCell (p := ⟨pX, 1, none⟩) (by show wr.heap.size ≤ pX; omega) _), ((hA.2.set 0 _).set 1 _)⟩ (fun hCalm => ?_)
          clear z0 f0 z1 f1 hK K hA wA
          try simp only [Act.put]
          refine grow_done (by kernel_rfl) (fun wA hA => ?_) _
          obtain ⟨wX, hwX⟩ : ∃ x, x = wA := ⟨_, rfl⟩
          rw [← hwX] at hA ⊢
          have hb := hA.1
          have hqX := hA.2
          clear hA hCalm hwX
          have TB_8 : Hid (Tb8 wX) := Lib.hid (TB_7.out.below hb (Nat.le_refl _))
          have TZ_8 : Hid (Tz wX A0 n) := Lib.hid (TZ_7.out.below hb (Nat.le_refl _))
          have DS_8 : Hid (Dz wX A1 ds) := Lib.hid (DS_7.out.below hb (Nat.le_refl _))
          have PZ_8 : Hid (Pz wX (some ⟨p, 0, none⟩) F.ps) := Lib.hid (PZ_7.out.below hb (Nat.le_refl _))
          have IZ_8 : Hid (Iz wX (some ⟨q, 0, none⟩) F.ss) := Lib.hid (IZ_7.out.below hb (Nat.le_refl _))
          clear TB_7 TZ_7 DS_7 PZ_7 IZ_7
          have B_8 : Hid (Blk wX w.heap.size 74 #[.int .i64 u0, .int .i64 u1, .int .i64 u2, .int .i64 u3]) := Lib.hid (B_7.out.below hb B_7.out.lt)
          have S_8 : Hid (Blk wX v1.heap.size 26 #[.int .i64 P, .int .i64 N, .slice A1 ds.length k1]) := Lib.hid (S_7.out.below hb S_7.out.lt)
          have F_8 : Hid (Blk wX v2.heap.size 48 #[.slice (some ⟨p, 0, none⟩) m m, .slice (some ⟨q, 0, none⟩) (m - 1) (m - 1), .bool cl]) := Lib.hid (F_7.out.below hb F_7.out.lt)
          have E_8 : Hid (Blk wX v3.heap.size 28 #[.int .i64 f.x, .int .i64 f.y]) := Lib.hid (E_7.out.below hb E_7.out.lt)
          have G_8 : Hid (Blk wX (v3.heap.size + 1) 28 #[.int .i64 t.x, .int .i64 t.y]) := Lib.hid (G_7.out.below hb G_7.out.lt)
          have K_8 : Hid (Blk wX (v3.heap.size + 1 + 1) 28 #[.int .i64 t.x, .int .i64 t.y]) := Lib.hid (K_7.out.below hb K_7.out.lt)
          have HB_8 : Hid (Below w.heap.size w wX) := Lib.hid (HB_7.out.trans (hb.mono HB_7.out.size))
          clear hb B_7 S_7 F_7 E_7 G_7 K_7 HB_7
          have X_8 : Hid (Blk wX pX 28 #[.int .i64 a.x, .int .i64 a.y]) := Lib.hid hqX
          clear hqX
          go_upto_region 21 with fail
          refine wp_region_grow (S := (fun w' => w'.cell? ⟨w.heap.size, 0, none⟩ = some (.int .i64 u0) ∧ w'.cell? ⟨w.heap.size, 1, none⟩ = some (.int .i64 u1) ∧ w'.cell? ⟨w.heap.size, 2, none⟩ = some (.int .i64 u2) ∧ w'.cell? ⟨w.heap.size, 3, none⟩ = some (.int .i64 u3))) ((fun w' => Below wX.heap.size wX w')) (by kernel_rfl) (⟨fun w2 h2 => ⟨(B_8.out.below h2 B_8.out.lt).cell (i := 0) (v := .int .i64 u0) rfl, (B_8.out.below h2 B_8.out.lt).cell (i := 1) (v := .int .i64 u1) rfl, (B_8.out.below h2 B_8.out.lt).cell (i := 2) (v := .int .i64 u2) rfl, (B_8.out.below h2 B_8.out.lt).cell (i := 3) (v := .int .i64 u3) rfl⟩, fun w2 w3 h2 hb2 => h2.trans (hb2.mono h2.size)⟩) ((Below.refl wX.heap.size wX).drew) (fun hCalm => ?_)
          refine grow_take 0 (some 146) ?_ rfl rfl (by kernel_rfl) (fun _ _ _ h => h) (by kernel_rfl) hCalm ?_ ?_
          rotate_left
          · intro wS hS; (try dsimp only at hS); go_simp <;> with_reducible rfl
          try simp only [Act.put, List.setIfInBounds_toArray, List.set_cons_zero, List.set_cons_succ]
          refine grow_take 1 (some 147) ?_ rfl rfl (by kernel_rfl) (fun _ _ _ h => h) (by kernel_rfl) hCalm ?_ ?_
          rotate_left
          · intro wS hS; (try dsimp only at hS); go_simp <;> with_reducible rfl
          try simp only [Act.put, List.setIfInBounds_toArray, List.set_cons_zero, List.set_cons_succ]
          refine grow_take 3 (some 149) ?_ rfl rfl (by kernel_rfl) (fun _ _ _ h => h) (by kernel_rfl) hCalm ?_ ?_
          rotate_left
          · intro wS hS; (try dsimp only at hS); go_simp <;> with_reducible rfl
          try simp only [Act.put, List.setIfInBounds_toArray, List.set_cons_zero, List.set_cons_succ]
          refine grow_take 4 (some 150) ?_ rfl rfl (by kernel_rfl) (fun _ _ _ h => h) (by kernel_rfl) hCalm ?_ ?_
          rotate_left
          · intro wS hS; (try dsimp only at hS); go_simp <;> with_reducible rfl
          try simp only [Act.put, List.setIfInBounds_toArray, List.set_cons_zero, List.set_cons_succ]
          refine grow_call 2 (some 148) (.int .i64 b.x) 24 [.tmp 147, .const (Go.Value.int Go.IntKind.i64 4096)] #[3, 3] rfl rfl (by kernel_rfl) (fun _ _ _ h => h) (by kernel_rfl) hCalm rfl (enters_of Tryd.func24 (by kernel_rfl) rfl) (fun wz _ => HP2.out wz) (by kernel_rfl) ?_
          try simp only [Act.put, List.setIfInBounds_toArray, List.set_cons_zero, List.set_cons_succ]
          refine grow_call 5 (some 151) (.int .i64 b.y) 24 [.tmp 150, .const (Go.Value.int Go.IntKind.i64 4096)] #[3, 3] rfl rfl (by kernel_rfl) (fun _ _ _ h => h) (by kernel_rfl) hCalm rfl (enters_of Tryd.func24 (by kernel_rfl) rfl) (fun wz _ => HP3.out wz) (by kernel_rfl) ?_
          try simp only [Act.put, List.setIfInBounds_toArray, List.set_cons_zero, List.set_cons_succ]
          refine grow_take 6 (some 152) ?_ rfl rfl (by kernel_rfl) (fun _ _ _ h => h) (by kernel_rfl) hCalm ?_ ?_
          rotate_left
          · intro wS hS; (try dsimp only at hS); go_simp <;> with_reducible rfl
          try simp only [Act.put, List.setIfInBounds_toArray, List.set_cons_zero, List.set_cons_succ]
          refine grow_each [7] (by kernel_rfl) (by decide) ?_
          refine grow_cons 7 rfl (by kernel_rfl) (fun wA hA K hK => ?_) grow_nil
          obtain ⟨pY, hpY⟩ : ∃ b, b = wA.heap.size := ⟨_, rfl⟩
          have le_pY : wX.heap.size ≤ pY := by rw [hpY]; exact hA.size
          have hnew : Blk (wA.alloc (.cells #[.int .i64 0, .int .i64 0] 28)) pY 28 #[.int .i64 0, .int .i64 0] := by rw [hpY]; exact Blk.new wA _ _
          go_simp
          rw [← hpY]
          refine grow_new hK hCalm hA hnew (fun h9 => ?_)
          clear hCalm hnew hpY hK K hA wA; have hCalm := h9; clear h9
          try simp only [Act.put, List.setIfInBounds_toArray, List.set_cons_zero, List.set_cons_succ]
          refine grow_each [8] (by kernel_rfl) (by decide) ?_
          refine grow_cons 8 rfl (by kernel_rfl) (fun wA hA K hK => ?_) grow_nil
          have z0 := hA.2.cell (i := 0) (v := .int .i64 0) rfl; have f0 := hA.2.frozen 0
          have z1 := hA.2.cell (i := 1) (v := .int .i64 0) rfl; have f1 := hA.2.frozen 1
          go_simp
          clear hCalm; refine grow_put hK (fun w' => (Below wX.heap.size wX w') ∧ Blk w' pY 28 #[(.int .i64 b.x), (.int .i64 b.y)]) ⟨fun w2 h2 => ⟨(B_8.out.below h2.1 B_8.out.lt).cell (i := 0) (v := .int .i64 u0) rfl, (B_8.out.below h2.1 B_8.out.lt).cell (i := 1) (v := .int .i64 u1) rfl, (B_8.out.below h2.1 B_8.out.lt).cell (i := 2) (v := .int .i64 u2) rfl, (B_8.out.below h2.1 B_8.out.lt).cell (i := 3) (v := .int .i64 u3) rfl⟩, fun w2 w3 h2 hb2 => ⟨h2.1.trans (hb2.mono h2.1.size), h2.2.below hb2 h2.2.lt⟩⟩ ⟨((hA.1.setCell (p := ⟨pY, 0, none⟩) (by show wX.heap.size ≤ pY; omega) _).setCell (p := ⟨pY, 1, none⟩) (by show wX.heap.size ≤ pY; omega) _), ((hA.2.set 0 _).set 1 _)⟩ (fun hCalm => ?_)
          clear z0 f0 z1 f1 hK K hA wA
          try simp only [Act.put]
          refine grow_done (by kernel_rfl) (fun wA hA => ?_) _
          obtain ⟨wY, hwY⟩ : ∃ x, x = wA := ⟨_, rfl⟩
          rw [← hwY] at hA ⊢
          have hb := hA.1
          have hqY := hA.2
          clear hA hCalm hwY
          have TB_9 : Hid (Tb8 wY) := Lib.hid (TB_8.out.below hb (Nat.le_refl _))
          have TZ_9 : Hid (Tz wY A0 n) := Lib.hid (TZ_8.out.below hb (Nat.le_refl _))
          have DS_9 : Hid (Dz wY A1 ds) := Lib.hid (DS_8.out.below hb (Nat.le_refl _))
          have PZ_9 : Hid (Pz wY (some ⟨p, 0, none⟩) F.ps) := Lib.hid (PZ_8.out.below hb (Nat.le_refl _))
          have IZ_9 : Hid (Iz wY (some ⟨q, 0, none⟩) F.ss) := Lib.hid (IZ_8.out.below hb (Nat.le_refl _))
          clear TB_8 TZ_8 DS_8 PZ_8 IZ_8
          have B_9 : Hid (Blk wY w.heap.size 74 #[.int .i64 u0, .int .i64 u1, .int .i64 u2, .int .i64 u3]) := Lib.hid (B_8.out.below hb B_8.out.lt)
          have S_9 : Hid (Blk wY v1.heap.size 26 #[.int .i64 P, .int .i64 N, .slice A1 ds.length k1]) := Lib.hid (S_8.out.below hb S_8.out.lt)
          have F_9 : Hid (Blk wY v2.heap.size 48 #[.slice (some ⟨p, 0, none⟩) m m, .slice (some ⟨q, 0, none⟩) (m - 1) (m - 1), .bool cl]) := Lib.hid (F_8.out.below hb F_8.out.lt)
          have E_9 : Hid (Blk wY v3.heap.size 28 #[.int .i64 f.x, .int .i64 f.y]) := Lib.hid (E_8.out.below hb E_8.out.lt)
          have G_9 : Hid (Blk wY (v3.heap.size + 1) 28 #[.int .i64 t.x, .int .i64 t.y]) := Lib.hid (G_8.out.below hb G_8.out.lt)
          have K_9 : Hid (Blk wY (v3.heap.size + 1 + 1) 28 #[.int .i64 t.x, .int .i64 t.y]) := Lib.hid (K_8.out.below hb K_8.out.lt)
          have X_9 : Hid (Blk wY pX 28 #[.int .i64 a.x, .int .i64 a.y]) := Lib.hid (X_8.out.below hb X_8.out.lt)
          have HB_9 : Hid (Below w.heap.size w wY) := Lib.hid (HB_8.out.trans (hb.mono HB_8.out.size))
          clear hb B_8 S_8 F_8 E_8 G_8 K_8 X_8 HB_8
          have Y_9 : Hid (Blk wY pY 28 #[.int .i64 b.x, .int .i64 b.y]) := Lib.hid hqY
          clear hqY
          have HD1 := Lib.hid (pdir8 a b wY HAB.out.1 HAB.out.2 TB_9.out.1)
          have HD2 := Lib.hid (fun W (h : Below wY.heap.size wY W) => pdir8 b a W HAB.out.2 HAB.out.1 (TB_9.out.1.below h (Nat.le_refl _)))
          have HDR : Hid ((0 ≤ dr8 a b ∧ dr8 a b ≤ 7) ∧ (a = b → dr8 a b = 0 ∧ dr8 b a = 0) ∧ (a ≠ b → dr8 b a = (dr8 a b + 4).tmod 8)) := Lib.hid ⟨dr8_in a b, fun h => by rw [h]; exact ⟨dr8_same b, dr8_same b⟩, dr8_other⟩
          generalize dr8 a b = s1 at *
          generalize dr8 b a = s2 at *
          have yy0 := X_9.out.cell (i := 0) (v := .int .i64 a.x) rfl; have yy1 := X_9.out.cell (i := 1) (v := .int .i64 a.y) rfl
          have yy2 := Y_9.out.cell (i := 0) (v := .int .i64 b.x) rfl; have yy3 := Y_9.out.cell (i := 1) (v := .int .i64 b.y) rfl
          go_wp2_with fail
          refine (HD1.out).mono ?_
          rintro e v9 ⟨rfl, hb⟩
          have hbk := hb
          clear yy0 yy1 yy2 yy3
          have TB_10 : Hid (Tb8 v9) := Lib.hid (TB_9.out.below hb (Nat.le_refl _))
          have TZ_10 : Hid (Tz v9 A0 n) := Lib.hid (TZ_9.out.below hb (Nat.le_refl _))
          have DS_10 : Hid (Dz v9 A1 ds) := Lib.hid (DS_9.out.below hb (Nat.le_refl _))
          have PZ_10 : Hid (Pz v9 (some ⟨p, 0, none⟩) F.ps) := Lib.hid (PZ_9.out.below hb (Nat.le_refl _))
          have IZ_10 : Hid (Iz v9 (some ⟨q, 0, none⟩) F.ss) := Lib.hid (IZ_9.out.below hb (Nat.le_refl _))
          clear TB_9 TZ_9 DS_9 PZ_9 IZ_9
          have B_10 : Hid (Blk v9 w.heap.size 74 #[.int .i64 u0, .int .i64 u1, .int .i64 u2, .int .i64 u3]) := Lib.hid (B_9.out.below hb B_9.out.lt)
          have S_10 : Hid (Blk v9 v1.heap.size 26 #[.int .i64 P, .int .i64 N, .slice A1 ds.length k1]) := Lib.hid (S_9.out.below hb S_9.out.lt)
          have F_10 : Hid (Blk v9 v2.heap.size 48 #[.slice (some ⟨p, 0, none⟩) m m, .slice (some ⟨q, 0, none⟩) (m - 1) (m - 1), .bool cl]) := Lib.hid (F_9.out.below hb F_9.out.lt)
          have E_10 : Hid (Blk v9 v3.heap.size 28 #[.int .i64 f.x, .int .i64 f.y]) := Lib.hid (E_9.out.below hb E_9.out.lt)
          have G_10 : Hid (Blk v9 (v3.heap.size + 1) 28 #[.int .i64 t.x, .int .i64 t.y]) := Lib.hid (G_9.out.below hb G_9.out.lt)
          have K_10 : Hid (Blk v9 (v3.heap.size + 1 + 1) 28 #[.int .i64 t.x, .int .i64 t.y]) := Lib.hid (K_9.out.below hb K_9.out.lt)
          have X_10 : Hid (Blk v9 pX 28 #[.int .i64 a.x, .int .i64 a.y]) := Lib.hid (X_9.out.below hb X_9.out.lt)
          have Y_10 : Hid (Blk v9 pY 28 #[.int .i64 b.x, .int .i64 b.y]) := Lib.hid (Y_9.out.below hb Y_9.out.lt)
          have HB_10 : Hid (Below w.heap.size w v9) := Lib.hid (HB_9.out.trans (hb.mono HB_9.out.size))
          clear hb B_9 S_9 F_9 E_9 G_9 K_9 X_9 Y_9 HB_9
          have yy0 := X_10.out.cell (i := 0) (v := .int .i64 a.x) rfl; have yy1 := X_10.out.cell (i := 1) (v := .int .i64 a.y) rfl
          have yy2 := Y_10.out.cell (i := 0) (v := .int .i64 b.x) rfl; have yy3 := Y_10.out.cell (i := 1) (v := .int .i64 b.y) rfl
          go_wp2_with fail
          refine (HD2.out _ hbk).mono ?_
          rintro e v10 ⟨rfl, hb⟩
          clear yy0 yy1 yy2 yy3
          have TB_11 : Hid (Tb8 v10) := Lib.hid (TB_10.out.below hb (Nat.le_refl _))
          have TZ_11 : Hid (Tz v10 A0 n) := Lib.hid (TZ_10.out.below hb (Nat.le_refl _))
          have DS_11 : Hid (Dz v10 A1 ds) := Lib.hid (DS_10.out.below hb (Nat.le_refl _))
          have PZ_11 : Hid (Pz v10 (some ⟨p, 0, none⟩) F.ps) := Lib.hid (PZ_10.out.below hb (Nat.le_refl _))
          have IZ_11 : Hid (Iz v10 (some ⟨q, 0, none⟩) F.ss) := Lib.hid (IZ_10.out.below hb (Nat.le_refl _))
          clear TB_10 TZ_10 DS_10 PZ_10 IZ_10
          have B_11 : Hid (Blk v10 w.heap.size 74 #[.int .i64 u0, .int .i64 u1, .int .i64 u2, .int .i64 u3]) := Lib.hid (B_10.out.below hb B_10.out.lt)
          have S_11 : Hid (Blk v10 v1.heap.size 26 #[.int .i64 P, .int .i64 N, .slice A1 ds.length k1]) := Lib.hid (S_10.out.below hb S_10.out.lt)
          have F_11 : Hid (Blk v10 v2.heap.size 48 #[.slice (some ⟨p, 0, none⟩) m m, .slice (some ⟨q, 0, none⟩) (m - 1) (m - 1), .bool cl]) := Lib.hid (F_10.out.below hb F_10.out.lt)
          have E_11 : Hid (Blk v10 v3.heap.size 28 #[.int .i64 f.x, .int .i64 f.y]) := Lib.hid (E_10.out.below hb E_10.out.lt)
          have G_11 : Hid (Blk v10 (v3.heap.size + 1) 28 #[.int .i64 t.x, .int .i64 t.y]) := Lib.hid (G_10.out.below hb G_10.out.lt)
          have K_11 : Hid (Blk v10 (v3.heap.size + 1 + 1) 28 #[.int .i64 t.x, .int .i64 t.y]) := Lib.hid (K_10.out.below hb K_10.out.lt)
          have X_11 : Hid (Blk v10 pX 28 #[.int .i64 a.x, .int .i64 a.y]) := Lib.hid (X_10.out.below hb X_10.out.lt)
          have Y_11 : Hid (Blk v10 pY 28 #[.int .i64 b.x, .int .i64 b.y]) := Lib.hid (Y_10.out.below hb Y_10.out.lt)
          have HB_11 : Hid (Below w.heap.size w v10) := Lib.hid (HB_10.out.trans (hb.mono HB_10.out.size))
          clear hb B_10 S_10 F_10 E_10 G_10 K_10 X_10 Y_10 HB_10
          clear hbk HD1 HD2
          by_cases hab : a = b
          case pos =>
            obtain ⟨rfl, rfl⟩ := HDR.out.2.1 hab
            subst hab
            clear HDR
            have yy0 := X_11.out.cell (i := 0) (v := .int .i64 a.x) rfl; have yy1 := X_11.out.cell (i := 1) (v := .int .i64 a.y) rfl
            have yy2 := Y_11.out.cell (i := 0) (v := .int .i64 a.x) rfl; have yy3 := Y_11.out.cell (i := 1) (v := .int .i64 a.y) rfl
            go_wp2_with fail
            go_ret
            exact ⟨rfl, HB_11.out⟩
          case neg =>
            have hs := HDR.out.2.2 hab
            have hs1 := HDR.out.1
            have g1 : 0 ≤ s1 := hs1.1
            have g2 : s1 < 8 := by omega
            have hs2 : 0 ≤ s2 ∧ s2 < 8 := by rw [hs]; exact ⟨Int.tmod_nonneg _ (by omega), Int.tmod_lt_of_pos _ (by omega)⟩
            have e1 : IntKind.i64.wrap (s1 + 4) = s1 + 4 := IntWalk.i64_in _ (by omega)
            have e2 : (s1 + 4).tmod 8 = s2 := hs.symm
            have e3 : IntKind.i64.wrap s2 = s2 := IntWalk.i64_in _ (by omega)
            have hne : ¬ (a.x = b.x ∧ a.y = b.y) := fun h => hab (by obtain ⟨ax, ay⟩ := a; obtain ⟨bx, by_⟩ := b; simp only at h; rw [h.1, h.2])
            clear HDR hs hs1 hs2 hab
            have hundef := un_none
            have yy0 := X_11.out.cell (i := 0) (v := .int .i64 a.x) rfl; have yy1 := X_11.out.cell (i := 1) (v := .int .i64 a.y) rfl
            have yy2 := Y_11.out.cell (i := 0) (v := .int .i64 b.x) rfl; have yy3 := Y_11.out.cell (i := 1) (v := .int .i64 b.y) rfl
            by_cases hx : a.x = b.x
            case pos =>
              have hy : ¬ a.y = b.y := fun h => hne ⟨hx, h⟩
              have hxb : (a.x == b.x) = true := by rw [hx]; exact beq_self_eq_true _
              have hyb : (a.y == b.y) = false := beq_eq_false_iff_ne.2 hy
              go_wp2_with fail
              go_ret
              exact ⟨rfl, HB_11.out⟩
            case neg =>
              have hxb : (a.x == b.x) = false := beq_eq_false_iff_ne.2 hx
              go_wp2_with fail
              go_ret
              exact ⟨rfl, HB_11.out⟩
end Go.Proofs.YtmjcjaecaigahaaDoor
