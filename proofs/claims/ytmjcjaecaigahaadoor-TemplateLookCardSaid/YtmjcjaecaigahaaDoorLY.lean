/- The statements' check of the chapter's examples. Conditions: the tables. -/
import Derived.Test.YtmjcjaecaigahaaDoorLX
import Derived.Test.YtmjcjaecaigahaaDoorLF
namespace Go.Proofs.YtmjcjaecaigahaaDoor
open Go.RowKit Go.Lib Go.Shelf

set_option maxRecDepth 100000 in
set_option maxHeartbeats 8000000 in
theorem example8_any (w : World) :
    Calls Tryd.prog 39 #[] w fun e w' => ∃ A, e = .returned (.agg #[.int .i64 2, .int .i64 7, .slice A 5 5]) ∧ Dz w' A exds8 ∧ Below w.heap.size w w' := by
  go_enter Tryd.func39, Tryd.ntmps39
  go_wp2_with fail
  have h := Blk.new (w.alloc (.cells #[.int .i64 2, .int .i64 7, .slice (some ⟨w.heap.size + 1, 0, none⟩) 5 5] 26)) 69 (flat exds8).toArray
  rw [World.size_alloc] at h
  exact bodyPost_ret (v := .agg #[.int .i64 2, .int .i64 7, .slice (some ⟨w.heap.size + 1, 0, none⟩) 5 5]) (by simp [results, Tryd.results39, go_sem]) rfl ⟨_, rfl, dz_of_blk h, ((Below.refl _ _).alloc (Nat.le_refl _) _).alloc (by simp) _⟩
theorem exc8 (k : Int) (n : Int) (A B : Option Addr) (w : World) (hL : Lz8 w B (exl8 A)) (hT : Tb8 w) (hk : 1 ≤ k ∧ k ≤ 5) (hn : cost8 [exF8] k = n) : Yl 13 #[.slice B 1 1, .int .i64 k] w (.tuple #[.int .i64 n, .int .i64 0]) := by
  have h := cost8_yes (exl8 A) B 1 w hL (exl8_rd A) hT k hk
  rw [exl8_fs, hn] at h; exact h
theorem exf8 (k : Int) (t : Bool) (A B : Option Addr) (w : World) (hL : Lz8 w B (exl8 A)) (hT : Tb8 w) (hk : 1 ≤ k ∧ k ≤ 5) (hn : decide (cost8 [exF8] k ≤ 20) = t) : Yl 17 #[.slice B 1 1, .int .i64 k] w (.bool t) := by
  have h := fits8_yes (exl8 A) B 1 w hL (exl8_rd A) hT k hk
  rw [exl8_fs, hn] at h; exact h
theorem exch8 (A B : Option Addr) (w : World) (hL : Lz8 w B (exl8 A)) (hT : Tb8 w) : Yl 19 #[.slice B 1 1] w (.tuple #[.int .i64 2, .int .i64 0, .int .i64 0]) := by
  have h := cheapest8_yes (exl8 A) B 1 w hL (exl8_rd A) hT
  rw [exl8_fs, ex8_chp] at h; exact h
theorem exs28 (A B : Option Addr) (w : World) (hL : Lz8 w B (exl8 A)) : Yl 15 #[.slice B 1 1, .int .i64 2] w (.tuple #[.agg #[.int .i64 2007, .int .i64 2, .int .i64 100, .int .i64 100, .int .i64 800, .int .i64 400, .int .i64 0, .int .i64 0, .int .i64 0, .int .i64 0, .string ⟨#[]⟩], .int .i64 0]) := by
  have h := shape8_2 (exl8 A) B 1 w hL (exl8_rd A) rfl
  rw [exl8_sh2] at h; exact h
theorem exs48 (A B : Option Addr) (w : World) (hL : Lz8 w B (exl8 A)) (hT : Tb8 w) : Yl 15 #[.slice B 1 1, .int .i64 4] w (.tuple #[.agg #[.int .i64 2007, .int .i64 4, .int .i64 100, .int .i64 100, .int .i64 800, .int .i64 400, .int .i64 0, .int .i64 0, .int .i64 0, .int .i64 0, .string ⟨#[78]⟩], .int .i64 0]) := by
  have h := shape8_4 (exl8 A) B 1 w hL (exl8_rd A) hT rfl
  rw [exl8_sh4] at h; exact h
theorem exs38 (A B : Option Addr) (w : World) (hL : Lz8 w B (exl8 A)) : Yl 15 #[.slice B 1 1, .int .i64 3] w (.tuple #[.agg #[.int .i64 0, .int .i64 0, .int .i64 0, .int .i64 0, .int .i64 0, .int .i64 0, .int .i64 0, .int .i64 0, .int .i64 0, .int .i64 0, .string ⟨#[]⟩], .int .i64 80]) := shape8_no (exl8 A) B 1 w hL (exl8_rd A) 3 rfl
theorem exlk8 (A : Option Addr) (w : World) (hA : Dz w A exds8) (hT : Cp8 w) : Calls Tryd.prog 21 #[.agg #[.int .i64 2, .int .i64 7, .slice A 5 5]] w fun e w' => (∃ p q, e = .returned (.tuple #[.agg #[.slice (some ⟨p, 0, none⟩) 5 5, .slice (some ⟨q, 0, none⟩) 4 4, .bool true], .int .i64 0]) ∧ Pz w' (some ⟨p, 0, none⟩) exF8.ps ∧ Iz w' (some ⟨q, 0, none⟩) [0, 2, 4, 6]) ∧ Below w.heap.size w w' := by
  refine (look8_yes 2 7 exds8 A 5 w hA (Nat.le_refl _) ex8_vd hT).mono ?_
  rintro e v0 ⟨⟨v, rfl, hz, -⟩, hb⟩
  rw [ex8_look] at hz
  obtain ⟨p, q, rfl, -, hp, hq⟩ := hz
  exact ⟨⟨p, q, rfl, hp.reads, hq.reads⟩, hb⟩
theorem exint8 (q g : Nat) (w : World) (h1 : Iz w (some ⟨q, 0, none⟩) [0, 2, 4, 6]) (h2 : Blk w g 3 #[.int .i64 0, .int .i64 2, .int .i64 4, .int .i64 6]) : Yl 32 #[.slice (some ⟨q, 0, none⟩) 4 4, .slice (some ⟨g, 0, none⟩) 4 4] w (.bool true) := by
  have h := rints_any [0, 2, 4, 6] [0, 2, 4, 6] (some ⟨q, 0, none⟩) (some ⟨g, 0, none⟩) 4 4 w h1 (Iz.of_blk (l := [0, 2, 4, 6]) h2) (by decide) (by decide)
  rwa [decide_eq_true rfl] at h
theorem exfar8 (g g2 : Nat) (w : World) (h1 : Blk w g 3 #[.int .i64 0, .int .i64 2]) (h2 : Blk w g2 3 #[.int .i64 1, .int .i64 2, .int .i64 4]) : Yl 29 #[.slice (some ⟨g, 0, none⟩) 2 2, .slice (some ⟨g2, 0, none⟩) 3 3] w (.int .i64 4) := by
  have h := far8_yes [0, 2] [1, 2, 4] (some ⟨g, 0, none⟩) (some ⟨g2, 0, none⟩) 2 3 w (Iz.of_blk (l := [0, 2]) h1) (Iz.of_blk (l := [1, 2, 4]) h2) ⟨by decide, by unfold Ds8 Dr8; decide⟩ ⟨by decide, by unfold Ds8 Dr8; decide⟩
  rw [ex8_far] at h; exact h
theorem exfarn8 (g : Nat) (w : World) (h1 : Blk w g 3 #[.int .i64 8]) : Yl 29 #[.slice (some ⟨g, 0, none⟩) 1 1, .slice none 0 0] w (.int .i64 (-1)) :=
  far8_no [8] [] (some ⟨g, 0, none⟩) none 1 0 w (Iz.of_blk (l := [8]) h1) (by decide) (fun h => absurd (h.2 8 (by simp)) (by unfold Dr8; decide))
theorem exdir8 (a b : P7) (n : Int) (w : World) (hT : Cp8 w) (h : Dir8 a b = n) : Yl 25 #[p7v a, p7v b] w (.int .i64 n) := by
  have h1 := Direction8_any a b w hT
  rwa [h] at h1
theorem exlet8 (w : World) (hT : Lt8 w) : Calls Tryd.prog 27 #[] w fun e w' => (∃ q, e = .returned (.slice (some ⟨q, 0, none⟩) 8 8)) ∧ Below w.heap.size w w' := by
  refine (letters8_any w hT).mono ?_
  rintro e v0 ⟨⟨q, rfl, -⟩, hb⟩
  exact ⟨⟨q, rfl⟩, hb⟩
theorem exl8_lz (A : Option Addr) (g : Nat) (w : World) (h : Blk w g 26 #[.int .i64 2, .int .i64 7, .slice A 5 5]) (hd : Dz w A exds8) : Lz8 w (some ⟨g, 0, none⟩) (exl8 A) := by
  refine ⟨fun _ => ⟨g, 0, rfl, h.lt, fun i hi j v hv => ?_⟩, fun s hs => ?_⟩
  · obtain rfl : i = 0 := by simp [exl8] at hi; omega
    have h2 : (#[Value.int .i64 2, .int .i64 7, .slice A 5 5])[j]? = some v := by simpa [exl8, k8c, ex8_len] using hv
    have h3 := h.cell h2
    simpa using h3
  · obtain rfl : s = ⟨2, 7, exds8, A, 5⟩ := by simpa [exl8] using hs
    exact hd
set_option maxRecDepth 100000 in
set_option maxHeartbeats 32000000 in
theorem sane8_any (w : World) (hT : Tb8 w) : Yl 10 #[] w (.bool true) := by
  have HB_0 : Hid (Below w.heap.size w w) := Lib.hid (Below.refl w.heap.size w)
  have TB_0 : Hid (Tb8 w) := Lib.hid hT
  clear hT
  go_enter Tryd.func10, Tryd.ntmps10
  go_wp2_with fail
  refine (example8_any _).mono ?_
  rintro e v0 ⟨A, rfl, hdz, hb⟩
  have DS_0 := Lib.hid hdz
  have TB_1 : Hid (Tb8 ((v0.alloc (.cells #[.int .i64 2, .int .i64 7, .slice A 5 5] 26)).alloc (.cells #[.int .i64 2, .int .i64 7, .slice A 5 5] 26))) := Lib.hid (TB_0.out.below (allocs_below [(#[.int .i64 2, .int .i64 7, .slice A 5 5], 26), (#[.int .i64 2, .int .i64 7, .slice A 5 5], 26)] _ hb hb.size) (Nat.le_refl _))
  have DS_1 : Hid (Dz ((v0.alloc (.cells #[.int .i64 2, .int .i64 7, .slice A 5 5] 26)).alloc (.cells #[.int .i64 2, .int .i64 7, .slice A 5 5] 26)) A exds8) := Lib.hid (DS_0.out.below (allocs_below [(#[.int .i64 2, .int .i64 7, .slice A 5 5], 26), (#[.int .i64 2, .int .i64 7, .slice A 5 5], 26)] _ (Below.refl _ _) (Nat.le_refl _)) (Nat.le_refl _))
  clear TB_0 DS_0
  have HB_1 : Hid (Below w.heap.size w ((v0.alloc (.cells #[.int .i64 2, .int .i64 7, .slice A 5 5] 26)).alloc (.cells #[.int .i64 2, .int .i64 7, .slice A 5 5] 26))) := Lib.hid (allocs_below [(#[.int .i64 2, .int .i64 7, .slice A 5 5], 26), (#[.int .i64 2, .int .i64 7, .slice A 5 5], 26)] _ (HB_0.out.trans (hb.mono HB_0.out.size)) (HB_0.out.trans (hb.mono HB_0.out.size)).size)
  have S_1 : Hid (Blk ((v0.alloc (.cells #[.int .i64 2, .int .i64 7, .slice A 5 5] 26)).alloc (.cells #[.int .i64 2, .int .i64 7, .slice A 5 5] 26)) v0.heap.size 26 #[.int .i64 2, .int .i64 7, .slice A 5 5]) := Lib.hid (allocs_blk [(#[.int .i64 2, .int .i64 7, .slice A 5 5], 26), (#[.int .i64 2, .int .i64 7, .slice A 5 5], 26)] v0 0 _ rfl)
  have X_1 : Hid (Blk ((v0.alloc (.cells #[.int .i64 2, .int .i64 7, .slice A 5 5] 26)).alloc (.cells #[.int .i64 2, .int .i64 7, .slice A 5 5] 26)) (v0.heap.size + 1) 26 #[.int .i64 2, .int .i64 7, .slice A 5 5]) := Lib.hid (allocs_blk [(#[.int .i64 2, .int .i64 7, .slice A 5 5], 26), (#[.int .i64 2, .int .i64 7, .slice A 5 5], 26)] v0 1 _ rfl)
  clear hb HB_0
  have hlz := exl8_lz A _ _ X_1.out DS_1.out
  have LZ_1 := Lib.hid hlz; clear hlz
  have hys := Blk.new v0 26 #[.int .i64 2, .int .i64 7, .slice A 5 5]
  have ys0 := hys.cell (i := 0) (v := .int .i64 2) rfl
  have ys1 := hys.cell (i := 1) (v := .int .i64 7) rfl
  have ys2 := hys.cell (i := 2) (v := .slice A 5 5) rfl
  clear hys
  have yy0 := S_1.out.cell (i := 0) (v := .int .i64 2) rfl; have yy1 := S_1.out.cell (i := 1) (v := .int .i64 7) rfl; have yy2 := S_1.out.cell (i := 2) (v := .slice A 5 5) rfl
  go_wp2_with fail
  refine (exlk8 A _ DS_1.out TB_1.out.1).mono ?_
  rintro e v1 ⟨⟨p, q, rfl, hp, hq⟩, hb⟩
  clear ys0 ys1 ys2
  clear yy0 yy1 yy2
  have PZ_1 := Lib.hid hp
  have IZ_1 := Lib.hid hq
  have TB_2 : Hid (Tb8 (v1.alloc (.cells #[.slice (some ⟨p, 0, none⟩) 5 5, .slice (some ⟨q, 0, none⟩) 4 4, .bool true] 48))) := Lib.hid (TB_1.out.below (allocs_below [(#[.slice (some ⟨p, 0, none⟩) 5 5, .slice (some ⟨q, 0, none⟩) 4 4, .bool true], 48)] _ hb hb.size) (Nat.le_refl _))
  have DS_2 : Hid (Dz (v1.alloc (.cells #[.slice (some ⟨p, 0, none⟩) 5 5, .slice (some ⟨q, 0, none⟩) 4 4, .bool true] 48)) A exds8) := Lib.hid (DS_1.out.below (allocs_below [(#[.slice (some ⟨p, 0, none⟩) 5 5, .slice (some ⟨q, 0, none⟩) 4 4, .bool true], 48)] _ hb hb.size) (Nat.le_refl _))
  have LZ_2 : Hid (Lz8 (v1.alloc (.cells #[.slice (some ⟨p, 0, none⟩) 5 5, .slice (some ⟨q, 0, none⟩) 4 4, .bool true] 48)) (some ⟨v0.heap.size + 1, 0, none⟩) (exl8 A)) := Lib.hid (LZ_1.out.below (allocs_below [(#[.slice (some ⟨p, 0, none⟩) 5 5, .slice (some ⟨q, 0, none⟩) 4 4, .bool true], 48)] _ hb hb.size) (Nat.le_refl _))
  have PZ_2 : Hid (Pz (v1.alloc (.cells #[.slice (some ⟨p, 0, none⟩) 5 5, .slice (some ⟨q, 0, none⟩) 4 4, .bool true] 48)) (some ⟨p, 0, none⟩) exF8.ps) := Lib.hid (PZ_1.out.below (allocs_below [(#[.slice (some ⟨p, 0, none⟩) 5 5, .slice (some ⟨q, 0, none⟩) 4 4, .bool true], 48)] _ (Below.refl _ _) (Nat.le_refl _)) (Nat.le_refl _))
  have IZ_2 : Hid (Iz (v1.alloc (.cells #[.slice (some ⟨p, 0, none⟩) 5 5, .slice (some ⟨q, 0, none⟩) 4 4, .bool true] 48)) (some ⟨q, 0, none⟩) [0, 2, 4, 6]) := Lib.hid (IZ_1.out.below (allocs_below [(#[.slice (some ⟨p, 0, none⟩) 5 5, .slice (some ⟨q, 0, none⟩) 4 4, .bool true], 48)] _ (Below.refl _ _) (Nat.le_refl _)) (Nat.le_refl _))
  clear TB_1 DS_1 LZ_1 PZ_1 IZ_1
  have S_2 : Hid (Blk (v1.alloc (.cells #[.slice (some ⟨p, 0, none⟩) 5 5, .slice (some ⟨q, 0, none⟩) 4 4, .bool true] 48)) v0.heap.size 26 #[.int .i64 2, .int .i64 7, .slice A 5 5]) := Lib.hid (allocs_keep [(#[.slice (some ⟨p, 0, none⟩) 5 5, .slice (some ⟨q, 0, none⟩) 4 4, .bool true], 48)] _ (S_1.out.below hb S_1.out.lt))
  have X_2 : Hid (Blk (v1.alloc (.cells #[.slice (some ⟨p, 0, none⟩) 5 5, .slice (some ⟨q, 0, none⟩) 4 4, .bool true] 48)) (v0.heap.size + 1) 26 #[.int .i64 2, .int .i64 7, .slice A 5 5]) := Lib.hid (allocs_keep [(#[.slice (some ⟨p, 0, none⟩) 5 5, .slice (some ⟨q, 0, none⟩) 4 4, .bool true], 48)] _ (X_1.out.below hb X_1.out.lt))
  have HB_2 : Hid (Below w.heap.size w (v1.alloc (.cells #[.slice (some ⟨p, 0, none⟩) 5 5, .slice (some ⟨q, 0, none⟩) 4 4, .bool true] 48))) := Lib.hid (allocs_below [(#[.slice (some ⟨p, 0, none⟩) 5 5, .slice (some ⟨q, 0, none⟩) 4 4, .bool true], 48)] _ (HB_1.out.trans (hb.mono HB_1.out.size)) (HB_1.out.trans (hb.mono HB_1.out.size)).size)
  have F_2 : Hid (Blk (v1.alloc (.cells #[.slice (some ⟨p, 0, none⟩) 5 5, .slice (some ⟨q, 0, none⟩) 4 4, .bool true] 48)) v1.heap.size 48 #[.slice (some ⟨p, 0, none⟩) 5 5, .slice (some ⟨q, 0, none⟩) 4 4, .bool true]) := Lib.hid (allocs_blk [(#[.slice (some ⟨p, 0, none⟩) 5 5, .slice (some ⟨q, 0, none⟩) 4 4, .bool true], 48)] v1 0 _ rfl)
  clear hb S_1 X_1 HB_1
  clear hp hq
  go_wp2_with fail
  refine (exc8 1 38 A (some ⟨v0.heap.size + 1, 0, none⟩) _ LZ_2.out TB_2.out (by decide) ex8_c1).mono ?_
  rintro e v2 ⟨rfl, hb⟩
  have TB_3 : Hid (Tb8 v2) := Lib.hid (TB_2.out.below hb (Nat.le_refl _))
  have DS_3 : Hid (Dz v2 A exds8) := Lib.hid (DS_2.out.below hb (Nat.le_refl _))
  have LZ_3 : Hid (Lz8 v2 (some ⟨v0.heap.size + 1, 0, none⟩) (exl8 A)) := Lib.hid (LZ_2.out.below hb (Nat.le_refl _))
  have PZ_3 : Hid (Pz v2 (some ⟨p, 0, none⟩) exF8.ps) := Lib.hid (PZ_2.out.below hb (Nat.le_refl _))
  have IZ_3 : Hid (Iz v2 (some ⟨q, 0, none⟩) [0, 2, 4, 6]) := Lib.hid (IZ_2.out.below hb (Nat.le_refl _))
  clear TB_2 DS_2 LZ_2 PZ_2 IZ_2
  have S_3 : Hid (Blk v2 v0.heap.size 26 #[.int .i64 2, .int .i64 7, .slice A 5 5]) := Lib.hid (S_2.out.below hb S_2.out.lt)
  have X_3 : Hid (Blk v2 (v0.heap.size + 1) 26 #[.int .i64 2, .int .i64 7, .slice A 5 5]) := Lib.hid (X_2.out.below hb X_2.out.lt)
  have F_3 : Hid (Blk v2 v1.heap.size 48 #[.slice (some ⟨p, 0, none⟩) 5 5, .slice (some ⟨q, 0, none⟩) 4 4, .bool true]) := Lib.hid (F_2.out.below hb F_2.out.lt)
  have HB_3 : Hid (Below w.heap.size w v2) := Lib.hid (HB_2.out.trans (hb.mono HB_2.out.size))
  clear hb S_2 X_2 F_2 HB_2
  go_wp2_with fail
  refine (exc8 2 0 A (some ⟨v0.heap.size + 1, 0, none⟩) _ LZ_3.out TB_3.out (by decide) ex8_c2).mono ?_
  rintro e v3 ⟨rfl, hb⟩
  have TB_4 : Hid (Tb8 v3) := Lib.hid (TB_3.out.below hb (Nat.le_refl _))
  have DS_4 : Hid (Dz v3 A exds8) := Lib.hid (DS_3.out.below hb (Nat.le_refl _))
  have LZ_4 : Hid (Lz8 v3 (some ⟨v0.heap.size + 1, 0, none⟩) (exl8 A)) := Lib.hid (LZ_3.out.below hb (Nat.le_refl _))
  have PZ_4 : Hid (Pz v3 (some ⟨p, 0, none⟩) exF8.ps) := Lib.hid (PZ_3.out.below hb (Nat.le_refl _))
  have IZ_4 : Hid (Iz v3 (some ⟨q, 0, none⟩) [0, 2, 4, 6]) := Lib.hid (IZ_3.out.below hb (Nat.le_refl _))
  clear TB_3 DS_3 LZ_3 PZ_3 IZ_3
  have S_4 : Hid (Blk v3 v0.heap.size 26 #[.int .i64 2, .int .i64 7, .slice A 5 5]) := Lib.hid (S_3.out.below hb S_3.out.lt)
  have X_4 : Hid (Blk v3 (v0.heap.size + 1) 26 #[.int .i64 2, .int .i64 7, .slice A 5 5]) := Lib.hid (X_3.out.below hb X_3.out.lt)
  have F_4 : Hid (Blk v3 v1.heap.size 48 #[.slice (some ⟨p, 0, none⟩) 5 5, .slice (some ⟨q, 0, none⟩) 4 4, .bool true]) := Lib.hid (F_3.out.below hb F_3.out.lt)
  have HB_4 : Hid (Below w.heap.size w v3) := Lib.hid (HB_3.out.trans (hb.mono HB_3.out.size))
  clear hb S_3 X_3 F_3 HB_3
  go_wp2_with fail
  refine (exc8 4 10 A (some ⟨v0.heap.size + 1, 0, none⟩) _ LZ_4.out TB_4.out (by decide) ex8_c4).mono ?_
  rintro e v4 ⟨rfl, hb⟩
  have TB_5 : Hid (Tb8 v4) := Lib.hid (TB_4.out.below hb (Nat.le_refl _))
  have DS_5 : Hid (Dz v4 A exds8) := Lib.hid (DS_4.out.below hb (Nat.le_refl _))
  have LZ_5 : Hid (Lz8 v4 (some ⟨v0.heap.size + 1, 0, none⟩) (exl8 A)) := Lib.hid (LZ_4.out.below hb (Nat.le_refl _))
  have PZ_5 : Hid (Pz v4 (some ⟨p, 0, none⟩) exF8.ps) := Lib.hid (PZ_4.out.below hb (Nat.le_refl _))
  have IZ_5 : Hid (Iz v4 (some ⟨q, 0, none⟩) [0, 2, 4, 6]) := Lib.hid (IZ_4.out.below hb (Nat.le_refl _))
  clear TB_4 DS_4 LZ_4 PZ_4 IZ_4
  have S_5 : Hid (Blk v4 v0.heap.size 26 #[.int .i64 2, .int .i64 7, .slice A 5 5]) := Lib.hid (S_4.out.below hb S_4.out.lt)
  have X_5 : Hid (Blk v4 (v0.heap.size + 1) 26 #[.int .i64 2, .int .i64 7, .slice A 5 5]) := Lib.hid (X_4.out.below hb X_4.out.lt)
  have F_5 : Hid (Blk v4 v1.heap.size 48 #[.slice (some ⟨p, 0, none⟩) 5 5, .slice (some ⟨q, 0, none⟩) 4 4, .bool true]) := Lib.hid (F_4.out.below hb F_4.out.lt)
  have HB_5 : Hid (Below w.heap.size w v4) := Lib.hid (HB_4.out.trans (hb.mono HB_4.out.size))
  clear hb S_4 X_4 F_4 HB_4
  go_wp2_with fail
  refine (exc8 3 500 A (some ⟨v0.heap.size + 1, 0, none⟩) _ LZ_5.out TB_5.out (by decide) ex8_c3).mono ?_
  rintro e v5 ⟨rfl, hb⟩
  have TB_6 : Hid (Tb8 v5) := Lib.hid (TB_5.out.below hb (Nat.le_refl _))
  have DS_6 : Hid (Dz v5 A exds8) := Lib.hid (DS_5.out.below hb (Nat.le_refl _))
  have LZ_6 : Hid (Lz8 v5 (some ⟨v0.heap.size + 1, 0, none⟩) (exl8 A)) := Lib.hid (LZ_5.out.below hb (Nat.le_refl _))
  have PZ_6 : Hid (Pz v5 (some ⟨p, 0, none⟩) exF8.ps) := Lib.hid (PZ_5.out.below hb (Nat.le_refl _))
  have IZ_6 : Hid (Iz v5 (some ⟨q, 0, none⟩) [0, 2, 4, 6]) := Lib.hid (IZ_5.out.below hb (Nat.le_refl _))
  clear TB_5 DS_5 LZ_5 PZ_5 IZ_5
  have S_6 : Hid (Blk v5 v0.heap.size 26 #[.int .i64 2, .int .i64 7, .slice A 5 5]) := Lib.hid (S_5.out.below hb S_5.out.lt)
  have X_6 : Hid (Blk v5 (v0.heap.size + 1) 26 #[.int .i64 2, .int .i64 7, .slice A 5 5]) := Lib.hid (X_5.out.below hb X_5.out.lt)
  have F_6 : Hid (Blk v5 v1.heap.size 48 #[.slice (some ⟨p, 0, none⟩) 5 5, .slice (some ⟨q, 0, none⟩) 4 4, .bool true]) := Lib.hid (F_5.out.below hb F_5.out.lt)
  have HB_6 : Hid (Below w.heap.size w v5) := Lib.hid (HB_5.out.trans (hb.mono HB_5.out.size))
  clear hb S_5 X_5 F_5 HB_5
  go_wp2_with fail
  refine (exch8 A (some ⟨v0.heap.size + 1, 0, none⟩) _ LZ_6.out TB_6.out).mono ?_
  rintro e v6 ⟨rfl, hb⟩
  have TB_7 : Hid (Tb8 v6) := Lib.hid (TB_6.out.below hb (Nat.le_refl _))
  have DS_7 : Hid (Dz v6 A exds8) := Lib.hid (DS_6.out.below hb (Nat.le_refl _))
  have LZ_7 : Hid (Lz8 v6 (some ⟨v0.heap.size + 1, 0, none⟩) (exl8 A)) := Lib.hid (LZ_6.out.below hb (Nat.le_refl _))
  have PZ_7 : Hid (Pz v6 (some ⟨p, 0, none⟩) exF8.ps) := Lib.hid (PZ_6.out.below hb (Nat.le_refl _))
  have IZ_7 : Hid (Iz v6 (some ⟨q, 0, none⟩) [0, 2, 4, 6]) := Lib.hid (IZ_6.out.below hb (Nat.le_refl _))
  clear TB_6 DS_6 LZ_6 PZ_6 IZ_6
  have S_7 : Hid (Blk v6 v0.heap.size 26 #[.int .i64 2, .int .i64 7, .slice A 5 5]) := Lib.hid (S_6.out.below hb S_6.out.lt)
  have X_7 : Hid (Blk v6 (v0.heap.size + 1) 26 #[.int .i64 2, .int .i64 7, .slice A 5 5]) := Lib.hid (X_6.out.below hb X_6.out.lt)
  have F_7 : Hid (Blk v6 v1.heap.size 48 #[.slice (some ⟨p, 0, none⟩) 5 5, .slice (some ⟨q, 0, none⟩) 4 4, .bool true]) := Lib.hid (F_6.out.below hb F_6.out.lt)
  have HB_7 : Hid (Below w.heap.size w v6) := Lib.hid (HB_6.out.trans (hb.mono HB_6.out.size))
  clear hb S_6 X_6 F_6 HB_6
  go_wp2_with fail
  refine (exs28 A (some ⟨v0.heap.size + 1, 0, none⟩) _ LZ_7.out).mono ?_
  rintro e v7 ⟨rfl, hb⟩
  have TB_8 : Hid (Tb8 (v7.alloc (.cells #[.int .i64 2007, .int .i64 2, .int .i64 100, .int .i64 100, .int .i64 800, .int .i64 400, .int .i64 0, .int .i64 0, .int .i64 0, .int .i64 0, .string ⟨#[]⟩] 40))) := Lib.hid (TB_7.out.below (allocs_below [(#[.int .i64 2007, .int .i64 2, .int .i64 100, .int .i64 100, .int .i64 800, .int .i64 400, .int .i64 0, .int .i64 0, .int .i64 0, .int .i64 0, .string ⟨#[]⟩], 40)] _ hb hb.size) (Nat.le_refl _))
  have DS_8 : Hid (Dz (v7.alloc (.cells #[.int .i64 2007, .int .i64 2, .int .i64 100, .int .i64 100, .int .i64 800, .int .i64 400, .int .i64 0, .int .i64 0, .int .i64 0, .int .i64 0, .string ⟨#[]⟩] 40)) A exds8) := Lib.hid (DS_7.out.below (allocs_below [(#[.int .i64 2007, .int .i64 2, .int .i64 100, .int .i64 100, .int .i64 800, .int .i64 400, .int .i64 0, .int .i64 0, .int .i64 0, .int .i64 0, .string ⟨#[]⟩], 40)] _ hb hb.size) (Nat.le_refl _))
  have LZ_8 : Hid (Lz8 (v7.alloc (.cells #[.int .i64 2007, .int .i64 2, .int .i64 100, .int .i64 100, .int .i64 800, .int .i64 400, .int .i64 0, .int .i64 0, .int .i64 0, .int .i64 0, .string ⟨#[]⟩] 40)) (some ⟨v0.heap.size + 1, 0, none⟩) (exl8 A)) := Lib.hid (LZ_7.out.below (allocs_below [(#[.int .i64 2007, .int .i64 2, .int .i64 100, .int .i64 100, .int .i64 800, .int .i64 400, .int .i64 0, .int .i64 0, .int .i64 0, .int .i64 0, .string ⟨#[]⟩], 40)] _ hb hb.size) (Nat.le_refl _))
  have PZ_8 : Hid (Pz (v7.alloc (.cells #[.int .i64 2007, .int .i64 2, .int .i64 100, .int .i64 100, .int .i64 800, .int .i64 400, .int .i64 0, .int .i64 0, .int .i64 0, .int .i64 0, .string ⟨#[]⟩] 40)) (some ⟨p, 0, none⟩) exF8.ps) := Lib.hid (PZ_7.out.below (allocs_below [(#[.int .i64 2007, .int .i64 2, .int .i64 100, .int .i64 100, .int .i64 800, .int .i64 400, .int .i64 0, .int .i64 0, .int .i64 0, .int .i64 0, .string ⟨#[]⟩], 40)] _ hb hb.size) (Nat.le_refl _))
  have IZ_8 : Hid (Iz (v7.alloc (.cells #[.int .i64 2007, .int .i64 2, .int .i64 100, .int .i64 100, .int .i64 800, .int .i64 400, .int .i64 0, .int .i64 0, .int .i64 0, .int .i64 0, .string ⟨#[]⟩] 40)) (some ⟨q, 0, none⟩) [0, 2, 4, 6]) := Lib.hid (IZ_7.out.below (allocs_below [(#[.int .i64 2007, .int .i64 2, .int .i64 100, .int .i64 100, .int .i64 800, .int .i64 400, .int .i64 0, .int .i64 0, .int .i64 0, .int .i64 0, .string ⟨#[]⟩], 40)] _ hb hb.size) (Nat.le_refl _))
  clear TB_7 DS_7 LZ_7 PZ_7 IZ_7
  have S_8 : Hid (Blk (v7.alloc (.cells #[.int .i64 2007, .int .i64 2, .int .i64 100, .int .i64 100, .int .i64 800, .int .i64 400, .int .i64 0, .int .i64 0, .int .i64 0, .int .i64 0, .string ⟨#[]⟩] 40)) v0.heap.size 26 #[.int .i64 2, .int .i64 7, .slice A 5 5]) := Lib.hid (allocs_keep [(#[.int .i64 2007, .int .i64 2, .int .i64 100, .int .i64 100, .int .i64 800, .int .i64 400, .int .i64 0, .int .i64 0, .int .i64 0, .int .i64 0, .string ⟨#[]⟩], 40)] _ (S_7.out.below hb S_7.out.lt))
  have X_8 : Hid (Blk (v7.alloc (.cells #[.int .i64 2007, .int .i64 2, .int .i64 100, .int .i64 100, .int .i64 800, .int .i64 400, .int .i64 0, .int .i64 0, .int .i64 0, .int .i64 0, .string ⟨#[]⟩] 40)) (v0.heap.size + 1) 26 #[.int .i64 2, .int .i64 7, .slice A 5 5]) := Lib.hid (allocs_keep [(#[.int .i64 2007, .int .i64 2, .int .i64 100, .int .i64 100, .int .i64 800, .int .i64 400, .int .i64 0, .int .i64 0, .int .i64 0, .int .i64 0, .string ⟨#[]⟩], 40)] _ (X_7.out.below hb X_7.out.lt))
  have F_8 : Hid (Blk (v7.alloc (.cells #[.int .i64 2007, .int .i64 2, .int .i64 100, .int .i64 100, .int .i64 800, .int .i64 400, .int .i64 0, .int .i64 0, .int .i64 0, .int .i64 0, .string ⟨#[]⟩] 40)) v1.heap.size 48 #[.slice (some ⟨p, 0, none⟩) 5 5, .slice (some ⟨q, 0, none⟩) 4 4, .bool true]) := Lib.hid (allocs_keep [(#[.int .i64 2007, .int .i64 2, .int .i64 100, .int .i64 100, .int .i64 800, .int .i64 400, .int .i64 0, .int .i64 0, .int .i64 0, .int .i64 0, .string ⟨#[]⟩], 40)] _ (F_7.out.below hb F_7.out.lt))
  have HB_8 : Hid (Below w.heap.size w (v7.alloc (.cells #[.int .i64 2007, .int .i64 2, .int .i64 100, .int .i64 100, .int .i64 800, .int .i64 400, .int .i64 0, .int .i64 0, .int .i64 0, .int .i64 0, .string ⟨#[]⟩] 40))) := Lib.hid (allocs_below [(#[.int .i64 2007, .int .i64 2, .int .i64 100, .int .i64 100, .int .i64 800, .int .i64 400, .int .i64 0, .int .i64 0, .int .i64 0, .int .i64 0, .string ⟨#[]⟩], 40)] _ (HB_7.out.trans (hb.mono HB_7.out.size)) (HB_7.out.trans (hb.mono HB_7.out.size)).size)
  have U_8 : Hid (Blk (v7.alloc (.cells #[.int .i64 2007, .int .i64 2, .int .i64 100, .int .i64 100, .int .i64 800, .int .i64 400, .int .i64 0, .int .i64 0, .int .i64 0, .int .i64 0, .string ⟨#[]⟩] 40)) v7.heap.size 40 #[.int .i64 2007, .int .i64 2, .int .i64 100, .int .i64 100, .int .i64 800, .int .i64 400, .int .i64 0, .int .i64 0, .int .i64 0, .int .i64 0, .string ⟨#[]⟩]) := Lib.hid (allocs_blk [(#[.int .i64 2007, .int .i64 2, .int .i64 100, .int .i64 100, .int .i64 800, .int .i64 400, .int .i64 0, .int .i64 0, .int .i64 0, .int .i64 0, .string ⟨#[]⟩], 40)] v7 0 _ rfl)
  clear hb S_7 X_7 F_7 HB_7
  go_wp2_with fail
  refine (exs48 A (some ⟨v0.heap.size + 1, 0, none⟩) _ LZ_8.out TB_8.out).mono ?_
  rintro e v8 ⟨rfl, hb⟩
  have TB_9 : Hid (Tb8 (v8.alloc (.cells #[.int .i64 2007, .int .i64 4, .int .i64 100, .int .i64 100, .int .i64 800, .int .i64 400, .int .i64 0, .int .i64 0, .int .i64 0, .int .i64 0, .string ⟨#[78]⟩] 40))) := Lib.hid (TB_8.out.below (allocs_below [(#[.int .i64 2007, .int .i64 4, .int .i64 100, .int .i64 100, .int .i64 800, .int .i64 400, .int .i64 0, .int .i64 0, .int .i64 0, .int .i64 0, .string ⟨#[78]⟩], 40)] _ hb hb.size) (Nat.le_refl _))
  have DS_9 : Hid (Dz (v8.alloc (.cells #[.int .i64 2007, .int .i64 4, .int .i64 100, .int .i64 100, .int .i64 800, .int .i64 400, .int .i64 0, .int .i64 0, .int .i64 0, .int .i64 0, .string ⟨#[78]⟩] 40)) A exds8) := Lib.hid (DS_8.out.below (allocs_below [(#[.int .i64 2007, .int .i64 4, .int .i64 100, .int .i64 100, .int .i64 800, .int .i64 400, .int .i64 0, .int .i64 0, .int .i64 0, .int .i64 0, .string ⟨#[78]⟩], 40)] _ hb hb.size) (Nat.le_refl _))
  have LZ_9 : Hid (Lz8 (v8.alloc (.cells #[.int .i64 2007, .int .i64 4, .int .i64 100, .int .i64 100, .int .i64 800, .int .i64 400, .int .i64 0, .int .i64 0, .int .i64 0, .int .i64 0, .string ⟨#[78]⟩] 40)) (some ⟨v0.heap.size + 1, 0, none⟩) (exl8 A)) := Lib.hid (LZ_8.out.below (allocs_below [(#[.int .i64 2007, .int .i64 4, .int .i64 100, .int .i64 100, .int .i64 800, .int .i64 400, .int .i64 0, .int .i64 0, .int .i64 0, .int .i64 0, .string ⟨#[78]⟩], 40)] _ hb hb.size) (Nat.le_refl _))
  have PZ_9 : Hid (Pz (v8.alloc (.cells #[.int .i64 2007, .int .i64 4, .int .i64 100, .int .i64 100, .int .i64 800, .int .i64 400, .int .i64 0, .int .i64 0, .int .i64 0, .int .i64 0, .string ⟨#[78]⟩] 40)) (some ⟨p, 0, none⟩) exF8.ps) := Lib.hid (PZ_8.out.below (allocs_below [(#[.int .i64 2007, .int .i64 4, .int .i64 100, .int .i64 100, .int .i64 800, .int .i64 400, .int .i64 0, .int .i64 0, .int .i64 0, .int .i64 0, .string ⟨#[78]⟩], 40)] _ hb hb.size) (Nat.le_refl _))
  have IZ_9 : Hid (Iz (v8.alloc (.cells #[.int .i64 2007, .int .i64 4, .int .i64 100, .int .i64 100, .int .i64 800, .int .i64 400, .int .i64 0, .int .i64 0, .int .i64 0, .int .i64 0, .string ⟨#[78]⟩] 40)) (some ⟨q, 0, none⟩) [0, 2, 4, 6]) := Lib.hid (IZ_8.out.below (allocs_below [(#[.int .i64 2007, .int .i64 4, .int .i64 100, .int .i64 100, .int .i64 800, .int .i64 400, .int .i64 0, .int .i64 0, .int .i64 0, .int .i64 0, .string ⟨#[78]⟩], 40)] _ hb hb.size) (Nat.le_refl _))
  clear TB_8 DS_8 LZ_8 PZ_8 IZ_8
  have S_9 : Hid (Blk (v8.alloc (.cells #[.int .i64 2007, .int .i64 4, .int .i64 100, .int .i64 100, .int .i64 800, .int .i64 400, .int .i64 0, .int .i64 0, .int .i64 0, .int .i64 0, .string ⟨#[78]⟩] 40)) v0.heap.size 26 #[.int .i64 2, .int .i64 7, .slice A 5 5]) := Lib.hid (allocs_keep [(#[.int .i64 2007, .int .i64 4, .int .i64 100, .int .i64 100, .int .i64 800, .int .i64 400, .int .i64 0, .int .i64 0, .int .i64 0, .int .i64 0, .string ⟨#[78]⟩], 40)] _ (S_8.out.below hb S_8.out.lt))
  have X_9 : Hid (Blk (v8.alloc (.cells #[.int .i64 2007, .int .i64 4, .int .i64 100, .int .i64 100, .int .i64 800, .int .i64 400, .int .i64 0, .int .i64 0, .int .i64 0, .int .i64 0, .string ⟨#[78]⟩] 40)) (v0.heap.size + 1) 26 #[.int .i64 2, .int .i64 7, .slice A 5 5]) := Lib.hid (allocs_keep [(#[.int .i64 2007, .int .i64 4, .int .i64 100, .int .i64 100, .int .i64 800, .int .i64 400, .int .i64 0, .int .i64 0, .int .i64 0, .int .i64 0, .string ⟨#[78]⟩], 40)] _ (X_8.out.below hb X_8.out.lt))
  have F_9 : Hid (Blk (v8.alloc (.cells #[.int .i64 2007, .int .i64 4, .int .i64 100, .int .i64 100, .int .i64 800, .int .i64 400, .int .i64 0, .int .i64 0, .int .i64 0, .int .i64 0, .string ⟨#[78]⟩] 40)) v1.heap.size 48 #[.slice (some ⟨p, 0, none⟩) 5 5, .slice (some ⟨q, 0, none⟩) 4 4, .bool true]) := Lib.hid (allocs_keep [(#[.int .i64 2007, .int .i64 4, .int .i64 100, .int .i64 100, .int .i64 800, .int .i64 400, .int .i64 0, .int .i64 0, .int .i64 0, .int .i64 0, .string ⟨#[78]⟩], 40)] _ (F_8.out.below hb F_8.out.lt))
  have U_9 : Hid (Blk (v8.alloc (.cells #[.int .i64 2007, .int .i64 4, .int .i64 100, .int .i64 100, .int .i64 800, .int .i64 400, .int .i64 0, .int .i64 0, .int .i64 0, .int .i64 0, .string ⟨#[78]⟩] 40)) v7.heap.size 40 #[.int .i64 2007, .int .i64 2, .int .i64 100, .int .i64 100, .int .i64 800, .int .i64 400, .int .i64 0, .int .i64 0, .int .i64 0, .int .i64 0, .string ⟨#[]⟩]) := Lib.hid (allocs_keep [(#[.int .i64 2007, .int .i64 4, .int .i64 100, .int .i64 100, .int .i64 800, .int .i64 400, .int .i64 0, .int .i64 0, .int .i64 0, .int .i64 0, .string ⟨#[78]⟩], 40)] _ (U_8.out.below hb U_8.out.lt))
  have HB_9 : Hid (Below w.heap.size w (v8.alloc (.cells #[.int .i64 2007, .int .i64 4, .int .i64 100, .int .i64 100, .int .i64 800, .int .i64 400, .int .i64 0, .int .i64 0, .int .i64 0, .int .i64 0, .string ⟨#[78]⟩] 40))) := Lib.hid (allocs_below [(#[.int .i64 2007, .int .i64 4, .int .i64 100, .int .i64 100, .int .i64 800, .int .i64 400, .int .i64 0, .int .i64 0, .int .i64 0, .int .i64 0, .string ⟨#[78]⟩], 40)] _ (HB_8.out.trans (hb.mono HB_8.out.size)) (HB_8.out.trans (hb.mono HB_8.out.size)).size)
  have V_9 : Hid (Blk (v8.alloc (.cells #[.int .i64 2007, .int .i64 4, .int .i64 100, .int .i64 100, .int .i64 800, .int .i64 400, .int .i64 0, .int .i64 0, .int .i64 0, .int .i64 0, .string ⟨#[78]⟩] 40)) v8.heap.size 40 #[.int .i64 2007, .int .i64 4, .int .i64 100, .int .i64 100, .int .i64 800, .int .i64 400, .int .i64 0, .int .i64 0, .int .i64 0, .int .i64 0, .string ⟨#[78]⟩]) := Lib.hid (allocs_blk [(#[.int .i64 2007, .int .i64 4, .int .i64 100, .int .i64 100, .int .i64 800, .int .i64 400, .int .i64 0, .int .i64 0, .int .i64 0, .int .i64 0, .string ⟨#[78]⟩], 40)] v8 0 _ rfl)
  clear hb S_8 X_8 F_8 U_8 HB_8
  go_wp2_with fail
  refine (exs38 A (some ⟨v0.heap.size + 1, 0, none⟩) _ LZ_9.out).mono ?_
  rintro e v9 ⟨rfl, hb⟩
  have TB_10 : Hid (Tb8 (v9.alloc (.cells #[.int .i64 0, .int .i64 0, .int .i64 0, .int .i64 0, .int .i64 0, .int .i64 0, .int .i64 0, .int .i64 0, .int .i64 0, .int .i64 0, .string ⟨#[]⟩] 40))) := Lib.hid (TB_9.out.below (allocs_below [(#[.int .i64 0, .int .i64 0, .int .i64 0, .int .i64 0, .int .i64 0, .int .i64 0, .int .i64 0, .int .i64 0, .int .i64 0, .int .i64 0, .string ⟨#[]⟩], 40)] _ hb hb.size) (Nat.le_refl _))
  have DS_10 : Hid (Dz (v9.alloc (.cells #[.int .i64 0, .int .i64 0, .int .i64 0, .int .i64 0, .int .i64 0, .int .i64 0, .int .i64 0, .int .i64 0, .int .i64 0, .int .i64 0, .string ⟨#[]⟩] 40)) A exds8) := Lib.hid (DS_9.out.below (allocs_below [(#[.int .i64 0, .int .i64 0, .int .i64 0, .int .i64 0, .int .i64 0, .int .i64 0, .int .i64 0, .int .i64 0, .int .i64 0, .int .i64 0, .string ⟨#[]⟩], 40)] _ hb hb.size) (Nat.le_refl _))
  have LZ_10 : Hid (Lz8 (v9.alloc (.cells #[.int .i64 0, .int .i64 0, .int .i64 0, .int .i64 0, .int .i64 0, .int .i64 0, .int .i64 0, .int .i64 0, .int .i64 0, .int .i64 0, .string ⟨#[]⟩] 40)) (some ⟨v0.heap.size + 1, 0, none⟩) (exl8 A)) := Lib.hid (LZ_9.out.below (allocs_below [(#[.int .i64 0, .int .i64 0, .int .i64 0, .int .i64 0, .int .i64 0, .int .i64 0, .int .i64 0, .int .i64 0, .int .i64 0, .int .i64 0, .string ⟨#[]⟩], 40)] _ hb hb.size) (Nat.le_refl _))
  have PZ_10 : Hid (Pz (v9.alloc (.cells #[.int .i64 0, .int .i64 0, .int .i64 0, .int .i64 0, .int .i64 0, .int .i64 0, .int .i64 0, .int .i64 0, .int .i64 0, .int .i64 0, .string ⟨#[]⟩] 40)) (some ⟨p, 0, none⟩) exF8.ps) := Lib.hid (PZ_9.out.below (allocs_below [(#[.int .i64 0, .int .i64 0, .int .i64 0, .int .i64 0, .int .i64 0, .int .i64 0, .int .i64 0, .int .i64 0, .int .i64 0, .int .i64 0, .string ⟨#[]⟩], 40)] _ hb hb.size) (Nat.le_refl _))
  have IZ_10 : Hid (Iz (v9.alloc (.cells #[.int .i64 0, .int .i64 0, .int .i64 0, .int .i64 0, .int .i64 0, .int .i64 0, .int .i64 0, .int .i64 0, .int .i64 0, .int .i64 0, .string ⟨#[]⟩] 40)) (some ⟨q, 0, none⟩) [0, 2, 4, 6]) := Lib.hid (IZ_9.out.below (allocs_below [(#[.int .i64 0, .int .i64 0, .int .i64 0, .int .i64 0, .int .i64 0, .int .i64 0, .int .i64 0, .int .i64 0, .int .i64 0, .int .i64 0, .string ⟨#[]⟩], 40)] _ hb hb.size) (Nat.le_refl _))
  clear TB_9 DS_9 LZ_9 PZ_9 IZ_9
  have S_10 : Hid (Blk (v9.alloc (.cells #[.int .i64 0, .int .i64 0, .int .i64 0, .int .i64 0, .int .i64 0, .int .i64 0, .int .i64 0, .int .i64 0, .int .i64 0, .int .i64 0, .string ⟨#[]⟩] 40)) v0.heap.size 26 #[.int .i64 2, .int .i64 7, .slice A 5 5]) := Lib.hid (allocs_keep [(#[.int .i64 0, .int .i64 0, .int .i64 0, .int .i64 0, .int .i64 0, .int .i64 0, .int .i64 0, .int .i64 0, .int .i64 0, .int .i64 0, .string ⟨#[]⟩], 40)] _ (S_9.out.below hb S_9.out.lt))
  have X_10 : Hid (Blk (v9.alloc (.cells #[.int .i64 0, .int .i64 0, .int .i64 0, .int .i64 0, .int .i64 0, .int .i64 0, .int .i64 0, .int .i64 0, .int .i64 0, .int .i64 0, .string ⟨#[]⟩] 40)) (v0.heap.size + 1) 26 #[.int .i64 2, .int .i64 7, .slice A 5 5]) := Lib.hid (allocs_keep [(#[.int .i64 0, .int .i64 0, .int .i64 0, .int .i64 0, .int .i64 0, .int .i64 0, .int .i64 0, .int .i64 0, .int .i64 0, .int .i64 0, .string ⟨#[]⟩], 40)] _ (X_9.out.below hb X_9.out.lt))
  have F_10 : Hid (Blk (v9.alloc (.cells #[.int .i64 0, .int .i64 0, .int .i64 0, .int .i64 0, .int .i64 0, .int .i64 0, .int .i64 0, .int .i64 0, .int .i64 0, .int .i64 0, .string ⟨#[]⟩] 40)) v1.heap.size 48 #[.slice (some ⟨p, 0, none⟩) 5 5, .slice (some ⟨q, 0, none⟩) 4 4, .bool true]) := Lib.hid (allocs_keep [(#[.int .i64 0, .int .i64 0, .int .i64 0, .int .i64 0, .int .i64 0, .int .i64 0, .int .i64 0, .int .i64 0, .int .i64 0, .int .i64 0, .string ⟨#[]⟩], 40)] _ (F_9.out.below hb F_9.out.lt))
  have U_10 : Hid (Blk (v9.alloc (.cells #[.int .i64 0, .int .i64 0, .int .i64 0, .int .i64 0, .int .i64 0, .int .i64 0, .int .i64 0, .int .i64 0, .int .i64 0, .int .i64 0, .string ⟨#[]⟩] 40)) v7.heap.size 40 #[.int .i64 2007, .int .i64 2, .int .i64 100, .int .i64 100, .int .i64 800, .int .i64 400, .int .i64 0, .int .i64 0, .int .i64 0, .int .i64 0, .string ⟨#[]⟩]) := Lib.hid (allocs_keep [(#[.int .i64 0, .int .i64 0, .int .i64 0, .int .i64 0, .int .i64 0, .int .i64 0, .int .i64 0, .int .i64 0, .int .i64 0, .int .i64 0, .string ⟨#[]⟩], 40)] _ (U_9.out.below hb U_9.out.lt))
  have V_10 : Hid (Blk (v9.alloc (.cells #[.int .i64 0, .int .i64 0, .int .i64 0, .int .i64 0, .int .i64 0, .int .i64 0, .int .i64 0, .int .i64 0, .int .i64 0, .int .i64 0, .string ⟨#[]⟩] 40)) v8.heap.size 40 #[.int .i64 2007, .int .i64 4, .int .i64 100, .int .i64 100, .int .i64 800, .int .i64 400, .int .i64 0, .int .i64 0, .int .i64 0, .int .i64 0, .string ⟨#[78]⟩]) := Lib.hid (allocs_keep [(#[.int .i64 0, .int .i64 0, .int .i64 0, .int .i64 0, .int .i64 0, .int .i64 0, .int .i64 0, .int .i64 0, .int .i64 0, .int .i64 0, .string ⟨#[]⟩], 40)] _ (V_9.out.below hb V_9.out.lt))
  have HB_10 : Hid (Below w.heap.size w (v9.alloc (.cells #[.int .i64 0, .int .i64 0, .int .i64 0, .int .i64 0, .int .i64 0, .int .i64 0, .int .i64 0, .int .i64 0, .int .i64 0, .int .i64 0, .string ⟨#[]⟩] 40))) := Lib.hid (allocs_below [(#[.int .i64 0, .int .i64 0, .int .i64 0, .int .i64 0, .int .i64 0, .int .i64 0, .int .i64 0, .int .i64 0, .int .i64 0, .int .i64 0, .string ⟨#[]⟩], 40)] _ (HB_9.out.trans (hb.mono HB_9.out.size)) (HB_9.out.trans (hb.mono HB_9.out.size)).size)
  have Z_10 : Hid (Blk (v9.alloc (.cells #[.int .i64 0, .int .i64 0, .int .i64 0, .int .i64 0, .int .i64 0, .int .i64 0, .int .i64 0, .int .i64 0, .int .i64 0, .int .i64 0, .string ⟨#[]⟩] 40)) v9.heap.size 40 #[.int .i64 0, .int .i64 0, .int .i64 0, .int .i64 0, .int .i64 0, .int .i64 0, .int .i64 0, .int .i64 0, .int .i64 0, .int .i64 0, .string ⟨#[]⟩]) := Lib.hid (allocs_blk [(#[.int .i64 0, .int .i64 0, .int .i64 0, .int .i64 0, .int .i64 0, .int .i64 0, .int .i64 0, .int .i64 0, .int .i64 0, .int .i64 0, .string ⟨#[]⟩], 40)] v9 0 _ rfl)
  clear hb S_9 X_9 F_9 U_9 V_9 HB_9
  go_wp2_with fail
  refine (cost8_none none 0 1 _).mono ?_
  rintro e v10 ⟨rfl, hb⟩
  have TB_11 : Hid (Tb8 v10) := Lib.hid (TB_10.out.below hb (Nat.le_refl _))
  have DS_11 : Hid (Dz v10 A exds8) := Lib.hid (DS_10.out.below hb (Nat.le_refl _))
  have LZ_11 : Hid (Lz8 v10 (some ⟨v0.heap.size + 1, 0, none⟩) (exl8 A)) := Lib.hid (LZ_10.out.below hb (Nat.le_refl _))
  have PZ_11 : Hid (Pz v10 (some ⟨p, 0, none⟩) exF8.ps) := Lib.hid (PZ_10.out.below hb (Nat.le_refl _))
  have IZ_11 : Hid (Iz v10 (some ⟨q, 0, none⟩) [0, 2, 4, 6]) := Lib.hid (IZ_10.out.below hb (Nat.le_refl _))
  clear TB_10 DS_10 LZ_10 PZ_10 IZ_10
  have S_11 : Hid (Blk v10 v0.heap.size 26 #[.int .i64 2, .int .i64 7, .slice A 5 5]) := Lib.hid (S_10.out.below hb S_10.out.lt)
  have X_11 : Hid (Blk v10 (v0.heap.size + 1) 26 #[.int .i64 2, .int .i64 7, .slice A 5 5]) := Lib.hid (X_10.out.below hb X_10.out.lt)
  have F_11 : Hid (Blk v10 v1.heap.size 48 #[.slice (some ⟨p, 0, none⟩) 5 5, .slice (some ⟨q, 0, none⟩) 4 4, .bool true]) := Lib.hid (F_10.out.below hb F_10.out.lt)
  have U_11 : Hid (Blk v10 v7.heap.size 40 #[.int .i64 2007, .int .i64 2, .int .i64 100, .int .i64 100, .int .i64 800, .int .i64 400, .int .i64 0, .int .i64 0, .int .i64 0, .int .i64 0, .string ⟨#[]⟩]) := Lib.hid (U_10.out.below hb U_10.out.lt)
  have V_11 : Hid (Blk v10 v8.heap.size 40 #[.int .i64 2007, .int .i64 4, .int .i64 100, .int .i64 100, .int .i64 800, .int .i64 400, .int .i64 0, .int .i64 0, .int .i64 0, .int .i64 0, .string ⟨#[78]⟩]) := Lib.hid (V_10.out.below hb V_10.out.lt)
  have Z_11 : Hid (Blk v10 v9.heap.size 40 #[.int .i64 0, .int .i64 0, .int .i64 0, .int .i64 0, .int .i64 0, .int .i64 0, .int .i64 0, .int .i64 0, .int .i64 0, .int .i64 0, .string ⟨#[]⟩]) := Lib.hid (Z_10.out.below hb Z_10.out.lt)
  have HB_11 : Hid (Below w.heap.size w v10) := Lib.hid (HB_10.out.trans (hb.mono HB_10.out.size))
  clear hb S_10 X_10 F_10 U_10 V_10 Z_10 HB_10
  have yy0 := F_11.out.cell (i := 0) (v := .slice (some ⟨p, 0, none⟩) 5 5) rfl; have yy1 := F_11.out.cell (i := 1) (v := .slice (some ⟨q, 0, none⟩) 4 4) rfl; have yy2 := F_11.out.cell (i := 2) (v := .bool true) rfl
  go_upto_region 15 with fail
  clear yy0 yy1 yy2
  have hn0 := Lib.hid (show Blk (v10.alloc (.cells #[.int .i64 0, .int .i64 2, .int .i64 4, .int .i64 6] 3)) v10.heap.size 3 #[.int .i64 0, .int .i64 2, .int .i64 4, .int .i64 6] from allocs_blk [(#[.int .i64 0, .int .i64 2, .int .i64 4, .int .i64 6], 3)] v10 0 _ rfl)
  have HAL := Lib.hid (show Below v10.heap.size v10 (v10.alloc (.cells #[.int .i64 0, .int .i64 2, .int .i64 4, .int .i64 6] 3)) from allocs_below [(#[.int .i64 0, .int .i64 2, .int .i64 4, .int .i64 6], 3)] v10 (Below.refl _ _) (Nat.le_refl _))
  have yy0 := F_11.out.cell (i := 0) (v := .slice (some ⟨p, 0, none⟩) 5 5) rfl; have yy1 := F_11.out.cell (i := 1) (v := .slice (some ⟨q, 0, none⟩) 4 4) rfl; have yy2 := F_11.out.cell (i := 2) (v := .bool true) rfl
  go_wp2_with fail
  refine (exint8 q _ _ (IZ_11.out.below HAL.out (Nat.le_refl _)) hn0.out).mono ?_
  rintro e v11 ⟨rfl, hbq⟩
  have hb := HAL.out.trans (hbq.mono HAL.out.size); clear hbq HAL hn0
  clear yy0 yy1 yy2
  have TB_12 : Hid (Tb8 v11) := Lib.hid (TB_11.out.below hb (Nat.le_refl _))
  have DS_12 : Hid (Dz v11 A exds8) := Lib.hid (DS_11.out.below hb (Nat.le_refl _))
  have LZ_12 : Hid (Lz8 v11 (some ⟨v0.heap.size + 1, 0, none⟩) (exl8 A)) := Lib.hid (LZ_11.out.below hb (Nat.le_refl _))
  have PZ_12 : Hid (Pz v11 (some ⟨p, 0, none⟩) exF8.ps) := Lib.hid (PZ_11.out.below hb (Nat.le_refl _))
  have IZ_12 : Hid (Iz v11 (some ⟨q, 0, none⟩) [0, 2, 4, 6]) := Lib.hid (IZ_11.out.below hb (Nat.le_refl _))
  clear TB_11 DS_11 LZ_11 PZ_11 IZ_11
  have S_12 : Hid (Blk v11 v0.heap.size 26 #[.int .i64 2, .int .i64 7, .slice A 5 5]) := Lib.hid (S_11.out.below hb S_11.out.lt)
  have X_12 : Hid (Blk v11 (v0.heap.size + 1) 26 #[.int .i64 2, .int .i64 7, .slice A 5 5]) := Lib.hid (X_11.out.below hb X_11.out.lt)
  have F_12 : Hid (Blk v11 v1.heap.size 48 #[.slice (some ⟨p, 0, none⟩) 5 5, .slice (some ⟨q, 0, none⟩) 4 4, .bool true]) := Lib.hid (F_11.out.below hb F_11.out.lt)
  have U_12 : Hid (Blk v11 v7.heap.size 40 #[.int .i64 2007, .int .i64 2, .int .i64 100, .int .i64 100, .int .i64 800, .int .i64 400, .int .i64 0, .int .i64 0, .int .i64 0, .int .i64 0, .string ⟨#[]⟩]) := Lib.hid (U_11.out.below hb U_11.out.lt)
  have V_12 : Hid (Blk v11 v8.heap.size 40 #[.int .i64 2007, .int .i64 4, .int .i64 100, .int .i64 100, .int .i64 800, .int .i64 400, .int .i64 0, .int .i64 0, .int .i64 0, .int .i64 0, .string ⟨#[78]⟩]) := Lib.hid (V_11.out.below hb V_11.out.lt)
  have Z_12 : Hid (Blk v11 v9.heap.size 40 #[.int .i64 0, .int .i64 0, .int .i64 0, .int .i64 0, .int .i64 0, .int .i64 0, .int .i64 0, .int .i64 0, .int .i64 0, .int .i64 0, .string ⟨#[]⟩]) := Lib.hid (Z_11.out.below hb Z_11.out.lt)
  have HB_12 : Hid (Below w.heap.size w v11) := Lib.hid (HB_11.out.trans (hb.mono HB_11.out.size))
  clear hb S_11 X_11 F_11 U_11 V_11 Z_11 HB_11
  have hpx : v11.cell? ⟨p, 4, none⟩ = some (.int .i64 900) := PZ_12.out.at (i := 2) (j := 0) (by decide) rfl
  have hpy : v11.cell? ⟨p, 5, none⟩ = some (.int .i64 500) := PZ_12.out.at (i := 2) (j := 1) (by decide) rfl
  have yy0 := F_12.out.cell (i := 0) (v := .slice (some ⟨p, 0, none⟩) 5 5) rfl; have yy1 := F_12.out.cell (i := 1) (v := .slice (some ⟨q, 0, none⟩) 4 4) rfl; have yy2 := F_12.out.cell (i := 2) (v := .bool true) rfl
  go_wp2_with fail
  refine (exf8 2 true A (some ⟨v0.heap.size + 1, 0, none⟩) _ LZ_12.out TB_12.out (by decide) (by rw [ex8_c2]; rfl)).mono ?_
  rintro e v12 ⟨rfl, hb⟩
  clear hpx hpy
  clear yy0 yy1 yy2
  have TB_13 : Hid (Tb8 v12) := Lib.hid (TB_12.out.below hb (Nat.le_refl _))
  have DS_13 : Hid (Dz v12 A exds8) := Lib.hid (DS_12.out.below hb (Nat.le_refl _))
  have LZ_13 : Hid (Lz8 v12 (some ⟨v0.heap.size + 1, 0, none⟩) (exl8 A)) := Lib.hid (LZ_12.out.below hb (Nat.le_refl _))
  have PZ_13 : Hid (Pz v12 (some ⟨p, 0, none⟩) exF8.ps) := Lib.hid (PZ_12.out.below hb (Nat.le_refl _))
  have IZ_13 : Hid (Iz v12 (some ⟨q, 0, none⟩) [0, 2, 4, 6]) := Lib.hid (IZ_12.out.below hb (Nat.le_refl _))
  clear TB_12 DS_12 LZ_12 PZ_12 IZ_12
  have S_13 : Hid (Blk v12 v0.heap.size 26 #[.int .i64 2, .int .i64 7, .slice A 5 5]) := Lib.hid (S_12.out.below hb S_12.out.lt)
  have X_13 : Hid (Blk v12 (v0.heap.size + 1) 26 #[.int .i64 2, .int .i64 7, .slice A 5 5]) := Lib.hid (X_12.out.below hb X_12.out.lt)
  have F_13 : Hid (Blk v12 v1.heap.size 48 #[.slice (some ⟨p, 0, none⟩) 5 5, .slice (some ⟨q, 0, none⟩) 4 4, .bool true]) := Lib.hid (F_12.out.below hb F_12.out.lt)
  have U_13 : Hid (Blk v12 v7.heap.size 40 #[.int .i64 2007, .int .i64 2, .int .i64 100, .int .i64 100, .int .i64 800, .int .i64 400, .int .i64 0, .int .i64 0, .int .i64 0, .int .i64 0, .string ⟨#[]⟩]) := Lib.hid (U_12.out.below hb U_12.out.lt)
  have V_13 : Hid (Blk v12 v8.heap.size 40 #[.int .i64 2007, .int .i64 4, .int .i64 100, .int .i64 100, .int .i64 800, .int .i64 400, .int .i64 0, .int .i64 0, .int .i64 0, .int .i64 0, .string ⟨#[78]⟩]) := Lib.hid (V_12.out.below hb V_12.out.lt)
  have Z_13 : Hid (Blk v12 v9.heap.size 40 #[.int .i64 0, .int .i64 0, .int .i64 0, .int .i64 0, .int .i64 0, .int .i64 0, .int .i64 0, .int .i64 0, .int .i64 0, .int .i64 0, .string ⟨#[]⟩]) := Lib.hid (Z_12.out.below hb Z_12.out.lt)
  have HB_13 : Hid (Below w.heap.size w v12) := Lib.hid (HB_12.out.trans (hb.mono HB_12.out.size))
  clear hb S_12 X_12 F_12 U_12 V_12 Z_12 HB_12
  go_wp2_with fail
  refine (exf8 1 false A (some ⟨v0.heap.size + 1, 0, none⟩) _ LZ_13.out TB_13.out (by decide) (by rw [ex8_c1]; rfl)).mono ?_
  rintro e v13 ⟨rfl, hb⟩
  have TB_14 : Hid (Tb8 v13) := Lib.hid (TB_13.out.below hb (Nat.le_refl _))
  have DS_14 : Hid (Dz v13 A exds8) := Lib.hid (DS_13.out.below hb (Nat.le_refl _))
  have LZ_14 : Hid (Lz8 v13 (some ⟨v0.heap.size + 1, 0, none⟩) (exl8 A)) := Lib.hid (LZ_13.out.below hb (Nat.le_refl _))
  have PZ_14 : Hid (Pz v13 (some ⟨p, 0, none⟩) exF8.ps) := Lib.hid (PZ_13.out.below hb (Nat.le_refl _))
  have IZ_14 : Hid (Iz v13 (some ⟨q, 0, none⟩) [0, 2, 4, 6]) := Lib.hid (IZ_13.out.below hb (Nat.le_refl _))
  clear TB_13 DS_13 LZ_13 PZ_13 IZ_13
  have S_14 : Hid (Blk v13 v0.heap.size 26 #[.int .i64 2, .int .i64 7, .slice A 5 5]) := Lib.hid (S_13.out.below hb S_13.out.lt)
  have X_14 : Hid (Blk v13 (v0.heap.size + 1) 26 #[.int .i64 2, .int .i64 7, .slice A 5 5]) := Lib.hid (X_13.out.below hb X_13.out.lt)
  have F_14 : Hid (Blk v13 v1.heap.size 48 #[.slice (some ⟨p, 0, none⟩) 5 5, .slice (some ⟨q, 0, none⟩) 4 4, .bool true]) := Lib.hid (F_13.out.below hb F_13.out.lt)
  have U_14 : Hid (Blk v13 v7.heap.size 40 #[.int .i64 2007, .int .i64 2, .int .i64 100, .int .i64 100, .int .i64 800, .int .i64 400, .int .i64 0, .int .i64 0, .int .i64 0, .int .i64 0, .string ⟨#[]⟩]) := Lib.hid (U_13.out.below hb U_13.out.lt)
  have V_14 : Hid (Blk v13 v8.heap.size 40 #[.int .i64 2007, .int .i64 4, .int .i64 100, .int .i64 100, .int .i64 800, .int .i64 400, .int .i64 0, .int .i64 0, .int .i64 0, .int .i64 0, .string ⟨#[78]⟩]) := Lib.hid (V_13.out.below hb V_13.out.lt)
  have Z_14 : Hid (Blk v13 v9.heap.size 40 #[.int .i64 0, .int .i64 0, .int .i64 0, .int .i64 0, .int .i64 0, .int .i64 0, .int .i64 0, .int .i64 0, .int .i64 0, .int .i64 0, .string ⟨#[]⟩]) := Lib.hid (Z_13.out.below hb Z_13.out.lt)
  have HB_14 : Hid (Below w.heap.size w v13) := Lib.hid (HB_13.out.trans (hb.mono HB_13.out.size))
  clear hb S_13 X_13 F_13 U_13 V_13 Z_13 HB_13
  have hn0 := Lib.hid (show Blk ((v13.alloc (.cells #[.int .i64 0, .int .i64 2] 3)).alloc (.cells #[.int .i64 1, .int .i64 2, .int .i64 4] 3)) v13.heap.size 3 #[.int .i64 0, .int .i64 2] from allocs_blk [(#[.int .i64 0, .int .i64 2], 3), (#[.int .i64 1, .int .i64 2, .int .i64 4], 3)] v13 0 _ rfl)
  have hn1 := Lib.hid (show Blk ((v13.alloc (.cells #[.int .i64 0, .int .i64 2] 3)).alloc (.cells #[.int .i64 1, .int .i64 2, .int .i64 4] 3)) (v13.heap.size + 1) 3 #[.int .i64 1, .int .i64 2, .int .i64 4] from allocs_blk [(#[.int .i64 0, .int .i64 2], 3), (#[.int .i64 1, .int .i64 2, .int .i64 4], 3)] v13 1 _ rfl)
  have HAL := Lib.hid (show Below v13.heap.size v13 ((v13.alloc (.cells #[.int .i64 0, .int .i64 2] 3)).alloc (.cells #[.int .i64 1, .int .i64 2, .int .i64 4] 3)) from allocs_below [(#[.int .i64 0, .int .i64 2], 3), (#[.int .i64 1, .int .i64 2, .int .i64 4], 3)] v13 (Below.refl _ _) (Nat.le_refl _))
  have yy0 := U_14.out.cell (i := 0) (v := .int .i64 2007) rfl; have yy1 := U_14.out.cell (i := 1) (v := .int .i64 2) rfl; have yy2 := U_14.out.cell (i := 2) (v := .int .i64 100) rfl; have yy3 := U_14.out.cell (i := 3) (v := .int .i64 100) rfl; have yy4 := U_14.out.cell (i := 4) (v := .int .i64 800) rfl; have yy5 := U_14.out.cell (i := 5) (v := .int .i64 400) rfl; have yy6 := U_14.out.cell (i := 6) (v := .int .i64 0) rfl; have yy7 := U_14.out.cell (i := 7) (v := .int .i64 0) rfl; have yy8 := U_14.out.cell (i := 8) (v := .int .i64 0) rfl; have yy9 := U_14.out.cell (i := 9) (v := .int .i64 0) rfl; have yy10 := U_14.out.cell (i := 10) (v := .string ⟨#[]⟩) rfl
  have yy11 := V_14.out.cell (i := 0) (v := .int .i64 2007) rfl; have yy12 := V_14.out.cell (i := 1) (v := .int .i64 4) rfl; have yy13 := V_14.out.cell (i := 2) (v := .int .i64 100) rfl; have yy14 := V_14.out.cell (i := 3) (v := .int .i64 100) rfl; have yy15 := V_14.out.cell (i := 4) (v := .int .i64 800) rfl; have yy16 := V_14.out.cell (i := 5) (v := .int .i64 400) rfl; have yy17 := V_14.out.cell (i := 6) (v := .int .i64 0) rfl; have yy18 := V_14.out.cell (i := 7) (v := .int .i64 0) rfl; have yy19 := V_14.out.cell (i := 8) (v := .int .i64 0) rfl; have yy20 := V_14.out.cell (i := 9) (v := .int .i64 0) rfl; have yy21 := V_14.out.cell (i := 10) (v := .string ⟨#[78]⟩) rfl
  go_wp2_with fail
  refine (exfar8 _ _ _ hn0.out hn1.out).mono ?_
  rintro e v14 ⟨rfl, hbq⟩
  have hb := HAL.out.trans (hbq.mono HAL.out.size); clear hbq HAL hn0 hn1
  clear yy0 yy1 yy2 yy3 yy4 yy5 yy6 yy7 yy8 yy9 yy10 yy11 yy12 yy13 yy14 yy15 yy16 yy17 yy18 yy19 yy20 yy21
  have TB_15 : Hid (Tb8 v14) := Lib.hid (TB_14.out.below hb (Nat.le_refl _))
  have DS_15 : Hid (Dz v14 A exds8) := Lib.hid (DS_14.out.below hb (Nat.le_refl _))
  have LZ_15 : Hid (Lz8 v14 (some ⟨v0.heap.size + 1, 0, none⟩) (exl8 A)) := Lib.hid (LZ_14.out.below hb (Nat.le_refl _))
  have PZ_15 : Hid (Pz v14 (some ⟨p, 0, none⟩) exF8.ps) := Lib.hid (PZ_14.out.below hb (Nat.le_refl _))
  have IZ_15 : Hid (Iz v14 (some ⟨q, 0, none⟩) [0, 2, 4, 6]) := Lib.hid (IZ_14.out.below hb (Nat.le_refl _))
  clear TB_14 DS_14 LZ_14 PZ_14 IZ_14
  have S_15 : Hid (Blk v14 v0.heap.size 26 #[.int .i64 2, .int .i64 7, .slice A 5 5]) := Lib.hid (S_14.out.below hb S_14.out.lt)
  have X_15 : Hid (Blk v14 (v0.heap.size + 1) 26 #[.int .i64 2, .int .i64 7, .slice A 5 5]) := Lib.hid (X_14.out.below hb X_14.out.lt)
  have F_15 : Hid (Blk v14 v1.heap.size 48 #[.slice (some ⟨p, 0, none⟩) 5 5, .slice (some ⟨q, 0, none⟩) 4 4, .bool true]) := Lib.hid (F_14.out.below hb F_14.out.lt)
  have U_15 : Hid (Blk v14 v7.heap.size 40 #[.int .i64 2007, .int .i64 2, .int .i64 100, .int .i64 100, .int .i64 800, .int .i64 400, .int .i64 0, .int .i64 0, .int .i64 0, .int .i64 0, .string ⟨#[]⟩]) := Lib.hid (U_14.out.below hb U_14.out.lt)
  have V_15 : Hid (Blk v14 v8.heap.size 40 #[.int .i64 2007, .int .i64 4, .int .i64 100, .int .i64 100, .int .i64 800, .int .i64 400, .int .i64 0, .int .i64 0, .int .i64 0, .int .i64 0, .string ⟨#[78]⟩]) := Lib.hid (V_14.out.below hb V_14.out.lt)
  have Z_15 : Hid (Blk v14 v9.heap.size 40 #[.int .i64 0, .int .i64 0, .int .i64 0, .int .i64 0, .int .i64 0, .int .i64 0, .int .i64 0, .int .i64 0, .int .i64 0, .int .i64 0, .string ⟨#[]⟩]) := Lib.hid (Z_14.out.below hb Z_14.out.lt)
  have HB_15 : Hid (Below w.heap.size w v14) := Lib.hid (HB_14.out.trans (hb.mono HB_14.out.size))
  clear hb S_14 X_14 F_14 U_14 V_14 Z_14 HB_14
  have hn0 := Lib.hid (show Blk (v14.alloc (.cells #[.int .i64 8] 3)) v14.heap.size 3 #[.int .i64 8] from allocs_blk [(#[.int .i64 8], 3)] v14 0 _ rfl)
  have HAL := Lib.hid (show Below v14.heap.size v14 (v14.alloc (.cells #[.int .i64 8] 3)) from allocs_below [(#[.int .i64 8], 3)] v14 (Below.refl _ _) (Nat.le_refl _))
  go_wp2_with fail
  refine (exfarn8 _ _ hn0.out).mono ?_
  rintro e v15 ⟨rfl, hbq⟩
  have hb := HAL.out.trans (hbq.mono HAL.out.size); clear hbq HAL hn0
  have TB_16 : Hid (Tb8 v15) := Lib.hid (TB_15.out.below hb (Nat.le_refl _))
  have DS_16 : Hid (Dz v15 A exds8) := Lib.hid (DS_15.out.below hb (Nat.le_refl _))
  have LZ_16 : Hid (Lz8 v15 (some ⟨v0.heap.size + 1, 0, none⟩) (exl8 A)) := Lib.hid (LZ_15.out.below hb (Nat.le_refl _))
  have PZ_16 : Hid (Pz v15 (some ⟨p, 0, none⟩) exF8.ps) := Lib.hid (PZ_15.out.below hb (Nat.le_refl _))
  have IZ_16 : Hid (Iz v15 (some ⟨q, 0, none⟩) [0, 2, 4, 6]) := Lib.hid (IZ_15.out.below hb (Nat.le_refl _))
  clear TB_15 DS_15 LZ_15 PZ_15 IZ_15
  have S_16 : Hid (Blk v15 v0.heap.size 26 #[.int .i64 2, .int .i64 7, .slice A 5 5]) := Lib.hid (S_15.out.below hb S_15.out.lt)
  have X_16 : Hid (Blk v15 (v0.heap.size + 1) 26 #[.int .i64 2, .int .i64 7, .slice A 5 5]) := Lib.hid (X_15.out.below hb X_15.out.lt)
  have F_16 : Hid (Blk v15 v1.heap.size 48 #[.slice (some ⟨p, 0, none⟩) 5 5, .slice (some ⟨q, 0, none⟩) 4 4, .bool true]) := Lib.hid (F_15.out.below hb F_15.out.lt)
  have U_16 : Hid (Blk v15 v7.heap.size 40 #[.int .i64 2007, .int .i64 2, .int .i64 100, .int .i64 100, .int .i64 800, .int .i64 400, .int .i64 0, .int .i64 0, .int .i64 0, .int .i64 0, .string ⟨#[]⟩]) := Lib.hid (U_15.out.below hb U_15.out.lt)
  have V_16 : Hid (Blk v15 v8.heap.size 40 #[.int .i64 2007, .int .i64 4, .int .i64 100, .int .i64 100, .int .i64 800, .int .i64 400, .int .i64 0, .int .i64 0, .int .i64 0, .int .i64 0, .string ⟨#[78]⟩]) := Lib.hid (V_15.out.below hb V_15.out.lt)
  have Z_16 : Hid (Blk v15 v9.heap.size 40 #[.int .i64 0, .int .i64 0, .int .i64 0, .int .i64 0, .int .i64 0, .int .i64 0, .int .i64 0, .int .i64 0, .int .i64 0, .int .i64 0, .string ⟨#[]⟩]) := Lib.hid (Z_15.out.below hb Z_15.out.lt)
  have HB_16 : Hid (Below w.heap.size w v15) := Lib.hid (HB_15.out.trans (hb.mono HB_15.out.size))
  clear hb S_15 X_15 F_15 U_15 V_15 Z_15 HB_15
  go_wp2_with fail
  refine (exlet8 _ TB_16.out.2.2).mono ?_
  rintro e v16 ⟨⟨g, rfl⟩, hb⟩
  have TB_17 : Hid (Tb8 v16) := Lib.hid (TB_16.out.below hb (Nat.le_refl _))
  have DS_17 : Hid (Dz v16 A exds8) := Lib.hid (DS_16.out.below hb (Nat.le_refl _))
  have LZ_17 : Hid (Lz8 v16 (some ⟨v0.heap.size + 1, 0, none⟩) (exl8 A)) := Lib.hid (LZ_16.out.below hb (Nat.le_refl _))
  have PZ_17 : Hid (Pz v16 (some ⟨p, 0, none⟩) exF8.ps) := Lib.hid (PZ_16.out.below hb (Nat.le_refl _))
  have IZ_17 : Hid (Iz v16 (some ⟨q, 0, none⟩) [0, 2, 4, 6]) := Lib.hid (IZ_16.out.below hb (Nat.le_refl _))
  clear TB_16 DS_16 LZ_16 PZ_16 IZ_16
  have S_17 : Hid (Blk v16 v0.heap.size 26 #[.int .i64 2, .int .i64 7, .slice A 5 5]) := Lib.hid (S_16.out.below hb S_16.out.lt)
  have X_17 : Hid (Blk v16 (v0.heap.size + 1) 26 #[.int .i64 2, .int .i64 7, .slice A 5 5]) := Lib.hid (X_16.out.below hb X_16.out.lt)
  have F_17 : Hid (Blk v16 v1.heap.size 48 #[.slice (some ⟨p, 0, none⟩) 5 5, .slice (some ⟨q, 0, none⟩) 4 4, .bool true]) := Lib.hid (F_16.out.below hb F_16.out.lt)
  have U_17 : Hid (Blk v16 v7.heap.size 40 #[.int .i64 2007, .int .i64 2, .int .i64 100, .int .i64 100, .int .i64 800, .int .i64 400, .int .i64 0, .int .i64 0, .int .i64 0, .int .i64 0, .string ⟨#[]⟩]) := Lib.hid (U_16.out.below hb U_16.out.lt)
  have V_17 : Hid (Blk v16 v8.heap.size 40 #[.int .i64 2007, .int .i64 4, .int .i64 100, .int .i64 100, .int .i64 800, .int .i64 400, .int .i64 0, .int .i64 0, .int .i64 0, .int .i64 0, .string ⟨#[78]⟩]) := Lib.hid (V_16.out.below hb V_16.out.lt)
  have Z_17 : Hid (Blk v16 v9.heap.size 40 #[.int .i64 0, .int .i64 0, .int .i64 0, .int .i64 0, .int .i64 0, .int .i64 0, .int .i64 0, .int .i64 0, .int .i64 0, .int .i64 0, .string ⟨#[]⟩]) := Lib.hid (Z_16.out.below hb Z_16.out.lt)
  have HB_17 : Hid (Below w.heap.size w v16) := Lib.hid (HB_16.out.trans (hb.mono HB_16.out.size))
  clear hb S_16 X_16 F_16 U_16 V_16 Z_16 HB_16
  go_wp2_with fail
  refine (exdir8 ⟨0, 0⟩ ⟨3, 2⟩ 1 _ TB_17.out.1 (by kernel_rfl)).mono ?_
  rintro e v17 ⟨rfl, hb⟩
  have TB_18 : Hid (Tb8 v17) := Lib.hid (TB_17.out.below hb (Nat.le_refl _))
  have DS_18 : Hid (Dz v17 A exds8) := Lib.hid (DS_17.out.below hb (Nat.le_refl _))
  have LZ_18 : Hid (Lz8 v17 (some ⟨v0.heap.size + 1, 0, none⟩) (exl8 A)) := Lib.hid (LZ_17.out.below hb (Nat.le_refl _))
  have PZ_18 : Hid (Pz v17 (some ⟨p, 0, none⟩) exF8.ps) := Lib.hid (PZ_17.out.below hb (Nat.le_refl _))
  have IZ_18 : Hid (Iz v17 (some ⟨q, 0, none⟩) [0, 2, 4, 6]) := Lib.hid (IZ_17.out.below hb (Nat.le_refl _))
  clear TB_17 DS_17 LZ_17 PZ_17 IZ_17
  have S_18 : Hid (Blk v17 v0.heap.size 26 #[.int .i64 2, .int .i64 7, .slice A 5 5]) := Lib.hid (S_17.out.below hb S_17.out.lt)
  have X_18 : Hid (Blk v17 (v0.heap.size + 1) 26 #[.int .i64 2, .int .i64 7, .slice A 5 5]) := Lib.hid (X_17.out.below hb X_17.out.lt)
  have F_18 : Hid (Blk v17 v1.heap.size 48 #[.slice (some ⟨p, 0, none⟩) 5 5, .slice (some ⟨q, 0, none⟩) 4 4, .bool true]) := Lib.hid (F_17.out.below hb F_17.out.lt)
  have U_18 : Hid (Blk v17 v7.heap.size 40 #[.int .i64 2007, .int .i64 2, .int .i64 100, .int .i64 100, .int .i64 800, .int .i64 400, .int .i64 0, .int .i64 0, .int .i64 0, .int .i64 0, .string ⟨#[]⟩]) := Lib.hid (U_17.out.below hb U_17.out.lt)
  have V_18 : Hid (Blk v17 v8.heap.size 40 #[.int .i64 2007, .int .i64 4, .int .i64 100, .int .i64 100, .int .i64 800, .int .i64 400, .int .i64 0, .int .i64 0, .int .i64 0, .int .i64 0, .string ⟨#[78]⟩]) := Lib.hid (V_17.out.below hb V_17.out.lt)
  have Z_18 : Hid (Blk v17 v9.heap.size 40 #[.int .i64 0, .int .i64 0, .int .i64 0, .int .i64 0, .int .i64 0, .int .i64 0, .int .i64 0, .int .i64 0, .int .i64 0, .int .i64 0, .string ⟨#[]⟩]) := Lib.hid (Z_17.out.below hb Z_17.out.lt)
  have HB_18 : Hid (Below w.heap.size w v17) := Lib.hid (HB_17.out.trans (hb.mono HB_17.out.size))
  clear hb S_17 X_17 F_17 U_17 V_17 Z_17 HB_17
  go_wp2_with fail
  refine (exdir8 ⟨5, 0⟩ ⟨0, 0⟩ 4 _ TB_18.out.1 (by kernel_rfl)).mono ?_
  rintro e v18 ⟨rfl, hb⟩
  have TB_19 : Hid (Tb8 v18) := Lib.hid (TB_18.out.below hb (Nat.le_refl _))
  have DS_19 : Hid (Dz v18 A exds8) := Lib.hid (DS_18.out.below hb (Nat.le_refl _))
  have LZ_19 : Hid (Lz8 v18 (some ⟨v0.heap.size + 1, 0, none⟩) (exl8 A)) := Lib.hid (LZ_18.out.below hb (Nat.le_refl _))
  have PZ_19 : Hid (Pz v18 (some ⟨p, 0, none⟩) exF8.ps) := Lib.hid (PZ_18.out.below hb (Nat.le_refl _))
  have IZ_19 : Hid (Iz v18 (some ⟨q, 0, none⟩) [0, 2, 4, 6]) := Lib.hid (IZ_18.out.below hb (Nat.le_refl _))
  clear TB_18 DS_18 LZ_18 PZ_18 IZ_18
  have S_19 : Hid (Blk v18 v0.heap.size 26 #[.int .i64 2, .int .i64 7, .slice A 5 5]) := Lib.hid (S_18.out.below hb S_18.out.lt)
  have X_19 : Hid (Blk v18 (v0.heap.size + 1) 26 #[.int .i64 2, .int .i64 7, .slice A 5 5]) := Lib.hid (X_18.out.below hb X_18.out.lt)
  have F_19 : Hid (Blk v18 v1.heap.size 48 #[.slice (some ⟨p, 0, none⟩) 5 5, .slice (some ⟨q, 0, none⟩) 4 4, .bool true]) := Lib.hid (F_18.out.below hb F_18.out.lt)
  have U_19 : Hid (Blk v18 v7.heap.size 40 #[.int .i64 2007, .int .i64 2, .int .i64 100, .int .i64 100, .int .i64 800, .int .i64 400, .int .i64 0, .int .i64 0, .int .i64 0, .int .i64 0, .string ⟨#[]⟩]) := Lib.hid (U_18.out.below hb U_18.out.lt)
  have V_19 : Hid (Blk v18 v8.heap.size 40 #[.int .i64 2007, .int .i64 4, .int .i64 100, .int .i64 100, .int .i64 800, .int .i64 400, .int .i64 0, .int .i64 0, .int .i64 0, .int .i64 0, .string ⟨#[78]⟩]) := Lib.hid (V_18.out.below hb V_18.out.lt)
  have Z_19 : Hid (Blk v18 v9.heap.size 40 #[.int .i64 0, .int .i64 0, .int .i64 0, .int .i64 0, .int .i64 0, .int .i64 0, .int .i64 0, .int .i64 0, .int .i64 0, .int .i64 0, .string ⟨#[]⟩]) := Lib.hid (Z_18.out.below hb Z_18.out.lt)
  have HB_19 : Hid (Below w.heap.size w v18) := Lib.hid (HB_18.out.trans (hb.mono HB_18.out.size))
  clear hb S_18 X_18 F_18 U_18 V_18 Z_18 HB_18
  go_wp2_with fail
  go_ret
  exact ⟨rfl, HB_19.out⟩
end Go.Proofs.YtmjcjaecaigahaaDoor
