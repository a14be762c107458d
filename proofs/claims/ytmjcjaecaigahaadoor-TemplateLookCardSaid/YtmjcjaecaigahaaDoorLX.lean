/- The contract of Shape. Conditions: readable strokes that read, the tables. | The contract of Letters. Conditions: the table of letters. | The example of the chapter: its feature and what it costs. No conditions. -/
import Derived.KernelRfl
import Derived.Test.YtmjcjaecaigahaaDoorLW
import Derived.Test.YtmjcjaecaigahaaDoorLT
namespace Go.Proofs.YtmjcjaecaigahaaDoor
open Go.RowKit Go.Lib

structure S8 where
  code : Int
  kind : Int
  r : R7
  f : P7
  t : P7
  wd : ByteArray
abbrev s8v (s : S8) : Value := .agg #[.int .i64 s.code, .int .i64 s.kind, .int .i64 s.r.x, .int .i64 s.r.y, .int .i64 s.r.w, .int .i64 s.r.h, .int .i64 s.f.x, .int .i64 s.f.y, .int .i64 s.t.x, .int .i64 s.t.y, .string s.wd]
def s8z : S8 := ⟨0, 0, ⟨0, 0, 0, 0⟩, ⟨0, 0⟩, ⟨0, 0⟩, ⟨#[]⟩⟩
def ds0 (l : List K8) : List Dt := (l.map (·.ds)).getD 0 []
def cd0 (l : List K8) : Int := (l.map (·.code)).getD 0 0
/-- The shape of readable strokes. -/
noncomputable def sh8 (l : List K8) (k : Int) : S8 :=
  ⟨cd0 l, k, ar8 l, if k = 1 ∨ k = 3 then pt8 (ds0 l) 0 else ⟨0, 0⟩, if k = 1 ∨ k = 3 then pt8 (ds0 l) ((ds0 l).length - 1) else ⟨0, 0⟩, if k = 4 then (lo8 (fs8 l) 8).1 else ⟨#[]⟩⟩
theorem pends8 (P N : Int) (ds : List Dt) (A : Option Addr) (c : Nat) (w : World) (hA : Dz w A ds) (hv : Vd P N ds) :
    Yl 36 #[.agg #[.int .i64 P, .int .i64 N, .slice A ds.length c]] w (.tuple #[p7v (pt8 ds 0), p7v (pt8 ds (ds.length - 1)), .int .i64 0]) := by
  refine (pends_yes P N ds A c w hA (by have := hv.2.2.1; omega) hv).mono ?_
  rintro e v0 ⟨d, f, hd, hf, rfl, hb⟩
  have h1 : pt8 ds 0 = ⟨d.x, d.y⟩ := by unfold pt8; rw [List.getD_eq_getElem?_getD, hd]; rfl
  have h2 : pt8 ds (ds.length - 1) = ⟨f.x, f.y⟩ := by unfold pt8; rw [List.getD_eq_getElem?_getD, hf]; rfl
  rw [h1, h2]
  exact ⟨rfl, hb⟩
theorem set11_8 {W : World} {z : Nat} {T : TypeId} {a0 a1 a2 a3 a4 a5 a6 a7 a8 a9 a10 : Value} (h : Blk W z T #[a0, a1, a2, a3, a4, a5, a6, a7, a8, a9, a10]) (x0 x1 x2 x3 x4 x5 x6 x7 x8 x9 x10 : Value) : Blk (World.setCell (World.setCell (World.setCell (World.setCell (World.setCell (World.setCell (World.setCell (World.setCell (World.setCell (World.setCell (World.setCell W ⟨z, 0, none⟩ x0) ⟨z, 1, none⟩ x1) ⟨z, 2, none⟩ x2) ⟨z, 3, none⟩ x3) ⟨z, 4, none⟩ x4) ⟨z, 5, none⟩ x5) ⟨z, 6, none⟩ x6) ⟨z, 7, none⟩ x7) ⟨z, 8, none⟩ x8) ⟨z, 9, none⟩ x9) ⟨z, 10, none⟩ x10) z T #[x0, x1, x2, x3, x4, x5, x6, x7, x8, x9, x10] := by
  have h1 : Blk (World.setCell W ⟨z, 0, none⟩ x0) z T #[x0, a1, a2, a3, a4, a5, a6, a7, a8, a9, a10] := h.set 0 x0
  have h2 : Blk (World.setCell (World.setCell W ⟨z, 0, none⟩ x0) ⟨z, 1, none⟩ x1) z T #[x0, x1, a2, a3, a4, a5, a6, a7, a8, a9, a10] := h1.set 1 x1
  have h3 : Blk (World.setCell (World.setCell (World.setCell W ⟨z, 0, none⟩ x0) ⟨z, 1, none⟩ x1) ⟨z, 2, none⟩ x2) z T #[x0, x1, x2, a3, a4, a5, a6, a7, a8, a9, a10] := h2.set 2 x2
  have h4 : Blk (World.setCell (World.setCell (World.setCell (World.setCell W ⟨z, 0, none⟩ x0) ⟨z, 1, none⟩ x1) ⟨z, 2, none⟩ x2) ⟨z, 3, none⟩ x3) z T #[x0, x1, x2, x3, a4, a5, a6, a7, a8, a9, a10] := h3.set 3 x3
  have h5 : Blk (World.setCell (World.setCell (World.setCell (World.setCell (World.setCell W ⟨z, 0, none⟩ x0) ⟨z, 1, none⟩ x1) ⟨z, 2, none⟩ x2) ⟨z, 3, none⟩ x3) ⟨z, 4, none⟩ x4) z T #[x0, x1, x2, x3, x4, a5, a6, a7, a8, a9, a10] := h4.set 4 x4
  have h6 : Blk (World.setCell (World.setCell (World.setCell (World.setCell (World.setCell (World.setCell W ⟨z, 0, none⟩ x0) ⟨z, 1, none⟩ x1) ⟨z, 2, none⟩ x2) ⟨z, 3, none⟩ x3) ⟨z, 4, none⟩ x4) ⟨z, 5, none⟩ x5) z T #[x0, x1, x2, x3, x4, x5, a6, a7, a8, a9, a10] := h5.set 5 x5
  have h7 : Blk (World.setCell (World.setCell (World.setCell (World.setCell (World.setCell (World.setCell (World.setCell W ⟨z, 0, none⟩ x0) ⟨z, 1, none⟩ x1) ⟨z, 2, none⟩ x2) ⟨z, 3, none⟩ x3) ⟨z, 4, none⟩ x4) ⟨z, 5, none⟩ x5) ⟨z, 6, none⟩ x6) z T #[x0, x1, x2, x3, x4, x5, x6, a7, a8, a9, a10] := h6.set 6 x6
  have h8 : Blk (World.setCell (World.setCell (World.setCell (World.setCell (World.setCell (World.setCell (World.setCell (World.setCell W ⟨z, 0, none⟩ x0) ⟨z, 1, none⟩ x1) ⟨z, 2, none⟩ x2) ⟨z, 3, none⟩ x3) ⟨z, 4, none⟩ x4) ⟨z, 5, none⟩ x5) ⟨z, 6, none⟩ x6) ⟨z, 7, none⟩ x7) z T #[x0, x1, x2, x3, x4, x5, x6, x7, a8, a9, a10] := h7.set 7 x7
  have h9 : Blk (World.setCell (World.setCell (World.setCell (World.setCell (World.setCell (World.setCell (World.setCell (World.setCell (World.setCell W ⟨z, 0, none⟩ x0) ⟨z, 1, none⟩ x1) ⟨z, 2, none⟩ x2) ⟨z, 3, none⟩ x3) ⟨z, 4, none⟩ x4) ⟨z, 5, none⟩ x5) ⟨z, 6, none⟩ x6) ⟨z, 7, none⟩ x7) ⟨z, 8, none⟩ x8) z T #[x0, x1, x2, x3, x4, x5, x6, x7, x8, a9, a10] := h8.set 8 x8
  have h10 : Blk (World.setCell (World.setCell (World.setCell (World.setCell (World.setCell (World.setCell (World.setCell (World.setCell (World.setCell (World.setCell W ⟨z, 0, none⟩ x0) ⟨z, 1, none⟩ x1) ⟨z, 2, none⟩ x2) ⟨z, 3, none⟩ x3) ⟨z, 4, none⟩ x4) ⟨z, 5, none⟩ x5) ⟨z, 6, none⟩ x6) ⟨z, 7, none⟩ x7) ⟨z, 8, none⟩ x8) ⟨z, 9, none⟩ x9) z T #[x0, x1, x2, x3, x4, x5, x6, x7, x8, x9, a10] := h9.set 9 x9
  have h11 : Blk (World.setCell (World.setCell (World.setCell (World.setCell (World.setCell (World.setCell (World.setCell (World.setCell (World.setCell (World.setCell (World.setCell W ⟨z, 0, none⟩ x0) ⟨z, 1, none⟩ x1) ⟨z, 2, none⟩ x2) ⟨z, 3, none⟩ x3) ⟨z, 4, none⟩ x4) ⟨z, 5, none⟩ x5) ⟨z, 6, none⟩ x6) ⟨z, 7, none⟩ x7) ⟨z, 8, none⟩ x8) ⟨z, 9, none⟩ x9) ⟨z, 10, none⟩ x10) z T #[x0, x1, x2, x3, x4, x5, x6, x7, x8, x9, x10] := h10.set 10 x10
  exact h11
set_option maxRecDepth 100000 in
set_option maxHeartbeats 8000000 in
theorem shape8_no (l : List K8) (A : Option Addr) (c : Nat) (w : World) (hL : Lz8 w A l) (h : Rd8 l) (k : Int) (hm : mo8 k l.length = false) : Yl 15 #[.slice A l.length c, .int .i64 k] w (.tuple #[s8v s8z, .int .i64 80]) := by
  have HR := Lib.hid (fun W (hb : Below w.heap.size w W) => readable8_yes l A c W (hL.below hb (Nat.le_refl _)) h)
  have HM := Lib.hid (fun W => by have h2 := madeof8_any k l.length W; rw [hm] at h2; exact h2)
  clear hL h hm
  have Z_0 : Hid (Blk (w.alloc (.cells #[.int .i64 0, .int .i64 0, .int .i64 0, .int .i64 0, .int .i64 0, .int .i64 0, .int .i64 0, .int .i64 0, .int .i64 0, .int .i64 0, .string ⟨#[]⟩] 40)) w.heap.size 40 #[.int .i64 0, .int .i64 0, .int .i64 0, .int .i64 0, .int .i64 0, .int .i64 0, .int .i64 0, .int .i64 0, .int .i64 0, .int .i64 0, .string ⟨#[]⟩]) := allocs_blk [(#[.int .i64 0, .int .i64 0, .int .i64 0, .int .i64 0, .int .i64 0, .int .i64 0, .int .i64 0, .int .i64 0, .int .i64 0, .int .i64 0, .string ⟨#[]⟩], 40)] w 0 _ rfl
  have HB_0 : Hid (Below w.heap.size w (w.alloc (.cells #[.int .i64 0, .int .i64 0, .int .i64 0, .int .i64 0, .int .i64 0, .int .i64 0, .int .i64 0, .int .i64 0, .int .i64 0, .int .i64 0, .string ⟨#[]⟩] 40))) := allocs_below [(#[.int .i64 0, .int .i64 0, .int .i64 0, .int .i64 0, .int .i64 0, .int .i64 0, .int .i64 0, .int .i64 0, .int .i64 0, .int .i64 0, .string ⟨#[]⟩], 40)] w (Below.refl w.heap.size w) (Nat.le_refl _)
  go_enter Tryd.func15, Tryd.ntmps15
  go_wp2_with fail
  refine (HR.out _ HB_0.out).mono ?_
  rintro e v0 ⟨rfl, hb⟩
  have Z_1 : Hid (Blk v0 w.heap.size 40 #[.int .i64 0, .int .i64 0, .int .i64 0, .int .i64 0, .int .i64 0, .int .i64 0, .int .i64 0, .int .i64 0, .int .i64 0, .int .i64 0, .string ⟨#[]⟩]) := Lib.hid (Z_0.out.below hb Z_0.out.lt)
  have HB_1 : Hid (Below w.heap.size w v0) := Lib.hid (HB_0.out.trans (hb.mono HB_0.out.size))
  clear hb Z_0 HB_0
  go_wp2_with fail
  refine (HM.out _).mono ?_
  rintro e v1 ⟨rfl, hb⟩
  have Z_2 : Hid (Blk v1 w.heap.size 40 #[.int .i64 0, .int .i64 0, .int .i64 0, .int .i64 0, .int .i64 0, .int .i64 0, .int .i64 0, .int .i64 0, .int .i64 0, .int .i64 0, .string ⟨#[]⟩]) := Lib.hid (Z_1.out.below hb Z_1.out.lt)
  have HB_2 : Hid (Below w.heap.size w v1) := Lib.hid (HB_1.out.trans (hb.mono HB_1.out.size))
  clear hb Z_1 HB_1
  have r0 := Z_2.out.cell (i := 0) (v := .int .i64 0) rfl; have f0 := Z_2.out.frozen 0
  have r1 := Z_2.out.cell (i := 1) (v := .int .i64 0) rfl; have f1 := Z_2.out.frozen 1
  have r2 := Z_2.out.cell (i := 2) (v := .int .i64 0) rfl; have f2 := Z_2.out.frozen 2
  have r3 := Z_2.out.cell (i := 3) (v := .int .i64 0) rfl; have f3 := Z_2.out.frozen 3
  have r4 := Z_2.out.cell (i := 4) (v := .int .i64 0) rfl; have f4 := Z_2.out.frozen 4
  have r5 := Z_2.out.cell (i := 5) (v := .int .i64 0) rfl; have f5 := Z_2.out.frozen 5
  have r6 := Z_2.out.cell (i := 6) (v := .int .i64 0) rfl; have f6 := Z_2.out.frozen 6
  have r7 := Z_2.out.cell (i := 7) (v := .int .i64 0) rfl; have f7 := Z_2.out.frozen 7
  have r8 := Z_2.out.cell (i := 8) (v := .int .i64 0) rfl; have f8 := Z_2.out.frozen 8
  have r9 := Z_2.out.cell (i := 9) (v := .int .i64 0) rfl; have f9 := Z_2.out.frozen 9
  have r10 := Z_2.out.cell (i := 10) (v := .string ⟨#[]⟩) rfl; have f10 := Z_2.out.frozen 10
  go_wp2_with fail
  clear r0 f0 r1 f1 r2 f2 r3 f3 r4 f4 r5 f5 r6 f6 r7 f7 r8 f8 r9 f9 r10 f10
  have HFZ := Lib.hid (set11_8 Z_2.out (.int .i64 0) (.int .i64 0) (.int .i64 0) (.int .i64 0) (.int .i64 0) (.int .i64 0) (.int .i64 0) (.int .i64 0) (.int .i64 0) (.int .i64 0) (.string ⟨#[]⟩))
  have rZ0 := HFZ.out.cell (i := 0) (v := .int .i64 0) rfl
  have rZ1 := HFZ.out.cell (i := 1) (v := .int .i64 0) rfl
  have rZ2 := HFZ.out.cell (i := 2) (v := .int .i64 0) rfl
  have rZ3 := HFZ.out.cell (i := 3) (v := .int .i64 0) rfl
  have rZ4 := HFZ.out.cell (i := 4) (v := .int .i64 0) rfl
  have rZ5 := HFZ.out.cell (i := 5) (v := .int .i64 0) rfl
  have rZ6 := HFZ.out.cell (i := 6) (v := .int .i64 0) rfl
  have rZ7 := HFZ.out.cell (i := 7) (v := .int .i64 0) rfl
  have rZ8 := HFZ.out.cell (i := 8) (v := .int .i64 0) rfl
  have rZ9 := HFZ.out.cell (i := 9) (v := .int .i64 0) rfl
  have rZ10 := HFZ.out.cell (i := 10) (v := .string ⟨#[]⟩) rfl
  exact bodyPost_ret (v := .tuple #[.agg #[.int .i64 0, .int .i64 0, .int .i64 0, .int .i64 0, .int .i64 0, .int .i64 0, .int .i64 0, .int .i64 0, .int .i64 0, .int .i64 0, .string ⟨#[]⟩], .int .i64 80]) (by simp [results, Tryd.results15, go_sem, rZ0, rZ1, rZ2, rZ3, rZ4, rZ5, rZ6, rZ7, rZ8, rZ9, rZ10]) rfl ⟨rfl, (((((((((((HB_2.out.setCell (p := ⟨w.heap.size, 0, none⟩) (by show w.heap.size ≤ w.heap.size; omega) (.int .i64 0)).setCell (p := ⟨w.heap.size, 1, none⟩) (by show w.heap.size ≤ w.heap.size; omega) (.int .i64 0)).setCell (p := ⟨w.heap.size, 2, none⟩) (by show w.heap.size ≤ w.heap.size; omega) (.int .i64 0)).setCell (p := ⟨w.heap.size, 3, none⟩) (by show w.heap.size ≤ w.heap.size; omega) (.int .i64 0)).setCell (p := ⟨w.heap.size, 4, none⟩) (by show w.heap.size ≤ w.heap.size; omega) (.int .i64 0)).setCell (p := ⟨w.heap.size, 5, none⟩) (by show w.heap.size ≤ w.heap.size; omega) (.int .i64 0)).setCell (p := ⟨w.heap.size, 6, none⟩) (by show w.heap.size ≤ w.heap.size; omega) (.int .i64 0)).setCell (p := ⟨w.heap.size, 7, none⟩) (by show w.heap.size ≤ w.heap.size; omega) (.int .i64 0)).setCell (p := ⟨w.heap.size, 8, none⟩) (by show w.heap.size ≤ w.heap.size; omega) (.int .i64 0)).setCell (p := ⟨w.heap.size, 9, none⟩) (by show w.heap.size ≤ w.heap.size; omega) (.int .i64 0)).setCell (p := ⟨w.heap.size, 10, none⟩) (by show w.heap.size ≤ w.heap.size; omega) (.string ⟨#[]⟩))⟩
set_option maxRecDepth 100000 in
set_option maxHeartbeats 8000000 in
theorem shape8_2 (l : List K8) (A : Option Addr) (c : Nat) (w : World) (hL : Lz8 w A l) (h : Rd8 l) (hm : mo8 2 l.length = true) : Yl 15 #[.slice A l.length c, .int .i64 2] w (.tuple #[s8v (sh8 l 2), .int .i64 0]) := by
  have hl := h.1
  obtain ⟨b, o, rfl⟩ := hL.1.some (by omega)
  have hi : 0 < l.length := by omega
  have hv := (h.2.1 _ (List.getElem_mem hi)).1
  have HR := Lib.hid (fun W (hb : Below w.heap.size w W) => readable8_yes l _ c W (hL.below hb (Nat.le_refl _)) h)
  have HM := Lib.hid (fun W => by have h2 := madeof8_any 2 l.length W; rw [hm] at h2; exact h2)
  have HC0 : Hid (∀ W, Below w.heap.size w W → W.cell? ⟨b, o, none⟩ = some (.int .i64 l[0].P) ∧ W.cell? ⟨b, o + 1, none⟩ = some (.int .i64 l[0].N) ∧ W.cell? ⟨b, o + 2, none⟩ = some (.slice l[0].A l[0].ds.length l[0].c)) := Lib.hid (fun W hb => by
    have h2 := hL.cells hb (Nat.le_refl _) hi
    simpa using h2)
  have HCD : Hid (∀ W, Below w.heap.size w W → Yl 35 #[.agg #[.int .i64 l[0].P, .int .i64 l[0].N, .slice l[0].A l[0].ds.length l[0].c]] W (.int .i64 (cd0 l))) := Lib.hid (fun W hb => by
    rw [show cd0 l = 1000 * l[0].P + l[0].N by unfold cd0; rw [List.getD_eq_getElem?_getD, List.getElem?_map, List.getElem?_eq_getElem hi]; rfl]
    exact pcode_yes l[0].P l[0].N l[0].ds l[0].A l[0].c W ((hL.2 l[0] (List.getElem_mem hi)).below hb (Nat.le_refl _)) (by have := hv.2.2.1; omega) hv)
  have HAR := Lib.hid (fun W (hb : Below w.heap.size w W) => around8_yes l _ c W (hL.below hb (Nat.le_refl _)) h)
  have HV : Hid (sh8 l 2 = ⟨cd0 l, 2, ar8 l, ⟨0, 0⟩, ⟨0, 0⟩, ⟨#[]⟩⟩) := Lib.hid (by
    simp [sh8])
  generalize cd0 l = cd at *
  generalize ar8 l = r at *
  have HLN : Hid (1 ≤ l.length ∧ l.length ≤ 2) := Lib.hid (by omega)
  rw [HV.out]
  have q1 : (0 : Int) < (l.length : Int) := by omega
  clear HV hL h hm hv
  generalize l[0] = s0 at *
  clear hi hl
  have Z_0 : Hid (Blk (w.alloc (.cells #[.int .i64 0, .int .i64 0, .int .i64 0, .int .i64 0, .int .i64 0, .int .i64 0, .int .i64 0, .int .i64 0, .int .i64 0, .int .i64 0, .string ⟨#[]⟩] 40)) w.heap.size 40 #[.int .i64 0, .int .i64 0, .int .i64 0, .int .i64 0, .int .i64 0, .int .i64 0, .int .i64 0, .int .i64 0, .int .i64 0, .int .i64 0, .string ⟨#[]⟩]) := allocs_blk [(#[.int .i64 0, .int .i64 0, .int .i64 0, .int .i64 0, .int .i64 0, .int .i64 0, .int .i64 0, .int .i64 0, .int .i64 0, .int .i64 0, .string ⟨#[]⟩], 40)] w 0 _ rfl
  have HB_0 : Hid (Below w.heap.size w (w.alloc (.cells #[.int .i64 0, .int .i64 0, .int .i64 0, .int .i64 0, .int .i64 0, .int .i64 0, .int .i64 0, .int .i64 0, .int .i64 0, .int .i64 0, .string ⟨#[]⟩] 40))) := allocs_below [(#[.int .i64 0, .int .i64 0, .int .i64 0, .int .i64 0, .int .i64 0, .int .i64 0, .int .i64 0, .int .i64 0, .int .i64 0, .int .i64 0, .string ⟨#[]⟩], 40)] w (Below.refl w.heap.size w) (Nat.le_refl _)
  go_enter Tryd.func15, Tryd.ntmps15
  go_wp2_with fail
  refine (HR.out _ HB_0.out).mono ?_
  rintro e v0 ⟨rfl, hb⟩
  have Z_1 : Hid (Blk v0 w.heap.size 40 #[.int .i64 0, .int .i64 0, .int .i64 0, .int .i64 0, .int .i64 0, .int .i64 0, .int .i64 0, .int .i64 0, .int .i64 0, .int .i64 0, .string ⟨#[]⟩]) := Lib.hid (Z_0.out.below hb Z_0.out.lt)
  have HB_1 : Hid (Below w.heap.size w v0) := Lib.hid (HB_0.out.trans (hb.mono HB_0.out.size))
  clear hb Z_0 HB_0
  go_wp2_with fail
  refine (HM.out _).mono ?_
  rintro e v1 ⟨rfl, hb⟩
  have Z_2 : Hid (Blk v1 w.heap.size 40 #[.int .i64 0, .int .i64 0, .int .i64 0, .int .i64 0, .int .i64 0, .int .i64 0, .int .i64 0, .int .i64 0, .int .i64 0, .int .i64 0, .string ⟨#[]⟩]) := Lib.hid (Z_1.out.below hb Z_1.out.lt)
  have HB_2 : Hid (Below w.heap.size w v1) := Lib.hid (HB_1.out.trans (hb.mono HB_1.out.size))
  clear hb Z_1 HB_1
  obtain ⟨d0, d1, d2⟩ := HC0.out _ HB_2.out
  go_wp2_with fail
  refine (HCD.out _ HB_2.out).mono ?_
  rintro e v2 ⟨rfl, hb⟩
  clear d0 d1 d2
  have Z_3 : Hid (Blk v2 w.heap.size 40 #[.int .i64 0, .int .i64 0, .int .i64 0, .int .i64 0, .int .i64 0, .int .i64 0, .int .i64 0, .int .i64 0, .int .i64 0, .int .i64 0, .string ⟨#[]⟩]) := Lib.hid (Z_2.out.below hb Z_2.out.lt)
  have HB_3 : Hid (Below w.heap.size w v2) := Lib.hid (HB_2.out.trans (hb.mono HB_2.out.size))
  clear hb Z_2 HB_2
  go_wp2_with fail
  refine (HAR.out _ HB_3.out).mono ?_
  rintro e v3 ⟨rfl, hb⟩
  have hlt := (Z_3.out.below hb Z_3.out.lt).lt
  have Z_4 : Hid (Blk (v3.alloc (.cells #[.int .i64 cd, .int .i64 2, .int .i64 r.x, .int .i64 r.y, .int .i64 r.w, .int .i64 r.h, .int .i64 0, .int .i64 0, .int .i64 0, .int .i64 0, .string ⟨#[]⟩] 40)) w.heap.size 40 #[.int .i64 0, .int .i64 0, .int .i64 0, .int .i64 0, .int .i64 0, .int .i64 0, .int .i64 0, .int .i64 0, .int .i64 0, .int .i64 0, .string ⟨#[]⟩]) := Lib.hid (allocs_keep [(#[.int .i64 cd, .int .i64 2, .int .i64 r.x, .int .i64 r.y, .int .i64 r.w, .int .i64 r.h, .int .i64 0, .int .i64 0, .int .i64 0, .int .i64 0, .string ⟨#[]⟩], 40)] _ (Z_3.out.below hb Z_3.out.lt))
  have HB_4 : Hid (Below w.heap.size w (v3.alloc (.cells #[.int .i64 cd, .int .i64 2, .int .i64 r.x, .int .i64 r.y, .int .i64 r.w, .int .i64 r.h, .int .i64 0, .int .i64 0, .int .i64 0, .int .i64 0, .string ⟨#[]⟩] 40))) := Lib.hid (allocs_below [(#[.int .i64 cd, .int .i64 2, .int .i64 r.x, .int .i64 r.y, .int .i64 r.w, .int .i64 r.h, .int .i64 0, .int .i64 0, .int .i64 0, .int .i64 0, .string ⟨#[]⟩], 40)] _ (HB_3.out.trans (hb.mono HB_3.out.size)) (HB_3.out.trans (hb.mono HB_3.out.size)).size)
  have R_4 : Hid (Blk (v3.alloc (.cells #[.int .i64 cd, .int .i64 2, .int .i64 r.x, .int .i64 r.y, .int .i64 r.w, .int .i64 r.h, .int .i64 0, .int .i64 0, .int .i64 0, .int .i64 0, .string ⟨#[]⟩] 40)) v3.heap.size 40 #[.int .i64 cd, .int .i64 2, .int .i64 r.x, .int .i64 r.y, .int .i64 r.w, .int .i64 r.h, .int .i64 0, .int .i64 0, .int .i64 0, .int .i64 0, .string ⟨#[]⟩]) := Lib.hid (allocs_blk [(#[.int .i64 cd, .int .i64 2, .int .i64 r.x, .int .i64 r.y, .int .i64 r.w, .int .i64 r.h, .int .i64 0, .int .i64 0, .int .i64 0, .int .i64 0, .string ⟨#[]⟩], 40)] v3 0 _ rfl)
  clear hb Z_3 HB_3
  have y0 := R_4.out.cell (i := 0) (v := .int .i64 cd) rfl; have g0 := R_4.out.frozen 0
  have y1 := R_4.out.cell (i := 1) (v := .int .i64 2) rfl; have g1 := R_4.out.frozen 1
  have y2 := R_4.out.cell (i := 2) (v := .int .i64 r.x) rfl; have g2 := R_4.out.frozen 2
  have y3 := R_4.out.cell (i := 3) (v := .int .i64 r.y) rfl; have g3 := R_4.out.frozen 3
  have y4 := R_4.out.cell (i := 4) (v := .int .i64 r.w) rfl; have g4 := R_4.out.frozen 4
  have y5 := R_4.out.cell (i := 5) (v := .int .i64 r.h) rfl; have g5 := R_4.out.frozen 5
  have y6 := R_4.out.cell (i := 6) (v := .int .i64 0) rfl; have g6 := R_4.out.frozen 6
  have y7 := R_4.out.cell (i := 7) (v := .int .i64 0) rfl; have g7 := R_4.out.frozen 7
  have y8 := R_4.out.cell (i := 8) (v := .int .i64 0) rfl; have g8 := R_4.out.frozen 8
  have y9 := R_4.out.cell (i := 9) (v := .int .i64 0) rfl; have g9 := R_4.out.frozen 9
  have y10 := R_4.out.cell (i := 10) (v := .string ⟨#[]⟩) rfl; have g10 := R_4.out.frozen 10
  go_upto_region 10 with fail
  clear y0 g0 y1 g1 y2 g2 y3 g3 y4 g4 y5 g5 y6 g6 y7 g7 y8 g8 y9 g9 y10 g10
  generalize hwz : (v3.alloc (.cells #[.int .i64 cd, .int .i64 2, .int .i64 r.x, .int .i64 r.y, .int .i64 r.w, .int .i64 r.h, .int .i64 0, .int .i64 0, .int .i64 0, .int .i64 0, .string ⟨#[]⟩] 40)) = wz
  have R_9 : Hid (Blk wz v3.heap.size 40 #[.int .i64 cd, .int .i64 2, .int .i64 r.x, .int .i64 r.y, .int .i64 r.w, .int .i64 r.h, .int .i64 0, .int .i64 0, .int .i64 0, .int .i64 0, .string ⟨#[]⟩]) := Lib.hid (by rw [← hwz]; exact R_4.out)
  have Z_9 : Hid (Blk wz w.heap.size 40 #[.int .i64 0, .int .i64 0, .int .i64 0, .int .i64 0, .int .i64 0, .int .i64 0, .int .i64 0, .int .i64 0, .int .i64 0, .int .i64 0, .string ⟨#[]⟩]) := Lib.hid (by rw [← hwz]; exact Z_4.out)
  have HB_9 : Hid (Below w.heap.size w wz) := Lib.hid (by rw [← hwz]; exact HB_4.out)
  clear hwz R_4 Z_4 HB_4
  have y0 := R_9.out.cell (i := 0) (v := .int .i64 cd) rfl
  have y1 := R_9.out.cell (i := 1) (v := .int .i64 2) rfl
  have y2 := R_9.out.cell (i := 2) (v := .int .i64 r.x) rfl
  have y3 := R_9.out.cell (i := 3) (v := .int .i64 r.y) rfl
  have y4 := R_9.out.cell (i := 4) (v := .int .i64 r.w) rfl
  have y5 := R_9.out.cell (i := 5) (v := .int .i64 r.h) rfl
  have y6 := R_9.out.cell (i := 6) (v := .int .i64 0) rfl
  have y7 := R_9.out.cell (i := 7) (v := .int .i64 0) rfl
  have y8 := R_9.out.cell (i := 8) (v := .int .i64 0) rfl
  have y9 := R_9.out.cell (i := 9) (v := .int .i64 0) rfl
  have y10 := R_9.out.cell (i := 10) (v := .string ⟨#[]⟩) rfl
  have r0 := Z_9.out.cell (i := 0) (v := .int .i64 0) rfl; have f0 := Z_9.out.frozen 0
  have r1 := Z_9.out.cell (i := 1) (v := .int .i64 0) rfl; have f1 := Z_9.out.frozen 1
  have r2 := Z_9.out.cell (i := 2) (v := .int .i64 0) rfl; have f2 := Z_9.out.frozen 2
  have r3 := Z_9.out.cell (i := 3) (v := .int .i64 0) rfl; have f3 := Z_9.out.frozen 3
  have r4 := Z_9.out.cell (i := 4) (v := .int .i64 0) rfl; have f4 := Z_9.out.frozen 4
  have r5 := Z_9.out.cell (i := 5) (v := .int .i64 0) rfl; have f5 := Z_9.out.frozen 5
  have r6 := Z_9.out.cell (i := 6) (v := .int .i64 0) rfl; have f6 := Z_9.out.frozen 6
  have r7 := Z_9.out.cell (i := 7) (v := .int .i64 0) rfl; have f7 := Z_9.out.frozen 7
  have r8 := Z_9.out.cell (i := 8) (v := .int .i64 0) rfl; have f8 := Z_9.out.frozen 8
  have r9 := Z_9.out.cell (i := 9) (v := .int .i64 0) rfl; have f9 := Z_9.out.frozen 9
  have r10 := Z_9.out.cell (i := 10) (v := .string ⟨#[]⟩) rfl; have f10 := Z_9.out.frozen 10
  go_wp2_with fail
  clear y0 r0 f0 y1 r1 f1 y2 r2 f2 y3 r3 f3 y4 r4 f4 y5 r5 f5 y6 r6 f6 y7 r7 f7 y8 r8 f8 y9 r9 f9 y10 r10 f10
  have HFZ := Lib.hid (set11_8 Z_9.out (.int .i64 cd) (.int .i64 2) (.int .i64 r.x) (.int .i64 r.y) (.int .i64 r.w) (.int .i64 r.h) (.int .i64 0) (.int .i64 0) (.int .i64 0) (.int .i64 0) (.string ⟨#[]⟩))
  have rZ0 := HFZ.out.cell (i := 0) (v := .int .i64 cd) rfl
  have rZ1 := HFZ.out.cell (i := 1) (v := .int .i64 2) rfl
  have rZ2 := HFZ.out.cell (i := 2) (v := .int .i64 r.x) rfl
  have rZ3 := HFZ.out.cell (i := 3) (v := .int .i64 r.y) rfl
  have rZ4 := HFZ.out.cell (i := 4) (v := .int .i64 r.w) rfl
  have rZ5 := HFZ.out.cell (i := 5) (v := .int .i64 r.h) rfl
  have rZ6 := HFZ.out.cell (i := 6) (v := .int .i64 0) rfl
  have rZ7 := HFZ.out.cell (i := 7) (v := .int .i64 0) rfl
  have rZ8 := HFZ.out.cell (i := 8) (v := .int .i64 0) rfl
  have rZ9 := HFZ.out.cell (i := 9) (v := .int .i64 0) rfl
  have rZ10 := HFZ.out.cell (i := 10) (v := .string ⟨#[]⟩) rfl
  exact bodyPost_ret (v := .tuple #[.agg #[.int .i64 cd, .int .i64 2, .int .i64 r.x, .int .i64 r.y, .int .i64 r.w, .int .i64 r.h, .int .i64 0, .int .i64 0, .int .i64 0, .int .i64 0, .string ⟨#[]⟩], .int .i64 0]) (by simp [results, Tryd.results15, go_sem, rZ0, rZ1, rZ2, rZ3, rZ4, rZ5, rZ6, rZ7, rZ8, rZ9, rZ10]) rfl ⟨rfl, (((((((((((HB_9.out.setCell (p := ⟨w.heap.size, 0, none⟩) (by show w.heap.size ≤ w.heap.size; omega) (.int .i64 cd)).setCell (p := ⟨w.heap.size, 1, none⟩) (by show w.heap.size ≤ w.heap.size; omega) (.int .i64 2)).setCell (p := ⟨w.heap.size, 2, none⟩) (by show w.heap.size ≤ w.heap.size; omega) (.int .i64 r.x)).setCell (p := ⟨w.heap.size, 3, none⟩) (by show w.heap.size ≤ w.heap.size; omega) (.int .i64 r.y)).setCell (p := ⟨w.heap.size, 4, none⟩) (by show w.heap.size ≤ w.heap.size; omega) (.int .i64 r.w)).setCell (p := ⟨w.heap.size, 5, none⟩) (by show w.heap.size ≤ w.heap.size; omega) (.int .i64 r.h)).setCell (p := ⟨w.heap.size, 6, none⟩) (by show w.heap.size ≤ w.heap.size; omega) (.int .i64 0)).setCell (p := ⟨w.heap.size, 7, none⟩) (by show w.heap.size ≤ w.heap.size; omega) (.int .i64 0)).setCell (p := ⟨w.heap.size, 8, none⟩) (by show w.heap.size ≤ w.heap.size; omega) (.int .i64 0)).setCell (p := ⟨w.heap.size, 9, none⟩) (by show w.heap.size ≤ w.heap.size; omega) (.int .i64 0)).setCell (p := ⟨w.heap.size, 10, none⟩) (by show w.heap.size ≤ w.heap.size; omega) (.string ⟨#[]⟩))⟩
set_option maxRecDepth 100000 in
set_option maxHeartbeats 8000000 in
theorem shape8_4 (l : List K8) (A : Option Addr) (c : Nat) (w : World) (hL : Lz8 w A l) (h : Rd8 l) (hT : Tb8 w) (hm : mo8 4 l.length = true) : Yl 15 #[.slice A l.length c, .int .i64 4] w (.tuple #[s8v (sh8 l 4), .int .i64 0]) := by
  have hl := h.1
  obtain ⟨b, o, rfl⟩ := hL.1.some (by omega)
  have hi : 0 < l.length := by omega
  have hv := (h.2.1 _ (List.getElem_mem hi)).1
  have HR := Lib.hid (fun W (hb : Below w.heap.size w W) => readable8_yes l _ c W (hL.below hb (Nat.le_refl _)) h)
  have HM := Lib.hid (fun W => by have h2 := madeof8_any 4 l.length W; rw [hm] at h2; exact h2)
  have HC0 : Hid (∀ W, Below w.heap.size w W → W.cell? ⟨b, o, none⟩ = some (.int .i64 l[0].P) ∧ W.cell? ⟨b, o + 1, none⟩ = some (.int .i64 l[0].N) ∧ W.cell? ⟨b, o + 2, none⟩ = some (.slice l[0].A l[0].ds.length l[0].c)) := Lib.hid (fun W hb => by
    have h2 := hL.cells hb (Nat.le_refl _) hi
    simpa using h2)
  have HCD : Hid (∀ W, Below w.heap.size w W → Yl 35 #[.agg #[.int .i64 l[0].P, .int .i64 l[0].N, .slice l[0].A l[0].ds.length l[0].c]] W (.int .i64 (cd0 l))) := Lib.hid (fun W hb => by
    rw [show cd0 l = 1000 * l[0].P + l[0].N by unfold cd0; rw [List.getD_eq_getElem?_getD, List.getElem?_map, List.getElem?_eq_getElem hi]; rfl]
    exact pcode_yes l[0].P l[0].N l[0].ds l[0].A l[0].c W ((hL.2 l[0] (List.getElem_mem hi)).below hb (Nat.le_refl _)) (by have := hv.2.2.1; omega) hv)
  have HAR := Lib.hid (fun W (hb : Below w.heap.size w W) => around8_yes l _ c W (hL.below hb (Nat.le_refl _)) h)
  have HFE := Lib.hid (fun W (hb : Below w.heap.size w W) => features8_yes l _ c W (hL.below hb (Nat.le_refl _)) h (hT.1.below hb (Nat.le_refl _)))
  have HLE : Hid (∀ gg B W, Below w.heap.size w W → Gz8 W B gg (fs8 l) → (∀ F ∈ fs8 l, Fok8 F) → Yl 50 #[.slice (some ⟨gg, 0, none⟩) l.length l.length] W (.tuple #[.string (sh8 l 4).wd, .int .i64 (lo8 (fs8 l) 8).2])) := Lib.hid (fun gg B W hb hG hok => by
    have h2 := letterof8_any (fs8 l) gg B W hG (by rw [fs8_len]; exact hl) (fun F hF => (hok F hF).1) (hT.2.2.below hb (Nat.le_refl _))
    rw [fs8_len] at h2
    exact h2)
  have HV : Hid (sh8 l 4 = ⟨cd0 l, 4, ar8 l, ⟨0, 0⟩, ⟨0, 0⟩, (sh8 l 4).wd⟩) := Lib.hid (by
    simp [sh8])
  generalize cd0 l = cd at *
  generalize ar8 l = r at *
  generalize (sh8 l 4).wd = wd at *
  generalize (lo8 (fs8 l) 8).2 = lc at *
  have HLN : Hid (1 ≤ l.length ∧ l.length ≤ 2) := Lib.hid (by omega)
  rw [HV.out]
  have q1 : (0 : Int) < (l.length : Int) := by omega
  clear HV hL h hm hv hT
  generalize l[0] = s0 at *
  clear hi hl
  have Z_0 : Hid (Blk (w.alloc (.cells #[.int .i64 0, .int .i64 0, .int .i64 0, .int .i64 0, .int .i64 0, .int .i64 0, .int .i64 0, .int .i64 0, .int .i64 0, .int .i64 0, .string ⟨#[]⟩] 40)) w.heap.size 40 #[.int .i64 0, .int .i64 0, .int .i64 0, .int .i64 0, .int .i64 0, .int .i64 0, .int .i64 0, .int .i64 0, .int .i64 0, .int .i64 0, .string ⟨#[]⟩]) := allocs_blk [(#[.int .i64 0, .int .i64 0, .int .i64 0, .int .i64 0, .int .i64 0, .int .i64 0, .int .i64 0, .int .i64 0, .int .i64 0, .int .i64 0, .string ⟨#[]⟩], 40)] w 0 _ rfl
  have HB_0 : Hid (Below w.heap.size w (w.alloc (.cells #[.int .i64 0, .int .i64 0, .int .i64 0, .int .i64 0, .int .i64 0, .int .i64 0, .int .i64 0, .int .i64 0, .int .i64 0, .int .i64 0, .string ⟨#[]⟩] 40))) := allocs_below [(#[.int .i64 0, .int .i64 0, .int .i64 0, .int .i64 0, .int .i64 0, .int .i64 0, .int .i64 0, .int .i64 0, .int .i64 0, .int .i64 0, .string ⟨#[]⟩], 40)] w (Below.refl w.heap.size w) (Nat.le_refl _)
  go_enter Tryd.func15, Tryd.ntmps15
  go_wp2_with fail
  refine (HR.out _ HB_0.out).mono ?_
  rintro e v0 ⟨rfl, hb⟩
  have Z_1 : Hid (Blk v0 w.heap.size 40 #[.int .i64 0, .int .i64 0, .int .i64 0, .int .i64 0, .int .i64 0, .int .i64 0, .int .i64 0, .int .i64 0, .int .i64 0, .int .i64 0, .string ⟨#[]⟩]) := Lib.hid (Z_0.out.below hb Z_0.out.lt)
  have HB_1 : Hid (Below w.heap.size w v0) := Lib.hid (HB_0.out.trans (hb.mono HB_0.out.size))
  clear hb Z_0 HB_0
  go_wp2_with fail
  refine (HM.out _).mono ?_
  rintro e v1 ⟨rfl, hb⟩
  have Z_2 : Hid (Blk v1 w.heap.size 40 #[.int .i64 0, .int .i64 0, .int .i64 0, .int .i64 0, .int .i64 0, .int .i64 0, .int .i64 0, .int .i64 0, .int .i64 0, .int .i64 0, .string ⟨#[]⟩]) := Lib.hid (Z_1.out.below hb Z_1.out.lt)
  have HB_2 : Hid (Below w.heap.size w v1) := Lib.hid (HB_1.out.trans (hb.mono HB_1.out.size))
  clear hb Z_1 HB_1
  obtain ⟨d0, d1, d2⟩ := HC0.out _ HB_2.out
  go_wp2_with fail
  refine (HCD.out _ HB_2.out).mono ?_
  rintro e v2 ⟨rfl, hb⟩
  clear d0 d1 d2
  have Z_3 : Hid (Blk v2 w.heap.size 40 #[.int .i64 0, .int .i64 0, .int .i64 0, .int .i64 0, .int .i64 0, .int .i64 0, .int .i64 0, .int .i64 0, .int .i64 0, .int .i64 0, .string ⟨#[]⟩]) := Lib.hid (Z_2.out.below hb Z_2.out.lt)
  have HB_3 : Hid (Below w.heap.size w v2) := Lib.hid (HB_2.out.trans (hb.mono HB_2.out.size))
  clear hb Z_2 HB_2
  go_wp2_with fail
  refine (HAR.out _ HB_3.out).mono ?_
  rintro e v3 ⟨rfl, hb⟩
  have hlt := (Z_3.out.below hb Z_3.out.lt).lt
  have Z_4 : Hid (Blk (v3.alloc (.cells #[.int .i64 cd, .int .i64 4, .int .i64 r.x, .int .i64 r.y, .int .i64 r.w, .int .i64 r.h, .int .i64 0, .int .i64 0, .int .i64 0, .int .i64 0, .string ⟨#[]⟩] 40)) w.heap.size 40 #[.int .i64 0, .int .i64 0, .int .i64 0, .int .i64 0, .int .i64 0, .int .i64 0, .int .i64 0, .int .i64 0, .int .i64 0, .int .i64 0, .string ⟨#[]⟩]) := Lib.hid (allocs_keep [(#[.int .i64 cd, .int .i64 4, .int .i64 r.x, .int .i64 r.y, .int .i64 r.w, .int .i64 r.h, .int .i64 0, .int .i64 0, .int .i64 0, .int .i64 0, .string ⟨#[]⟩], 40)] _ (Z_3.out.below hb Z_3.out.lt))
  have HB_4 : Hid (Below w.heap.size w (v3.alloc (.cells #[.int .i64 cd, .int .i64 4, .int .i64 r.x, .int .i64 r.y, .int .i64 r.w, .int .i64 r.h, .int .i64 0, .int .i64 0, .int .i64 0, .int .i64 0, .string ⟨#[]⟩] 40))) := Lib.hid (allocs_below [(#[.int .i64 cd, .int .i64 4, .int .i64 r.x, .int .i64 r.y, .int .i64 r.w, .int .i64 r.h, .int .i64 0, .int .i64 0, .int .i64 0, .int .i64 0, .string ⟨#[]⟩], 40)] _ (HB_3.out.trans (hb.mono HB_3.out.size)) (HB_3.out.trans (hb.mono HB_3.out.size)).size)
  have R_4 : Hid (Blk (v3.alloc (.cells #[.int .i64 cd, .int .i64 4, .int .i64 r.x, .int .i64 r.y, .int .i64 r.w, .int .i64 r.h, .int .i64 0, .int .i64 0, .int .i64 0, .int .i64 0, .string ⟨#[]⟩] 40)) v3.heap.size 40 #[.int .i64 cd, .int .i64 4, .int .i64 r.x, .int .i64 r.y, .int .i64 r.w, .int .i64 r.h, .int .i64 0, .int .i64 0, .int .i64 0, .int .i64 0, .string ⟨#[]⟩]) := Lib.hid (allocs_blk [(#[.int .i64 cd, .int .i64 4, .int .i64 r.x, .int .i64 r.y, .int .i64 r.w, .int .i64 r.h, .int .i64 0, .int .i64 0, .int .i64 0, .int .i64 0, .string ⟨#[]⟩], 40)] v3 0 _ rfl)
  clear hb Z_3 HB_3
  go_wp2_with fail
  refine (HFE.out _ HB_4.out).mono ?_
  rintro e v4 ⟨⟨gg, rfl, hG, hok⟩, hb⟩
  have HG := Lib.hid hG; have HO := Lib.hid hok; clear hG hok
  have Z_5 : Hid (Blk v4 w.heap.size 40 #[.int .i64 0, .int .i64 0, .int .i64 0, .int .i64 0, .int .i64 0, .int .i64 0, .int .i64 0, .int .i64 0, .int .i64 0, .int .i64 0, .string ⟨#[]⟩]) := Lib.hid (Z_4.out.below hb Z_4.out.lt)
  have R_5 : Hid (Blk v4 v3.heap.size 40 #[.int .i64 cd, .int .i64 4, .int .i64 r.x, .int .i64 r.y, .int .i64 r.w, .int .i64 r.h, .int .i64 0, .int .i64 0, .int .i64 0, .int .i64 0, .string ⟨#[]⟩]) := Lib.hid (R_4.out.below hb R_4.out.lt)
  have HB_5 : Hid (Below w.heap.size w v4) := Lib.hid (HB_4.out.trans (hb.mono HB_4.out.size))
  clear hb Z_4 R_4 HB_4
  have HLL := Lib.hid (HLE.out gg _ _ HB_5.out HG.out HO.out)
  clear HG HO
  go_wp2_with fail
  refine (HLL.out).mono ?_
  rintro e v5 ⟨rfl, hb⟩
  have Z_6 : Hid (Blk v5 w.heap.size 40 #[.int .i64 0, .int .i64 0, .int .i64 0, .int .i64 0, .int .i64 0, .int .i64 0, .int .i64 0, .int .i64 0, .int .i64 0, .int .i64 0, .string ⟨#[]⟩]) := Lib.hid (Z_5.out.below hb Z_5.out.lt)
  have R_6 : Hid (Blk v5 v3.heap.size 40 #[.int .i64 cd, .int .i64 4, .int .i64 r.x, .int .i64 r.y, .int .i64 r.w, .int .i64 r.h, .int .i64 0, .int .i64 0, .int .i64 0, .int .i64 0, .string ⟨#[]⟩]) := Lib.hid (R_5.out.below hb R_5.out.lt)
  have HB_6 : Hid (Below w.heap.size w v5) := Lib.hid (HB_5.out.trans (hb.mono HB_5.out.size))
  clear hb Z_5 R_5 HB_5
  have y0 := R_6.out.cell (i := 0) (v := .int .i64 cd) rfl; have g0 := R_6.out.frozen 0
  have y1 := R_6.out.cell (i := 1) (v := .int .i64 4) rfl; have g1 := R_6.out.frozen 1
  have y2 := R_6.out.cell (i := 2) (v := .int .i64 r.x) rfl; have g2 := R_6.out.frozen 2
  have y3 := R_6.out.cell (i := 3) (v := .int .i64 r.y) rfl; have g3 := R_6.out.frozen 3
  have y4 := R_6.out.cell (i := 4) (v := .int .i64 r.w) rfl; have g4 := R_6.out.frozen 4
  have y5 := R_6.out.cell (i := 5) (v := .int .i64 r.h) rfl; have g5 := R_6.out.frozen 5
  have y6 := R_6.out.cell (i := 6) (v := .int .i64 0) rfl; have g6 := R_6.out.frozen 6
  have y7 := R_6.out.cell (i := 7) (v := .int .i64 0) rfl; have g7 := R_6.out.frozen 7
  have y8 := R_6.out.cell (i := 8) (v := .int .i64 0) rfl; have g8 := R_6.out.frozen 8
  have y9 := R_6.out.cell (i := 9) (v := .int .i64 0) rfl; have g9 := R_6.out.frozen 9
  have y10 := R_6.out.cell (i := 10) (v := .string ⟨#[]⟩) rfl; have g10 := R_6.out.frozen 10
  go_upto_region 10 with fail
  clear y0 g0 y1 g1 y2 g2 y3 g3 y4 g4 y5 g5 y6 g6 y7 g7 y8 g8 y9 g9 y10 g10
  generalize hwz : (World.setCell v5 _ _) = wz
  have R_9 : Hid (Blk wz v3.heap.size 40 #[.int .i64 cd, .int .i64 4, .int .i64 r.x, .int .i64 r.y, .int .i64 r.w, .int .i64 r.h, .int .i64 0, .int .i64 0, .int .i64 0, .int .i64 0, .string wd]) := Lib.hid (by rw [← hwz]; exact (R_6.out.set 10 (.string wd)))
  have Z_9 : Hid (Blk wz w.heap.size 40 #[.int .i64 0, .int .i64 0, .int .i64 0, .int .i64 0, .int .i64 0, .int .i64 0, .int .i64 0, .int .i64 0, .int .i64 0, .int .i64 0, .string ⟨#[]⟩]) := Lib.hid (by rw [← hwz]; exact (Z_6.out.far (p := ⟨v3.heap.size, 10, none⟩) (by show w.heap.size ≠ v3.heap.size; omega) (.string wd)))
  have HB_9 : Hid (Below w.heap.size w wz) := Lib.hid (by rw [← hwz]; exact (HB_6.out.setCell (p := ⟨v3.heap.size, 10, none⟩) (by show w.heap.size ≤ v3.heap.size; omega) (.string wd)))
  clear hwz R_6 Z_6 HB_6
  have y0 := R_9.out.cell (i := 0) (v := .int .i64 cd) rfl
  have y1 := R_9.out.cell (i := 1) (v := .int .i64 4) rfl
  have y2 := R_9.out.cell (i := 2) (v := .int .i64 r.x) rfl
  have y3 := R_9.out.cell (i := 3) (v := .int .i64 r.y) rfl
  have y4 := R_9.out.cell (i := 4) (v := .int .i64 r.w) rfl
  have y5 := R_9.out.cell (i := 5) (v := .int .i64 r.h) rfl
  have y6 := R_9.out.cell (i := 6) (v := .int .i64 0) rfl
  have y7 := R_9.out.cell (i := 7) (v := .int .i64 0) rfl
  have y8 := R_9.out.cell (i := 8) (v := .int .i64 0) rfl
  have y9 := R_9.out.cell (i := 9) (v := .int .i64 0) rfl
  have y10 := R_9.out.cell (i := 10) (v := .string wd) rfl
  have r0 := Z_9.out.cell (i := 0) (v := .int .i64 0) rfl; have f0 := Z_9.out.frozen 0
  have r1 := Z_9.out.cell (i := 1) (v := .int .i64 0) rfl; have f1 := Z_9.out.frozen 1
  have r2 := Z_9.out.cell (i := 2) (v := .int .i64 0) rfl; have f2 := Z_9.out.frozen 2
  have r3 := Z_9.out.cell (i := 3) (v := .int .i64 0) rfl; have f3 := Z_9.out.frozen 3
  have r4 := Z_9.out.cell (i := 4) (v := .int .i64 0) rfl; have f4 := Z_9.out.frozen 4
  have r5 := Z_9.out.cell (i := 5) (v := .int .i64 0) rfl; have f5 := Z_9.out.frozen 5
  have r6 := Z_9.out.cell (i := 6) (v := .int .i64 0) rfl; have f6 := Z_9.out.frozen 6
  have r7 := Z_9.out.cell (i := 7) (v := .int .i64 0) rfl; have f7 := Z_9.out.frozen 7
  have r8 := Z_9.out.cell (i := 8) (v := .int .i64 0) rfl; have f8 := Z_9.out.frozen 8
  have r9 := Z_9.out.cell (i := 9) (v := .int .i64 0) rfl; have f9 := Z_9.out.frozen 9
  have r10 := Z_9.out.cell (i := 10) (v := .string ⟨#[]⟩) rfl; have f10 := Z_9.out.frozen 10
  go_wp2_with fail
  clear y0 r0 f0 y1 r1 f1 y2 r2 f2 y3 r3 f3 y4 r4 f4 y5 r5 f5 y6 r6 f6 y7 r7 f7 y8 r8 f8 y9 r9 f9 y10 r10 f10
  have HFZ := Lib.hid (set11_8 Z_9.out (.int .i64 cd) (.int .i64 4) (.int .i64 r.x) (.int .i64 r.y) (.int .i64 r.w) (.int .i64 r.h) (.int .i64 0) (.int .i64 0) (.int .i64 0) (.int .i64 0) (.string wd))
  have rZ0 := HFZ.out.cell (i := 0) (v := .int .i64 cd) rfl
  have rZ1 := HFZ.out.cell (i := 1) (v := .int .i64 4) rfl
  have rZ2 := HFZ.out.cell (i := 2) (v := .int .i64 r.x) rfl
  have rZ3 := HFZ.out.cell (i := 3) (v := .int .i64 r.y) rfl
  have rZ4 := HFZ.out.cell (i := 4) (v := .int .i64 r.w) rfl
  have rZ5 := HFZ.out.cell (i := 5) (v := .int .i64 r.h) rfl
  have rZ6 := HFZ.out.cell (i := 6) (v := .int .i64 0) rfl
  have rZ7 := HFZ.out.cell (i := 7) (v := .int .i64 0) rfl
  have rZ8 := HFZ.out.cell (i := 8) (v := .int .i64 0) rfl
  have rZ9 := HFZ.out.cell (i := 9) (v := .int .i64 0) rfl
  have rZ10 := HFZ.out.cell (i := 10) (v := .string wd) rfl
  exact bodyPost_ret (v := .tuple #[.agg #[.int .i64 cd, .int .i64 4, .int .i64 r.x, .int .i64 r.y, .int .i64 r.w, .int .i64 r.h, .int .i64 0, .int .i64 0, .int .i64 0, .int .i64 0, .string wd], .int .i64 0]) (by simp [results, Tryd.results15, go_sem, rZ0, rZ1, rZ2, rZ3, rZ4, rZ5, rZ6, rZ7, rZ8, rZ9, rZ10]) rfl ⟨rfl, (((((((((((HB_9.out.setCell (p := ⟨w.heap.size, 0, none⟩) (by show w.heap.size ≤ w.heap.size; omega) (.int .i64 cd)).setCell (p := ⟨w.heap.size, 1, none⟩) (by show w.heap.size ≤ w.heap.size; omega) (.int .i64 4)).setCell (p := ⟨w.heap.size, 2, none⟩) (by show w.heap.size ≤ w.heap.size; omega) (.int .i64 r.x)).setCell (p := ⟨w.heap.size, 3, none⟩) (by show w.heap.size ≤ w.heap.size; omega) (.int .i64 r.y)).setCell (p := ⟨w.heap.size, 4, none⟩) (by show w.heap.size ≤ w.heap.size; omega) (.int .i64 r.w)).setCell (p := ⟨w.heap.size, 5, none⟩) (by show w.heap.size ≤ w.heap.size; omega) (.int .i64 r.h)).setCell (p := ⟨w.heap.size, 6, none⟩) (by show w.heap.size ≤ w.heap.size; omega) (.int .i64 0)).setCell (p := ⟨w.heap.size, 7, none⟩) (by show w.heap.size ≤ w.heap.size; omega) (.int .i64 0)).setCell (p := ⟨w.heap.size, 8, none⟩) (by show w.heap.size ≤ w.heap.size; omega) (.int .i64 0)).setCell (p := ⟨w.heap.size, 9, none⟩) (by show w.heap.size ≤ w.heap.size; omega) (.int .i64 0)).setCell (p := ⟨w.heap.size, 10, none⟩) (by show w.heap.size ≤ w.heap.size; omega) (.string wd))⟩
end Go.Proofs.YtmjcjaecaigahaaDoor
namespace Go.Proofs.YtmjcjaecaigahaaDoor
open Go.RowKit Go.Lib

/-- The words as they are written up to the i-th. -/
def cl8 (i : Nat) : Array Value := ((List.range 8).map fun j => if j < i then Value.string (wd8 j) else .string ⟨#[]⟩).toArray
theorem cl8_set {i : Nat} (h : i < 8) : (cl8 i).setIfInBounds i (.string (wd8 i)) = cl8 (i + 1) := by
  rcases (show i = 0 ∨ i = 1 ∨ i = 2 ∨ i = 3 ∨ i = 4 ∨ i = 5 ∨ i = 6 ∨ i = 7 by omega) with rfl | rfl | rfl | rfl | rfl | rfl | rfl | rfl <;> rfl
theorem cl8_at {i j : Nat} (h : j < 8) : (cl8 i)[j]? = some (if j < i then .string (wd8 j) else .string ⟨#[]⟩) := by
  unfold cl8
  rw [List.getElem?_toArray, List.getElem?_map, List.getElem?_range h]; rfl
theorem run_make_words (w : World) : (Instr.makeSlice 54 (.int .i64 8) (.int .i64 8)).run Tryd.prog w = .ok (.slice (some ⟨w.heap.size, 0, none⟩) 8 8) (w.alloc (.cells #[.string ⟨#[]⟩, .string ⟨#[]⟩, .string ⟨#[]⟩, .string ⟨#[]⟩, .string ⟨#[]⟩, .string ⟨#[]⟩, .string ⟨#[]⟩, .string ⟨#[]⟩] 9)) := by kernel_rfl
set_option maxRecDepth 100000 in
set_option maxHeartbeats 16000000 in
theorem letters8_any (w : World) (hL : Lt8 w) :
    Calls Tryd.prog 27 #[] w fun e w' => (∃ q, e = .returned (.slice (some ⟨q, 0, none⟩) 8 8) ∧ ∀ j, j < 8 → w'.cell? ⟨q, j, none⟩ = some (.string (wd8 j))) ∧ Below w.heap.size w w' := by
  obtain ⟨hl0, A, c, hlt⟩ := hL
  obtain ⟨fv, hfv⟩ : ∃ fv : Nat → Value, fv = fun m => if m % 2 = 0 then .string (wd8 (m / 2)) else .slice (A (m / 2)) (st8 (m / 2)).length (c (m / 2)) := ⟨_, rfl⟩
  have HFV : Hid (∀ i, fv (i * 2) = .string (wd8 i) ∧ fv (i * 2 + 1) = .slice (A i) (st8 i).length (c i)) := Lib.hid (fun i => by
    rw [hfv]; simp only
    rw [if_pos (by omega), if_neg (by omega), show i * 2 / 2 = i by omega, show (i * 2 + 1) / 2 = i by omega]; exact ⟨rfl, rfl⟩)
  have HCF : Hid (∀ k, k < 16 → w.cell? ⟨0, k, none⟩ = some (fv k)) := Lib.hid (fun k hk => by
    rw [hfv]; simp only
    by_cases h2 : k % 2 = 0
    · rw [if_pos h2]; have := (hlt (k / 2) (by omega)).1.1; rwa [show k / 2 * 2 = k by omega] at this
    · rw [if_neg h2]; have := (hlt (k / 2) (by omega)).1.2; rwa [show k / 2 * 2 + 1 = k by omega] at this)
  have HBL := Lib.hid hl0
  clear hl0 hlt hfv
  have HCW : Hid (∀ W, Below w.heap.size w W → ∀ k, k < 16 → W.cell? ⟨0, k, none⟩ = some (fv k)) := Lib.hid (fun W hb k hk => (hb.cell (p := ⟨0, k, none⟩) HBL.out).trans (HCF.out k hk))
  have HB0 := Lib.hid ((Below.refl w.heap.size w).alloc (Nat.le_refl _) (.cells (cl8 0) 9))
  have HS0 := Lib.hid (Blk.new w 9 (cl8 0))
  have hcl : cl8 0 = #[.string ⟨#[]⟩, .string ⟨#[]⟩, .string ⟨#[]⟩, .string ⟨#[]⟩, .string ⟨#[]⟩, .string ⟨#[]⟩, .string ⟨#[]⟩, .string ⟨#[]⟩] := rfl
  rw [hcl] at HB0 HS0
  go_enter Tryd.func27, Tryd.ntmps27
  have c0 := HCW.out _ HB0.out 0 (by omega)
  have c1 := HCW.out _ HB0.out 1 (by omega)
  have c2 := HCW.out _ HB0.out 2 (by omega)
  have c3 := HCW.out _ HB0.out 3 (by omega)
  have c4 := HCW.out _ HB0.out 4 (by omega)
  have c5 := HCW.out _ HB0.out 5 (by omega)
  have c6 := HCW.out _ HB0.out 6 (by omega)
  have c7 := HCW.out _ HB0.out 7 (by omega)
  have c8 := HCW.out _ HB0.out 8 (by omega)
  have c9 := HCW.out _ HB0.out 9 (by omega)
  have c10 := HCW.out _ HB0.out 10 (by omega)
  have c11 := HCW.out _ HB0.out 11 (by omega)
  have c12 := HCW.out _ HB0.out 12 (by omega)
  have c13 := HCW.out _ HB0.out 13 (by omega)
  have c14 := HCW.out _ HB0.out 14 (by omega)
  have c15 := HCW.out _ HB0.out 15 (by omega)
  have hix := lidx8 fv
  have hmk := run_make_words
  go_upto_region 3 with fail
  clear hmk c0 c1 c2 c3 c4 c5 c6 c7 c8 c9 c10 c11 c12 c13 c14 c15
  rw [← hcl] at HS0 HB0 ⊢
  clear hcl
  go_loopw [6] (fun ii wr => ∃ i : Nat, ii = .int .i64 i ∧ i ≤ 8 ∧ Blk wr w.heap.size 9 (cl8 i) ∧ Below w.heap.size w wr) (fun ii _ => 8 - (intOf ii).toNat)
  case atStart => exact ⟨0, rfl, by omega, HS0.out, HB0.out⟩
  case round =>
    clear HB0 HS0
    obtain ⟨i, rfl, hi, hS, hB⟩ := hrel
    rename World => wr
    have HS := Lib.hid hS; have HB := Lib.hid hB; clear hS hB
    by_cases h8 : i < 8
    case neg =>
      obtain rfl : i = 8 := by omega
      clear hi h8
      go_wp2_with fail
      exact bodyPost_ret (v := .slice (some ⟨w.heap.size, 0, none⟩) 8 8) (by simp [results, Tryd.results27, go_sem]) rfl ⟨⟨_, rfl, fun j hj => (HS.out.cell (cl8_at hj)).trans (by rw [if_pos hj])⟩, HB.out⟩
    case pos =>
      have hx1 := hix i h8
      rw [(HFV.out i).1, (HFV.out i).2] at hx1
      have hset := cl8_set h8
      have y0 := HS.out.cell (cl8_at (i := i) h8)
      rw [if_neg (by omega)] at y0
      obtain ⟨wd, hwd⟩ : ∃ wd, wd = wd8 i := ⟨_, rfl⟩
      rw [← hwd] at hx1 hset
      obtain ⟨m, hm⟩ : ∃ m, m = (st8 i).length := ⟨_, rfl⟩
      rw [← hm] at hx1
      have q1 : (0 : Int) ≤ (i : Int) := by omega
      have q2 : (i : Int) < 8 := by omega
      have f0 := HS.out.frozen i
      have HI := Lib.hid h8; have HST := Lib.hid hset
      have HN := HS.out.lt
      clear hset hwd hm hi h8
      go_wp2_with fail
      clear y0 f0 hx1
      go_roundw
      case rel => exact ⟨i + 1, by go_num, HI.out, by rw [← HST.out]; exact (HS.out.set i _).alloc _, (HB.out.setCell (p := ⟨w.heap.size, i, none⟩) (by show w.heap.size ≤ w.heap.size; omega) _).alloc (by simp only [World.size_setCell]; exact HB.out.size) _⟩
      case measure => have := HI.out; simp [intOf]; omega
end Go.Proofs.YtmjcjaecaigahaaDoor
namespace Go.Proofs.YtmjcjaecaigahaaDoor
open Go.RowKit Go.Lib Go.Shelf

/-- The distance, as what the kernel can count. -/
def lvf : Nat → List Int → List Int → Int
  | 0, _, _ => 0
  | _ + 1, [], ys => 3 * ys.length
  | _ + 1, _ :: xs, [] => 3 * (xs.length + 1)
  | n + 1, x :: xs, y :: ys => min (lvf n xs ys + tn8 x y) (min (lvf n (x :: xs) ys) (lvf n xs (y :: ys)) + 3)
theorem lvf_eq : ∀ (n : Nat) (xs ys : List Int), xs.length + ys.length < n → lvf n xs ys = lv8 xs ys
  | 0, _, _, h => absurd h (by omega)
  | _ + 1, [], _, _ => by rw [lvf, lv8]
  | _ + 1, _ :: _, [], _ => by rw [lvf, lv8]
  | n + 1, x :: xs, y :: ys, h => by
    simp only [List.length_cons] at h
    rw [lvf, lv8, lvf_eq n xs ys (by omega), lvf_eq n (x :: xs) ys (by simp only [List.length_cons]; omega), lvf_eq n xs (y :: ys) (by simp only [List.length_cons]; omega)]
def farf (a b : List Int) : Int := lvf (a.length + b.length + 1) a.reverse b.reverse
theorem far8_f : far8 = farf := by
  funext a b
  unfold far8 farf
  rw [lvf_eq _ _ _ (by rw [List.length_reverse, List.length_reverse]; omega)]
/-- The dots of the example. -/
def exds8 : List Dt := [⟨100, 100, 0, 0⟩, ⟨900, 100, 0, 0⟩, ⟨900, 500, 0, 0⟩, ⟨100, 500, 0, 0⟩, ⟨100, 110, 0, 0⟩]
def exF8 : F8 := ⟨[⟨100, 100⟩, ⟨900, 100⟩, ⟨900, 500⟩, ⟨100, 500⟩, ⟨100, 110⟩], [0, 2, 4, 6], true⟩
theorem ex8_len : exds8.length = 5 := rfl
theorem ex8_vd : Vd 2 7 exds8 := by
  refine ⟨by omega, by omega, by rw [ex8_len]; omega, fun i hi => ?_⟩
  rw [ex8_len] at hi
  have h : i = 0 ∨ i = 1 ∨ i = 2 ∨ i = 3 ∨ i = 4 := by omega
  rcases h with rfl | rfl | rfl | rfl | rfl <;> (intro d hd; simp [exds8] at hd; subst hd; exact ⟨by decide, fun e he => by simp [exds8] at he; subst he; decide⟩)
theorem ex8_box : bx8 exds8 = ⟨100, 100, 800, 400⟩ := bx8_eq (by
  refine ⟨fun d hd => ?_, ⟨⟨100, 100, 0, 0⟩, by simp [exds8], rfl⟩, ⟨⟨900, 100, 0, 0⟩, by simp [exds8], rfl⟩, ⟨⟨100, 100, 0, 0⟩, by simp [exds8], rfl⟩, ⟨⟨900, 500, 0, 0⟩, by simp [exds8], rfl⟩⟩
  simp only [exds8, List.mem_cons, List.not_mem_nil, or_false] at hd
  rcases hd with rfl | rfl | rfl | rfl | rfl <;> simp)
theorem ex8_at {i k n : Nat} {z : Int} {d e f : Dt} (h1 : exds8[i]? = some d) (h2 : exds8[k]? = some e) (h3 : exds8[n]? = some f) (hi : i < n) (hk : n < k) (hn : ¬ NearP d.x d.y e.x e.y f.x f.y z) : ¬ BetwP exds8 z i k := fun h => hn (h n hi hk d e f h1 h2 h3)
theorem ex8_thin : IsThin (BetwP exds8 40) 4 [0, 1, 2, 3, 4] := by
  have b02 : ¬ BetwP exds8 40 0 2 := ex8_at (n := 1) rfl rfl rfl (by omega) (by omega) (by decide)
  have b24 : ¬ BetwP exds8 40 2 4 := ex8_at (n := 3) rfl rfl rfl (by omega) (by omega) (by decide)
  have b04 : ¬ BetwP exds8 40 0 4 := ex8_at (n := 2) rfl rfl rfl (by omega) (by omega) (by decide)
  have b14 : ¬ BetwP exds8 40 1 4 := ex8_at (n := 2) rfl rfl rfl (by omega) (by omega) (by decide)
  have b03 : ¬ BetwP exds8 40 0 3 := ex8_at (n := 2) rfl rfl rfl (by omega) (by omega) (by decide)
  have b13 : ¬ BetwP exds8 40 1 3 := ex8_at (n := 2) rfl rfl rfl (by omega) (by omega) (by decide)
  refine ⟨.step (.step (.step (.step .base (by omega) (betw_next _ _ _)) (by omega) (betw_next _ _ _)) (by omega) (betw_next _ _ _)) (by omega) (betw_next _ _ _), fun m hm => ?_⟩
  rcases wy4 hm with ⟨rfl, h⟩ | ⟨rfl, _, h⟩ | ⟨rfl, h, _⟩ | ⟨rfl, _, _, h⟩ | ⟨rfl, h⟩ | ⟨rfl, h⟩ | ⟨rfl, h⟩ | rfl
  · exact absurd h b04
  · exact absurd h b14
  · exact absurd h b02
  · exact absurd h b24
  · exact absurd h b03
  · exact absurd h b13
  · exact absurd h b02
  · exact Le.refl _
theorem ex8_look : look8 exds8 = exF8 := by
  unfold look8
  rw [thn8_eq (show IsThin (BetwP exds8 40) (exds8.length - 1) [0, 1, 2, 3, 4] from ex8_thin)]
  kernel_rfl
theorem ex8_bc : bc8 exF8 = 0 := by
  delta bc8 lsL8 ls8
  simp only [far8_f]
  kernel_rfl
theorem ex8_lo : lo8 [exF8] 8 = (⟨#[78]⟩, 10) := by
  delta lo8 lstep8 lk2 fl8
  simp only [far8_f]
  kernel_rfl
theorem ex8_c1 : cost8 [exF8] 1 = 38 := by kernel_rfl
theorem ex8_c2 : cost8 [exF8] 2 = 0 := (show cost8 [exF8] 2 = bc8 exF8 by kernel_rfl).trans ex8_bc
theorem ex8_c3 : cost8 [exF8] 3 = 500 := by kernel_rfl
theorem ex8_c4 : cost8 [exF8] 4 = 10 := (show cost8 [exF8] 4 = (lo8 [exF8] 8).2 by kernel_rfl).trans (by rw [ex8_lo])
theorem ex8_c5 : cost8 [exF8] 5 = 45 := by kernel_rfl
theorem ex8_chp : chp8 [exF8] 4 = (2, 0) := by
  simp [chp8, ex8_c1, ex8_c2, ex8_c3, ex8_c4, ex8_c5]
theorem ex8_far : far8 [0, 2] [1, 2, 4] = 4 := by rw [far8_f]; kernel_rfl
def exl8 (A : Option Addr) : List K8 := [⟨2, 7, exds8, A, 5⟩]
theorem exl8_fs (A : Option Addr) : fs8 (exl8 A) = [exF8] := by simp [fs8, exl8, ex8_look]
theorem exl8_rd (A : Option Addr) : Rd8 (exl8 A) := by
  refine ⟨Or.inl rfl, fun s hs => ?_, fun a b _ h => by simp [exl8] at h⟩
  obtain rfl : s = ⟨2, 7, exds8, A, 5⟩ := by simpa [exl8] using hs
  exact ⟨ex8_vd, Nat.le_refl _⟩
theorem exl8_sh2 (A : Option Addr) : sh8 (exl8 A) 2 = ⟨2007, 2, ⟨100, 100, 800, 400⟩, ⟨0, 0⟩, ⟨0, 0⟩, ⟨#[]⟩⟩ := by
  simp [sh8, exl8, cd0, K8.code, ar8, ex8_box]
theorem exl8_sh4 (A : Option Addr) : sh8 (exl8 A) 4 = ⟨2007, 4, ⟨100, 100, 800, 400⟩, ⟨0, 0⟩, ⟨0, 0⟩, ⟨#[78]⟩⟩ := by
  unfold sh8
  rw [exl8_fs, ex8_lo]
  simp [exl8, cd0, K8.code, ar8, ex8_box]
end Go.Proofs.YtmjcjaecaigahaaDoor
