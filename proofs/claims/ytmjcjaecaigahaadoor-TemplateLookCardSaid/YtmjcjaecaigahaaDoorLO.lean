/- The contract of Box. Conditions: the slices read. | The pieces of a stroke: what pieces returns hands them to every loop body, in their order. Conditions: 1 to 200 dots. | The contracts of Way and Within: loops over pieces. Conditions: the slices read. -/
import Derived.RangeFuncNested
import Derived.RangeFuncBound
import Derived.RangeFuncCalls
import Derived.RangeFuncLeaves
import Derived.Shelf.Abstract
import Derived.Shelf.RegionOpen
import Derived.WalkKit
import Derived.OwnWalkIn
import Derived.TacticsInMore
import Derived.LoopNIn
import Derived.LoopIn
import Derived.Test.YtmjcjaecaigahaaDoorLM
import Derived.Test.YtmjcjaecaigahaaDoorLK
import Derived.Test.YtmjcjaecaigahaaDoorLC
import Derived.Test.YtmjcjaecaigahaaDoorLF
import Derived.Test.YtmjcjaecaigahaaDoorLH
namespace Go.Proofs.YtmjcjaecaigahaaDoor
open Go.RowKit Go.Lib Go.Shelf

/-- The least of the first i, of all. -/
def LeP (f : Dt → Int) (ds : List Dt) (i : Nat) (v : Int) : Prop := (∀ j d, j < i → ds[j]? = some d → v ≤ f d) ∧ ∃ (j : Nat) (d : Dt), ds[j]? = some d ∧ f d = v
def GeP (f : Dt → Int) (ds : List Dt) (i : Nat) (v : Int) : Prop := (∀ j d, j < i → ds[j]? = some d → f d ≤ v) ∧ ∃ (j : Nat) (d : Dt), ds[j]? = some d ∧ f d = v
theorem LeP.step {f : Dt → Int} {ds : List Dt} {i : Nat} {v u : Int} {d : Dt} (h : LeP f ds i v) (hd : ds[i]? = some d) (hu : u = if f d < v then f d else v) : LeP f ds (i + 1) u := by
  refine ⟨fun j e hj he => ?_, ?_⟩
  · by_cases hji : j = i
    · subst hji
      rw [hd, Option.some.injEq] at he
      subst he; rw [hu]; split <;> omega
    · have := h.1 j e (by omega) he
      rw [hu]; split <;> omega
  · rw [hu]; split
    · exact ⟨i, d, hd, rfl⟩
    · exact h.2
theorem GeP.step {f : Dt → Int} {ds : List Dt} {i : Nat} {v u : Int} {d : Dt} (h : GeP f ds i v) (hd : ds[i]? = some d) (hu : u = if v < f d then f d else v) : GeP f ds (i + 1) u := by
  refine ⟨fun j e hj he => ?_, ?_⟩
  · by_cases hji : j = i
    · subst hji
      rw [hd, Option.some.injEq] at he
      subst he; rw [hu]; split <;> omega
    · have := h.1 j e (by omega) he
      rw [hu]; split <;> omega
  · rw [hu]; split
    · exact ⟨i, d, hd, rfl⟩
    · exact h.2
theorem isBox_ends {ds : List Dt} {lx ly gx gy : Int} (h1 : LeP Dt.x ds ds.length lx) (h2 : LeP Dt.y ds ds.length ly) (h3 : GeP Dt.x ds ds.length gx) (h4 : GeP Dt.y ds ds.length gy) : IsBox ds lx ly (gx - lx) (gy - ly) := by
  have mm : ∀ {f : Dt → Int} {v : Int}, (∃ (j : Nat) (d : Dt), ds[j]? = some d ∧ f d = v) → ∃ d ∈ ds, f d = v := fun h => by
    obtain ⟨j, d, hd, he⟩ := h
    exact ⟨d, List.mem_of_getElem? hd, he⟩
  refine ⟨fun d hd => ?_, mm h1.2, ?_, mm h2.2, ?_⟩
  · obtain ⟨j, hj, rfl⟩ := List.getElem_of_mem hd
    have a1 := h1.1 j _ hj (List.getElem?_eq_getElem hj); have a2 := h2.1 j _ hj (List.getElem?_eq_getElem hj)
    have a3 := h3.1 j _ hj (List.getElem?_eq_getElem hj); have a4 := h4.1 j _ hj (List.getElem?_eq_getElem hj)
    omega
  · obtain ⟨d, hd, he⟩ := mm h3.2
    exact ⟨d, hd, by omega⟩
  · obtain ⟨d, hd, he⟩ := mm h4.2
    exact ⟨d, hd, by omega⟩
theorem le_on {ds : List Dt} {i : Nat} {v : Int} (h : ∀ d ∈ ds, d.ok) (hl : (LeP Dt.x ds i v ∨ LeP Dt.y ds i v) ∨ GeP Dt.x ds i v ∨ GeP Dt.y ds i v) : 0 ≤ v ∧ v ≤ 4095 := by
  have mm : ∀ {f : Dt → Int}, (f = Dt.x ∨ f = Dt.y) → (∃ (j : Nat) (d : Dt), ds[j]? = some d ∧ f d = v) → 0 ≤ v ∧ v ≤ 4095 := fun hf h5 => by
    obtain ⟨j, d, hd, he⟩ := h5
    have h6 := (h d (List.mem_of_getElem? hd)).1
    rcases hf with rfl | rfl <;> omega
  rcases hl with (h1 | h1) | h1 | h1
  · exact mm (.inl rfl) h1.2
  · exact mm (.inr rfl) h1.2
  · exact mm (.inl rfl) h1.2
  · exact mm (.inr rfl) h1.2
set_option maxRecDepth 100000 in
set_option maxHeartbeats 8000000 in
theorem pbox_yes (P N : Int) (ds : List Dt) (A : Option Addr) (c : Nat) (w : World) (hA : Dz w A ds) (hz : ds.length ≤ 9000000000000000000) (hv : Vd P N ds) :
    Calls Tryd.prog 79 #[.agg #[.int .i64 P, .int .i64 N, .slice A ds.length c]] w fun e w' => ∃ x y ww h, IsBox ds x y ww h ∧ e = .returned (.tuple #[.agg #[.int .i64 x, .int .i64 y, .int .i64 ww, .int .i64 h], .int .i64 0]) ∧ Below w.heap.size w w' := by
  have hl := hv.2.2.1
  obtain ⟨b, o, rfl⟩ := hA.some (by omega)
  have HAT := Lib.hid hA.at
  have HV := Lib.hid (fun W (hb : Below w.heap.size w W) => pvalid_yes P N ds _ c W (hA.below hb (Nat.le_refl _)) hz hv)
  have HOK := Lib.hid hv.mem
  have HLN := Lib.hid hl
  obtain ⟨f, hf⟩ : ∃ d, ds[0]? = some d := ⟨_, List.getElem?_eq_getElem (by omega)⟩
  have HD : Hid (∀ W, Below w.heap.size w W → W.cell? ⟨b, o, none⟩ = some (.int .i64 f.x) ∧ W.cell? ⟨b, o + 1, none⟩ = some (.int .i64 f.y) ∧ W.cell? ⟨b, o + 2, none⟩ = some (.int .i64 f.t) ∧ W.cell? ⟨b, o + 3, none⟩ = some (.int .i64 f.p)) := Lib.hid (fun W hb => by
    have h9 := HAT.out W hb 0 (by omega)
    rw [List.getElem?_eq_getElem (by omega), Option.some.injEq] at hf
    rw [hf] at h9
    simpa using h9)
  have HP1 := Lib.hid (fun W => pplace_any f.x f.y f.t f.p W)
  have HF := Lib.hid hf
  have q0 : (0 : Int) < (ds.length : Int) := by omega
  have q0n : 0 < ds.length := by omega
  clear hA hz hv hl hf
  have S_0 : Hid (Blk ((w.alloc (.cells #[.int .i64 P, .int .i64 N, .slice (some ⟨b, o, none⟩) ds.length c] 26)).alloc (.cells #[.int .i64 0, .int .i64 0, .int .i64 0, .int .i64 0] 38)) w.heap.size 26 #[.int .i64 P, .int .i64 N, .slice (some ⟨b, o, none⟩) ds.length c]) := allocs_blk [(#[.int .i64 P, .int .i64 N, .slice (some ⟨b, o, none⟩) ds.length c], 26), (#[.int .i64 0, .int .i64 0, .int .i64 0, .int .i64 0], 38)] w 0 _ rfl
  have U_0 : Hid (Blk ((w.alloc (.cells #[.int .i64 P, .int .i64 N, .slice (some ⟨b, o, none⟩) ds.length c] 26)).alloc (.cells #[.int .i64 0, .int .i64 0, .int .i64 0, .int .i64 0] 38)) (w.heap.size + 1) 38 #[.int .i64 0, .int .i64 0, .int .i64 0, .int .i64 0]) := allocs_blk [(#[.int .i64 P, .int .i64 N, .slice (some ⟨b, o, none⟩) ds.length c], 26), (#[.int .i64 0, .int .i64 0, .int .i64 0, .int .i64 0], 38)] w 1 _ rfl
  have HB_0 : Hid (Below w.heap.size w ((w.alloc (.cells #[.int .i64 P, .int .i64 N, .slice (some ⟨b, o, none⟩) ds.length c] 26)).alloc (.cells #[.int .i64 0, .int .i64 0, .int .i64 0, .int .i64 0] 38))) := allocs_below [(#[.int .i64 P, .int .i64 N, .slice (some ⟨b, o, none⟩) ds.length c], 26), (#[.int .i64 0, .int .i64 0, .int .i64 0, .int .i64 0], 38)] w (Below.refl w.heap.size w) (Nat.le_refl _)
  go_enter Tryd.func79, Tryd.ntmps79
  have yy0 := S_0.out.cell (i := 0) (v := .int .i64 P) rfl; have yy1 := S_0.out.cell (i := 1) (v := .int .i64 N) rfl; have yy2 := S_0.out.cell (i := 2) (v := .slice (some ⟨b, o, none⟩) ds.length c) rfl
  go_wp2_with fail
  refine (HV.out _ HB_0.out).mono ?_
  rintro e v0 ⟨rfl, hb⟩
  have LW : Hid (w.heap.size + 1 < v0.heap.size) := Lib.hid (U_0.out.below hb U_0.out.lt).lt
  clear yy0 yy1 yy2
  have S_1 : Hid (Blk v0 w.heap.size 26 #[.int .i64 P, .int .i64 N, .slice (some ⟨b, o, none⟩) ds.length c]) := Lib.hid (S_0.out.below hb S_0.out.lt)
  have U_1 : Hid (Blk v0 (w.heap.size + 1) 38 #[.int .i64 0, .int .i64 0, .int .i64 0, .int .i64 0]) := Lib.hid (U_0.out.below hb U_0.out.lt)
  have HB_1 : Hid (Below w.heap.size w v0) := Lib.hid (HB_0.out.trans (hb.mono HB_0.out.size))
  clear hb S_0 U_0 HB_0
  go_upto_region 3 with fail
  go_cut [4, 5] from 13 to 22 (fun x4 x5 wx => ∃ p4 p5 : Nat, x4 = .pointer (some ⟨p4, 0, none⟩) ∧ x5 = .pointer (some ⟨p5, 0, none⟩) ∧ (w.heap.size + 1 < p4 ∧ w.heap.size + 1 < p5 ∧ p4 ≠ p5) ∧ Below w.heap.size w wx ∧ Blk wx w.heap.size 26 #[.int .i64 P, .int .i64 N, .slice (some ⟨b, o, none⟩) ds.length c] ∧ Blk wx (w.heap.size + 1) 38 #[.int .i64 0, .int .i64 0, .int .i64 0, .int .i64 0] ∧ Blk wx p4 28 #[.int .i64 f.x, .int .i64 f.y] ∧ Blk wx p5 28 #[.int .i64 f.x, .int .i64 f.y])
  case first =>
    refine wp_region_grow (S := (fun w' => w'.cell? ⟨w.heap.size, 2, none⟩ = some (.slice (some ⟨b, o, none⟩) ds.length c) ∧ w'.cell? ⟨b, o, none⟩ = some (.int .i64 f.x) ∧ w'.cell? ⟨b, o + 1, none⟩ = some (.int .i64 f.y) ∧ w'.cell? ⟨b, o + 2, none⟩ = some (.int .i64 f.t) ∧ w'.cell? ⟨b, o + 3, none⟩ = some (.int .i64 f.p))) ((fun w' => Below w.heap.size w w' ∧ Blk w' w.heap.size 26 #[.int .i64 P, .int .i64 N, .slice (some ⟨b, o, none⟩) ds.length c] ∧ Blk w' (w.heap.size + 1) 38 #[.int .i64 0, .int .i64 0, .int .i64 0, .int .i64 0])) (by kernel_rfl) (⟨fun w2 h2 => ⟨(h2.2.1.cell (i := 2) rfl), (HD.out w2 h2.1).1, (HD.out w2 h2.1).2.1, (HD.out w2 h2.1).2.2.1, (HD.out w2 h2.1).2.2.2⟩, fun w2 w3 h2 hb2 => ⟨h2.1.trans (hb2.mono h2.1.size), h2.2.1.below hb2 h2.2.1.lt, h2.2.2.below hb2 h2.2.2.lt⟩⟩) (⟨HB_1.out.drew, S_1.out.drew, U_1.out.drew⟩) (fun hCalm => ?_)
    refine grow_take 0 (some 13) ?_ rfl rfl (by kernel_rfl) (fun _ _ _ h => h) (by kernel_rfl) hCalm ?_ ?_
    rotate_left
    · intro wS hS; (try dsimp only at hS); go_simp <;> with_reducible rfl
    try simp only [Act.put, List.setIfInBounds_toArray, List.set_cons_zero, List.set_cons_succ]
    refine grow_take 1 (some 14) ?_ rfl rfl (by kernel_rfl) (fun _ _ _ h => h) (by kernel_rfl) hCalm ?_ ?_
    rotate_left
    · intro wS hS; (try dsimp only at hS); go_simp <;> with_reducible rfl
    try simp only [Act.put, List.setIfInBounds_toArray, List.set_cons_zero, List.set_cons_succ]
    refine grow_take 2 (some 15) ?_ rfl rfl (by kernel_rfl) (fun _ _ _ h => h) (by kernel_rfl) hCalm ?_ ?_
    rotate_left
    · intro wS hS; (try dsimp only at hS); go_simp <;> with_reducible rfl
    try simp only [Act.put, List.setIfInBounds_toArray, List.set_cons_zero, List.set_cons_succ]
    refine grow_take 3 (some 16) ?_ rfl rfl (by kernel_rfl) (fun _ _ _ h => h) (by kernel_rfl) hCalm ?_ ?_
    rotate_left
    · intro wS hS; (try dsimp only at hS); go_simp <;> with_reducible rfl
    try simp only [Act.put, List.setIfInBounds_toArray, List.set_cons_zero, List.set_cons_succ]
    refine grow_call 4 (some 17) (.agg #[.int .i64 f.x, .int .i64 f.y]) 69 [.tmp 16] #[69] rfl rfl (by kernel_rfl) (fun _ _ _ h => h) (by kernel_rfl) hCalm rfl (enters_of Tryd.func69 (by kernel_rfl) rfl) (fun wz _ => HP1.out wz) (by kernel_rfl) ?_
    try simp only [Act.put, List.setIfInBounds_toArray, List.set_cons_zero, List.set_cons_succ]
    refine grow_take 5 (some 18) ?_ rfl rfl (by kernel_rfl) (fun _ _ _ h => h) (by kernel_rfl) hCalm ?_ ?_
    rotate_left
    · intro wS hS; (try dsimp only at hS); go_simp <;> with_reducible rfl
    try simp only [Act.put, List.setIfInBounds_toArray, List.set_cons_zero, List.set_cons_succ]
    refine grow_take 6 (some 19) ?_ rfl rfl (by kernel_rfl) (fun _ _ _ h => h) (by kernel_rfl) hCalm ?_ ?_
    rotate_left
    · intro wS hS; (try dsimp only at hS); go_simp <;> with_reducible rfl
    try simp only [Act.put, List.setIfInBounds_toArray, List.set_cons_zero, List.set_cons_succ]
    refine grow_take 7 (some 20) ?_ rfl rfl (by kernel_rfl) (fun _ _ _ h => h) (by kernel_rfl) hCalm ?_ ?_
    rotate_left
    · intro wS hS; (try dsimp only at hS); go_simp <;> with_reducible rfl
    try simp only [Act.put, List.setIfInBounds_toArray, List.set_cons_zero, List.set_cons_succ]
    refine grow_take 8 (some 21) ?_ rfl rfl (by kernel_rfl) (fun _ _ _ h => h) (by kernel_rfl) hCalm ?_ ?_
    rotate_left
    · intro wS hS; (try dsimp only at hS); go_simp <;> with_reducible rfl
    try simp only [Act.put, List.setIfInBounds_toArray, List.set_cons_zero, List.set_cons_succ]
    refine grow_call 9 (some 22) (.agg #[.int .i64 f.x, .int .i64 f.y]) 69 [.tmp 21] #[69] rfl rfl (by kernel_rfl) (fun _ _ _ h => h) (by kernel_rfl) hCalm rfl (enters_of Tryd.func69 (by kernel_rfl) rfl) (fun wz _ => HP1.out wz) (by kernel_rfl) ?_
    try simp only [Act.put, List.setIfInBounds_toArray, List.set_cons_zero, List.set_cons_succ]
    refine grow_each [10, 11] (by kernel_rfl) (by decide) ?_
    refine grow_cons 10 rfl (by kernel_rfl) (fun wA hA K hK => ?_) ?_
    case _ =>
      obtain ⟨pX, hpX⟩ : ∃ b, b = wA.heap.size := ⟨_, rfl⟩
      have le_pX : w.heap.size ≤ pX := by rw [hpX]; exact hA.1.size
      have lt_S_pX : w.heap.size < pX := by rw [hpX]; exact hA.2.1.lt
      have lt_U_pX : (w.heap.size + 1) < pX := by rw [hpX]; exact hA.2.2.lt
      have hnew : Blk (wA.alloc (.cells #[.int .i64 0, .int .i64 0] 28)) pX 28 #[.int .i64 0, .int .i64 0] := by rw [hpX]; exact Blk.new wA _ _
      go_simp
      rw [← hpX]
      refine hK.out _ _ (fun w' => Below w.heap.size w w' ∧ Blk w' w.heap.size 26 #[.int .i64 P, .int .i64 N, .slice (some ⟨b, o, none⟩) ds.length c] ∧ Blk w' (w.heap.size + 1) 38 #[.int .i64 0, .int .i64 0, .int .i64 0, .int .i64 0] ∧ Blk w' pX 28 #[.int .i64 0, .int .i64 0]) ⟨fun w2 h2 => ⟨(h2.2.1.cell (i := 2) rfl), (HD.out w2 h2.1).1, (HD.out w2 h2.1).2.1, (HD.out w2 h2.1).2.2.1, (HD.out w2 h2.1).2.2.2⟩, fun w2 w3 h2 hb2 => ⟨h2.1.trans (hb2.mono h2.1.size), h2.2.1.below hb2 h2.2.1.lt, h2.2.2.1.below hb2 h2.2.2.1.lt, h2.2.2.2.below hb2 h2.2.2.2.lt⟩⟩ ⟨hA.1.alloc hA.1.size _, hA.2.1.alloc _, hA.2.2.alloc _, hnew⟩ ?_
      clear hnew hpX hK K hA wA hCalm
      have hCalm : Calm (fun w' => w'.cell? ⟨w.heap.size, 2, none⟩ = some (.slice (some ⟨b, o, none⟩) ds.length c) ∧ w'.cell? ⟨b, o, none⟩ = some (.int .i64 f.x) ∧ w'.cell? ⟨b, o + 1, none⟩ = some (.int .i64 f.y) ∧ w'.cell? ⟨b, o + 2, none⟩ = some (.int .i64 f.t) ∧ w'.cell? ⟨b, o + 3, none⟩ = some (.int .i64 f.p)) (fun w' => Below w.heap.size w w' ∧ Blk w' w.heap.size 26 #[.int .i64 P, .int .i64 N, .slice (some ⟨b, o, none⟩) ds.length c] ∧ Blk w' (w.heap.size + 1) 38 #[.int .i64 0, .int .i64 0, .int .i64 0, .int .i64 0] ∧ Blk w' pX 28 #[.int .i64 0, .int .i64 0]) := ⟨fun w2 h2 => ⟨(h2.2.1.cell (i := 2) rfl), (HD.out w2 h2.1).1, (HD.out w2 h2.1).2.1, (HD.out w2 h2.1).2.2.1, (HD.out w2 h2.1).2.2.2⟩, fun w2 w3 h2 hb2 => ⟨h2.1.trans (hb2.mono h2.1.size), h2.2.1.below hb2 h2.2.1.lt, h2.2.2.1.below hb2 h2.2.2.1.lt, h2.2.2.2.below hb2 h2.2.2.2.lt⟩⟩
      try simp only [Act.put, List.setIfInBounds_toArray, List.set_cons_zero, List.set_cons_succ]
      refine grow_each [11] (by kernel_rfl) (by decide) ?_
      refine grow_cons 11 rfl (by kernel_rfl) (fun wA hA K hK => ?_) grow_nil
      obtain ⟨pY, hpY⟩ : ∃ b, b = wA.heap.size := ⟨_, rfl⟩
      have le_pY : w.heap.size ≤ pY := by rw [hpY]; exact hA.1.size
      have lt_S_pY : w.heap.size < pY := by rw [hpY]; exact hA.2.1.lt
      have lt_U_pY : (w.heap.size + 1) < pY := by rw [hpY]; exact hA.2.2.1.lt
      have lt_X_pY : pX < pY := by rw [hpY]; exact hA.2.2.2.lt
      have hnew : Blk (wA.alloc (.cells #[.int .i64 0, .int .i64 0] 28)) pY 28 #[.int .i64 0, .int .i64 0] := by rw [hpY]; exact Blk.new wA _ _
      go_simp
      rw [← hpY]
      refine hK.out _ _ (fun w' => Below w.heap.size w w' ∧ Blk w' w.heap.size 26 #[.int .i64 P, .int .i64 N, .slice (some ⟨b, o, none⟩) ds.length c] ∧ Blk w' (w.heap.size + 1) 38 #[.int .i64 0, .int .i64 0, .int .i64 0, .int .i64 0] ∧ Blk w' pX 28 #[.int .i64 0, .int .i64 0] ∧ Blk w' pY 28 #[.int .i64 0, .int .i64 0]) ⟨fun w2 h2 => ⟨(h2.2.1.cell (i := 2) rfl), (HD.out w2 h2.1).1, (HD.out w2 h2.1).2.1, (HD.out w2 h2.1).2.2.1, (HD.out w2 h2.1).2.2.2⟩, fun w2 w3 h2 hb2 => ⟨h2.1.trans (hb2.mono h2.1.size), h2.2.1.below hb2 h2.2.1.lt, h2.2.2.1.below hb2 h2.2.2.1.lt, h2.2.2.2.1.below hb2 h2.2.2.2.1.lt, h2.2.2.2.2.below hb2 h2.2.2.2.2.lt⟩⟩ ⟨hA.1.alloc hA.1.size _, hA.2.1.alloc _, hA.2.2.1.alloc _, hA.2.2.2.alloc _, hnew⟩ ?_
      clear hnew hpY hK K hA wA hCalm
      have hCalm : Calm (fun w' => w'.cell? ⟨w.heap.size, 2, none⟩ = some (.slice (some ⟨b, o, none⟩) ds.length c) ∧ w'.cell? ⟨b, o, none⟩ = some (.int .i64 f.x) ∧ w'.cell? ⟨b, o + 1, none⟩ = some (.int .i64 f.y) ∧ w'.cell? ⟨b, o + 2, none⟩ = some (.int .i64 f.t) ∧ w'.cell? ⟨b, o + 3, none⟩ = some (.int .i64 f.p)) (fun w' => Below w.heap.size w w' ∧ Blk w' w.heap.size 26 #[.int .i64 P, .int .i64 N, .slice (some ⟨b, o, none⟩) ds.length c] ∧ Blk w' (w.heap.size + 1) 38 #[.int .i64 0, .int .i64 0, .int .i64 0, .int .i64 0] ∧ Blk w' pX 28 #[.int .i64 0, .int .i64 0] ∧ Blk w' pY 28 #[.int .i64 0, .int .i64 0]) := ⟨fun w2 h2 => ⟨(h2.2.1.cell (i := 2) rfl), (HD.out w2 h2.1).1, (HD.out w2 h2.1).2.1, (HD.out w2 h2.1).2.2.1, (HD.out w2 h2.1).2.2.2⟩, fun w2 w3 h2 hb2 => ⟨h2.1.trans (hb2.mono h2.1.size), h2.2.1.below hb2 h2.2.1.lt, h2.2.2.1.below hb2 h2.2.2.1.lt, h2.2.2.2.1.below hb2 h2.2.2.2.1.lt, h2.2.2.2.2.below hb2 h2.2.2.2.2.lt⟩⟩
      try simp only [Act.put, List.setIfInBounds_toArray, List.set_cons_zero, List.set_cons_succ]
      refine grow_each [12] (by kernel_rfl) (by decide) ?_
      refine grow_cons 12 rfl (by kernel_rfl) (fun wA hA K hK => ?_) grow_nil
      have z0 := hA.2.2.2.1.cell (i := 0) (v := .int .i64 0) rfl; have f0 := hA.2.2.2.1.frozen 0
      have z1 := hA.2.2.2.1.cell (i := 1) (v := .int .i64 0) rfl; have f1 := hA.2.2.2.1.frozen 1
      go_simp
      refine hK.out _ _ (fun w' => Below w.heap.size w w' ∧ Blk w' w.heap.size 26 #[.int .i64 P, .int .i64 N, .slice (some ⟨b, o, none⟩) ds.length c] ∧ Blk w' (w.heap.size + 1) 38 #[.int .i64 0, .int .i64 0, .int .i64 0, .int .i64 0] ∧ Blk w' pX 28 #[.int .i64 f.x, .int .i64 f.y] ∧ Blk w' pY 28 #[.int .i64 0, .int .i64 0]) ⟨fun w2 h2 => ⟨(h2.2.1.cell (i := 2) rfl), (HD.out w2 h2.1).1, (HD.out w2 h2.1).2.1, (HD.out w2 h2.1).2.2.1, (HD.out w2 h2.1).2.2.2⟩, fun w2 w3 h2 hb2 => ⟨h2.1.trans (hb2.mono h2.1.size), h2.2.1.below hb2 h2.2.1.lt, h2.2.2.1.below hb2 h2.2.2.1.lt, h2.2.2.2.1.below hb2 h2.2.2.2.1.lt, h2.2.2.2.2.below hb2 h2.2.2.2.2.lt⟩⟩ ⟨((hA.1.setCell (p := ⟨pX, 0, none⟩) (by show w.heap.size ≤ pX; omega) _).setCell (p := ⟨pX, 1, none⟩) (by show w.heap.size ≤ pX; omega) _), ((hA.2.1.far (p := ⟨pX, 0, none⟩) (by show w.heap.size ≠ pX; omega) _).far (p := ⟨pX, 1, none⟩) (by show w.heap.size ≠ pX; omega) _), ((hA.2.2.1.far (p := ⟨pX, 0, none⟩) (by show (w.heap.size + 1) ≠ pX; omega) _).far (p := ⟨pX, 1, none⟩) (by show (w.heap.size + 1) ≠ pX; omega) _), ((hA.2.2.2.1.set 0 _).set 1 _), ((hA.2.2.2.2.far (p := ⟨pX, 0, none⟩) (by show pY ≠ pX; omega) _).far (p := ⟨pX, 1, none⟩) (by show pY ≠ pX; omega) _)⟩ ?_
      clear z0 f0 z1 f1 hK K hA wA hCalm
      have hCalm : Calm (fun w' => w'.cell? ⟨w.heap.size, 2, none⟩ = some (.slice (some ⟨b, o, none⟩) ds.length c) ∧ w'.cell? ⟨b, o, none⟩ = some (.int .i64 f.x) ∧ w'.cell? ⟨b, o + 1, none⟩ = some (.int .i64 f.y) ∧ w'.cell? ⟨b, o + 2, none⟩ = some (.int .i64 f.t) ∧ w'.cell? ⟨b, o + 3, none⟩ = some (.int .i64 f.p)) (fun w' => Below w.heap.size w w' ∧ Blk w' w.heap.size 26 #[.int .i64 P, .int .i64 N, .slice (some ⟨b, o, none⟩) ds.length c] ∧ Blk w' (w.heap.size + 1) 38 #[.int .i64 0, .int .i64 0, .int .i64 0, .int .i64 0] ∧ Blk w' pX 28 #[.int .i64 f.x, .int .i64 f.y] ∧ Blk w' pY 28 #[.int .i64 0, .int .i64 0]) := ⟨fun w2 h2 => ⟨(h2.2.1.cell (i := 2) rfl), (HD.out w2 h2.1).1, (HD.out w2 h2.1).2.1, (HD.out w2 h2.1).2.2.1, (HD.out w2 h2.1).2.2.2⟩, fun w2 w3 h2 hb2 => ⟨h2.1.trans (hb2.mono h2.1.size), h2.2.1.below hb2 h2.2.1.lt, h2.2.2.1.below hb2 h2.2.2.1.lt, h2.2.2.2.1.below hb2 h2.2.2.2.1.lt, h2.2.2.2.2.below hb2 h2.2.2.2.2.lt⟩⟩
      try simp only [Act.put]
      refine grow_each [13] (by kernel_rfl) (by decide) ?_
      refine grow_cons 13 rfl (by kernel_rfl) (fun wA hA K hK => ?_) grow_nil
      have z0 := hA.2.2.2.2.cell (i := 0) (v := .int .i64 0) rfl; have f0 := hA.2.2.2.2.frozen 0
      have z1 := hA.2.2.2.2.cell (i := 1) (v := .int .i64 0) rfl; have f1 := hA.2.2.2.2.frozen 1
      go_simp
      refine hK.out _ _ (fun w' => Below w.heap.size w w' ∧ Blk w' w.heap.size 26 #[.int .i64 P, .int .i64 N, .slice (some ⟨b, o, none⟩) ds.length c] ∧ Blk w' (w.heap.size + 1) 38 #[.int .i64 0, .int .i64 0, .int .i64 0, .int .i64 0] ∧ Blk w' pX 28 #[.int .i64 f.x, .int .i64 f.y] ∧ Blk w' pY 28 #[.int .i64 f.x, .int .i64 f.y]) ⟨fun w2 h2 => ⟨(h2.2.1.cell (i := 2) rfl), (HD.out w2 h2.1).1, (HD.out w2 h2.1).2.1, (HD.out w2 h2.1).2.2.1, (HD.out w2 h2.1).2.2.2⟩, fun w2 w3 h2 hb2 => ⟨h2.1.trans (hb2.mono h2.1.size), h2.2.1.below hb2 h2.2.1.lt, h2.2.2.1.below hb2 h2.2.2.1.lt, h2.2.2.2.1.below hb2 h2.2.2.2.1.lt, h2.2.2.2.2.below hb2 h2.2.2.2.2.lt⟩⟩ ⟨((hA.1.setCell (p := ⟨pY, 0, none⟩) (by show w.heap.size ≤ pY; omega) _).setCell (p := ⟨pY, 1, none⟩) (by show w.heap.size ≤ pY; omega) _), ((hA.2.1.far (p := ⟨pY, 0, none⟩) (by show w.heap.size ≠ pY; omega) _).far (p := ⟨pY, 1, none⟩) (by show w.heap.size ≠ pY; omega) _), ((hA.2.2.1.far (p := ⟨pY, 0, none⟩) (by show (w.heap.size + 1) ≠ pY; omega) _).far (p := ⟨pY, 1, none⟩) (by show (w.heap.size + 1) ≠ pY; omega) _), ((hA.2.2.2.1.far (p := ⟨pY, 0, none⟩) (by show pX ≠ pY; omega) _).far (p := ⟨pY, 1, none⟩) (by show pX ≠ pY; omega) _), ((hA.2.2.2.2.set 0 _).set 1 _)⟩ ?_
      clear z0 f0 z1 f1 hK K hA wA hCalm
      have hCalm : Calm (fun w' => w'.cell? ⟨w.heap.size, 2, none⟩ = some (.slice (some ⟨b, o, none⟩) ds.length c) ∧ w'.cell? ⟨b, o, none⟩ = some (.int .i64 f.x) ∧ w'.cell? ⟨b, o + 1, none⟩ = some (.int .i64 f.y) ∧ w'.cell? ⟨b, o + 2, none⟩ = some (.int .i64 f.t) ∧ w'.cell? ⟨b, o + 3, none⟩ = some (.int .i64 f.p)) (fun w' => Below w.heap.size w w' ∧ Blk w' w.heap.size 26 #[.int .i64 P, .int .i64 N, .slice (some ⟨b, o, none⟩) ds.length c] ∧ Blk w' (w.heap.size + 1) 38 #[.int .i64 0, .int .i64 0, .int .i64 0, .int .i64 0] ∧ Blk w' pX 28 #[.int .i64 f.x, .int .i64 f.y] ∧ Blk w' pY 28 #[.int .i64 f.x, .int .i64 f.y]) := ⟨fun w2 h2 => ⟨(h2.2.1.cell (i := 2) rfl), (HD.out w2 h2.1).1, (HD.out w2 h2.1).2.1, (HD.out w2 h2.1).2.2.1, (HD.out w2 h2.1).2.2.2⟩, fun w2 w3 h2 hb2 => ⟨h2.1.trans (hb2.mono h2.1.size), h2.2.1.below hb2 h2.2.1.lt, h2.2.2.1.below hb2 h2.2.2.1.lt, h2.2.2.2.1.below hb2 h2.2.2.2.1.lt, h2.2.2.2.2.below hb2 h2.2.2.2.2.lt⟩⟩
      try simp only [Act.put]
      refine grow_done (by kernel_rfl) (fun wA hA => ?_) _
      go_wp2_with fail
      go_meet
      exact ⟨pX, pY, rfl, rfl, ⟨by omega, by omega, by omega⟩, hA.1, hA.2.1, hA.2.2.1, hA.2.2.2.1, hA.2.2.2.2⟩
    refine grow_cons 11 rfl (by kernel_rfl) (fun wA hA K hK => ?_) ?_
    case _ =>
      obtain ⟨pY, hpY⟩ : ∃ b, b = wA.heap.size := ⟨_, rfl⟩
      have le_pY : w.heap.size ≤ pY := by rw [hpY]; exact hA.1.size
      have lt_S_pY : w.heap.size < pY := by rw [hpY]; exact hA.2.1.lt
      have lt_U_pY : (w.heap.size + 1) < pY := by rw [hpY]; exact hA.2.2.lt
      have hnew : Blk (wA.alloc (.cells #[.int .i64 0, .int .i64 0] 28)) pY 28 #[.int .i64 0, .int .i64 0] := by rw [hpY]; exact Blk.new wA _ _
      go_simp
      rw [← hpY]
      refine hK.out _ _ (fun w' => Below w.heap.size w w' ∧ Blk w' w.heap.size 26 #[.int .i64 P, .int .i64 N, .slice (some ⟨b, o, none⟩) ds.length c] ∧ Blk w' (w.heap.size + 1) 38 #[.int .i64 0, .int .i64 0, .int .i64 0, .int .i64 0] ∧ Blk w' pY 28 #[.int .i64 0, .int .i64 0]) ⟨fun w2 h2 => ⟨(h2.2.1.cell (i := 2) rfl), (HD.out w2 h2.1).1, (HD.out w2 h2.1).2.1, (HD.out w2 h2.1).2.2.1, (HD.out w2 h2.1).2.2.2⟩, fun w2 w3 h2 hb2 => ⟨h2.1.trans (hb2.mono h2.1.size), h2.2.1.below hb2 h2.2.1.lt, h2.2.2.1.below hb2 h2.2.2.1.lt, h2.2.2.2.below hb2 h2.2.2.2.lt⟩⟩ ⟨hA.1.alloc hA.1.size _, hA.2.1.alloc _, hA.2.2.alloc _, hnew⟩ ?_
      clear hnew hpY hK K hA wA hCalm
      have hCalm : Calm (fun w' => w'.cell? ⟨w.heap.size, 2, none⟩ = some (.slice (some ⟨b, o, none⟩) ds.length c) ∧ w'.cell? ⟨b, o, none⟩ = some (.int .i64 f.x) ∧ w'.cell? ⟨b, o + 1, none⟩ = some (.int .i64 f.y) ∧ w'.cell? ⟨b, o + 2, none⟩ = some (.int .i64 f.t) ∧ w'.cell? ⟨b, o + 3, none⟩ = some (.int .i64 f.p)) (fun w' => Below w.heap.size w w' ∧ Blk w' w.heap.size 26 #[.int .i64 P, .int .i64 N, .slice (some ⟨b, o, none⟩) ds.length c] ∧ Blk w' (w.heap.size + 1) 38 #[.int .i64 0, .int .i64 0, .int .i64 0, .int .i64 0] ∧ Blk w' pY 28 #[.int .i64 0, .int .i64 0]) := ⟨fun w2 h2 => ⟨(h2.2.1.cell (i := 2) rfl), (HD.out w2 h2.1).1, (HD.out w2 h2.1).2.1, (HD.out w2 h2.1).2.2.1, (HD.out w2 h2.1).2.2.2⟩, fun w2 w3 h2 hb2 => ⟨h2.1.trans (hb2.mono h2.1.size), h2.2.1.below hb2 h2.2.1.lt, h2.2.2.1.below hb2 h2.2.2.1.lt, h2.2.2.2.below hb2 h2.2.2.2.lt⟩⟩
      try simp only [Act.put, List.setIfInBounds_toArray, List.set_cons_zero, List.set_cons_succ]
      refine grow_each [10] (by kernel_rfl) (by decide) ?_
      refine grow_cons 10 rfl (by kernel_rfl) (fun wA hA K hK => ?_) grow_nil
      obtain ⟨pX, hpX⟩ : ∃ b, b = wA.heap.size := ⟨_, rfl⟩
      have le_pX : w.heap.size ≤ pX := by rw [hpX]; exact hA.1.size
      have lt_S_pX : w.heap.size < pX := by rw [hpX]; exact hA.2.1.lt
      have lt_U_pX : (w.heap.size + 1) < pX := by rw [hpX]; exact hA.2.2.1.lt
      have lt_Y_pX : pY < pX := by rw [hpX]; exact hA.2.2.2.lt
      have hnew : Blk (wA.alloc (.cells #[.int .i64 0, .int .i64 0] 28)) pX 28 #[.int .i64 0, .int .i64 0] := by rw [hpX]; exact Blk.new wA _ _
      go_simp
      rw [← hpX]
      refine hK.out _ _ (fun w' => Below w.heap.size w w' ∧ Blk w' w.heap.size 26 #[.int .i64 P, .int .i64 N, .slice (some ⟨b, o, none⟩) ds.length c] ∧ Blk w' (w.heap.size + 1) 38 #[.int .i64 0, .int .i64 0, .int .i64 0, .int .i64 0] ∧ Blk w' pY 28 #[.int .i64 0, .int .i64 0] ∧ Blk w' pX 28 #[.int .i64 0, .int .i64 0]) ⟨fun w2 h2 => ⟨(h2.2.1.cell (i := 2) rfl), (HD.out w2 h2.1).1, (HD.out w2 h2.1).2.1, (HD.out w2 h2.1).2.2.1, (HD.out w2 h2.1).2.2.2⟩, fun w2 w3 h2 hb2 => ⟨h2.1.trans (hb2.mono h2.1.size), h2.2.1.below hb2 h2.2.1.lt, h2.2.2.1.below hb2 h2.2.2.1.lt, h2.2.2.2.1.below hb2 h2.2.2.2.1.lt, h2.2.2.2.2.below hb2 h2.2.2.2.2.lt⟩⟩ ⟨hA.1.alloc hA.1.size _, hA.2.1.alloc _, hA.2.2.1.alloc _, hA.2.2.2.alloc _, hnew⟩ ?_
      clear hnew hpX hK K hA wA hCalm
      have hCalm : Calm (fun w' => w'.cell? ⟨w.heap.size, 2, none⟩ = some (.slice (some ⟨b, o, none⟩) ds.length c) ∧ w'.cell? ⟨b, o, none⟩ = some (.int .i64 f.x) ∧ w'.cell? ⟨b, o + 1, none⟩ = some (.int .i64 f.y) ∧ w'.cell? ⟨b, o + 2, none⟩ = some (.int .i64 f.t) ∧ w'.cell? ⟨b, o + 3, none⟩ = some (.int .i64 f.p)) (fun w' => Below w.heap.size w w' ∧ Blk w' w.heap.size 26 #[.int .i64 P, .int .i64 N, .slice (some ⟨b, o, none⟩) ds.length c] ∧ Blk w' (w.heap.size + 1) 38 #[.int .i64 0, .int .i64 0, .int .i64 0, .int .i64 0] ∧ Blk w' pY 28 #[.int .i64 0, .int .i64 0] ∧ Blk w' pX 28 #[.int .i64 0, .int .i64 0]) := ⟨fun w2 h2 => ⟨(h2.2.1.cell (i := 2) rfl), (HD.out w2 h2.1).1, (HD.out w2 h2.1).2.1, (HD.out w2 h2.1).2.2.1, (HD.out w2 h2.1).2.2.2⟩, fun w2 w3 h2 hb2 => ⟨h2.1.trans (hb2.mono h2.1.size), h2.2.1.below hb2 h2.2.1.lt, h2.2.2.1.below hb2 h2.2.2.1.lt, h2.2.2.2.1.below hb2 h2.2.2.2.1.lt, h2.2.2.2.2.below hb2 h2.2.2.2.2.lt⟩⟩
      try simp only [Act.put, List.setIfInBounds_toArray, List.set_cons_zero, List.set_cons_succ]
      refine grow_each [12] (by kernel_rfl) (by decide) ?_
      refine grow_cons 12 rfl (by kernel_rfl) (fun wA hA K hK => ?_) grow_nil
      have z0 := hA.2.2.2.2.cell (i := 0) (v := .int .i64 0) rfl; have f0 := hA.2.2.2.2.frozen 0
      have z1 := hA.2.2.2.2.cell (i := 1) (v := .int .i64 0) rfl; have f1 := hA.2.2.2.2.frozen 1
      go_simp
      refine hK.out _ _ (fun w' => Below w.heap.size w w' ∧ Blk w' w.heap.size 26 #[.int .i64 P, .int .i64 N, .slice (some ⟨b, o, none⟩) ds.length c] ∧ Blk w' (w.heap.size + 1) 38 #[.int .i64 0, .int .i64 0, .int .i64 0, .int .i64 0] ∧ Blk w' pY 28 #[.int .i64 0, .int .i64 0] ∧ Blk w' pX 28 #[.int .i64 f.x, .int .i64 f.y]) ⟨fun w2 h2 => ⟨(h2.2.1.cell (i := 2) rfl), (HD.out w2 h2.1).1, (HD.out w2 h2.1).2.1, (HD.out w2 h2.1).2.2.1, (HD.out w2 h2.1).2.2.2⟩, fun w2 w3 h2 hb2 => ⟨h2.1.trans (hb2.mono h2.1.size), h2.2.1.below hb2 h2.2.1.lt, h2.2.2.1.below hb2 h2.2.2.1.lt, h2.2.2.2.1.below hb2 h2.2.2.2.1.lt, h2.2.2.2.2.below hb2 h2.2.2.2.2.lt⟩⟩ ⟨((hA.1.setCell (p := ⟨pX, 0, none⟩) (by show w.heap.size ≤ pX; omega) _).setCell (p := ⟨pX, 1, none⟩) (by show w.heap.size ≤ pX; omega) _), ((hA.2.1.far (p := ⟨pX, 0, none⟩) (by show w.heap.size ≠ pX; omega) _).far (p := ⟨pX, 1, none⟩) (by show w.heap.size ≠ pX; omega) _), ((hA.2.2.1.far (p := ⟨pX, 0, none⟩) (by show (w.heap.size + 1) ≠ pX; omega) _).far (p := ⟨pX, 1, none⟩) (by show (w.heap.size + 1) ≠ pX; omega) _), ((hA.2.2.2.1.far (p := ⟨pX, 0, none⟩) (by show pY ≠ pX; omega) _).far (p := ⟨pX, 1, none⟩) (by show pY ≠ pX; omega) _), ((hA.2.2.2.2.set 0 _).set 1 _)⟩ ?_
      clear z0 f0 z1 f1 hK K hA wA hCalm
      have hCalm : Calm (fun w' => w'.cell? ⟨w.heap.size, 2, none⟩ = some (.slice (some ⟨b, o, none⟩) ds.length c) ∧ w'.cell? ⟨b, o, none⟩ = some (.int .i64 f.x) ∧ w'.cell? ⟨b, o + 1, none⟩ = some (.int .i64 f.y) ∧ w'.cell? ⟨b, o + 2, none⟩ = some (.int .i64 f.t) ∧ w'.cell? ⟨b, o + 3, none⟩ = some (.int .i64 f.p)) (fun w' => Below w.heap.size w w' ∧ Blk w' w.heap.size 26 #[.int .i64 P, .int .i64 N, .slice (some ⟨b, o, none⟩) ds.length c] ∧ Blk w' (w.heap.size + 1) 38 #[.int .i64 0, .int .i64 0, .int .i64 0, .int .i64 0] ∧ Blk w' pY 28 #[.int .i64 0, .int .i64 0] ∧ Blk w' pX 28 #[.int .i64 f.x, .int .i64 f.y]) := ⟨fun w2 h2 => ⟨(h2.2.1.cell (i := 2) rfl), (HD.out w2 h2.1).1, (HD.out w2 h2.1).2.1, (HD.out w2 h2.1).2.2.1, (HD.out w2 h2.1).2.2.2⟩, fun w2 w3 h2 hb2 => ⟨h2.1.trans (hb2.mono h2.1.size), h2.2.1.below hb2 h2.2.1.lt, h2.2.2.1.below hb2 h2.2.2.1.lt, h2.2.2.2.1.below hb2 h2.2.2.2.1.lt, h2.2.2.2.2.below hb2 h2.2.2.2.2.lt⟩⟩
      try simp only [Act.put]
      refine grow_each [13] (by kernel_rfl) (by decide) ?_
      refine grow_cons 13 rfl (by kernel_rfl) (fun wA hA K hK => ?_) grow_nil
      have z0 := hA.2.2.2.1.cell (i := 0) (v := .int .i64 0) rfl; have f0 := hA.2.2.2.1.frozen 0
      have z1 := hA.2.2.2.1.cell (i := 1) (v := .int .i64 0) rfl; have f1 := hA.2.2.2.1.frozen 1
      go_simp
      refine hK.out _ _ (fun w' => Below w.heap.size w w' ∧ Blk w' w.heap.size 26 #[.int .i64 P, .int .i64 N, .slice (some ⟨b, o, none⟩) ds.length c] ∧ Blk w' (w.heap.size + 1) 38 #[.int .i64 0, .int .i64 0, .int .i64 0, .int .i64 0] ∧ Blk w' pY 28 #[.int .i64 f.x, .int .i64 f.y] ∧ Blk w' pX 28 #[.int .i64 f.x, .int .i64 f.y]) ⟨fun w2 h2 => ⟨(h2.2.1.cell (i := 2) rfl), (HD.out w2 h2.1).1, (HD.out w2 h2.1).2.1, (HD.out w2 h2.1).2.2.1, (HD.out w2 h2.1).2.2.2⟩, fun w2 w3 h2 hb2 => ⟨h2.1.trans (hb2.mono h2.1.size), h2.2.1.below hb2 h2.2.1.lt, h2.2.2.1.below hb2 h2.2.2.1.lt, h2.2.2.2.1.below hb2 h2.2.2.2.1.lt, h2.2.2.2.2.below hb2 h2.2.2.2.2.lt⟩⟩ ⟨((hA.1.setCell (p := ⟨pY, 0, none⟩) (by show w.heap.size ≤ pY; omega) _).setCell (p := ⟨pY, 1, none⟩) (by show w.heap.size ≤ pY; omega) _), ((hA.2.1.far (p := ⟨pY, 0, none⟩) (by show w.heap.size ≠ pY; omega) _).far (p := ⟨pY, 1, none⟩) (by show w.heap.size ≠ pY; omega) _), ((hA.2.2.1.far (p := ⟨pY, 0, none⟩) (by show (w.heap.size + 1) ≠ pY; omega) _).far (p := ⟨pY, 1, none⟩) (by show (w.heap.size + 1) ≠ pY; omega) _), ((hA.2.2.2.1.set 0 _).set 1 _), ((hA.2.2.2.2.far (p := ⟨pY, 0, none⟩) (by show pX ≠ pY; omega) _).far (p := ⟨pY, 1, none⟩) (by show pX ≠ pY; omega) _)⟩ ?_
      clear z0 f0 z1 f1 hK K hA wA hCalm
      have hCalm : Calm (fun w' => w'.cell? ⟨w.heap.size, 2, none⟩ = some (.slice (some ⟨b, o, none⟩) ds.length c) ∧ w'.cell? ⟨b, o, none⟩ = some (.int .i64 f.x) ∧ w'.cell? ⟨b, o + 1, none⟩ = some (.int .i64 f.y) ∧ w'.cell? ⟨b, o + 2, none⟩ = some (.int .i64 f.t) ∧ w'.cell? ⟨b, o + 3, none⟩ = some (.int .i64 f.p)) (fun w' => Below w.heap.size w w' ∧ Blk w' w.heap.size 26 #[.int .i64 P, .int .i64 N, .slice (some ⟨b, o, none⟩) ds.length c] ∧ Blk w' (w.heap.size + 1) 38 #[.int .i64 0, .int .i64 0, .int .i64 0, .int .i64 0] ∧ Blk w' pY 28 #[.int .i64 f.x, .int .i64 f.y] ∧ Blk w' pX 28 #[.int .i64 f.x, .int .i64 f.y]) := ⟨fun w2 h2 => ⟨(h2.2.1.cell (i := 2) rfl), (HD.out w2 h2.1).1, (HD.out w2 h2.1).2.1, (HD.out w2 h2.1).2.2.1, (HD.out w2 h2.1).2.2.2⟩, fun w2 w3 h2 hb2 => ⟨h2.1.trans (hb2.mono h2.1.size), h2.2.1.below hb2 h2.2.1.lt, h2.2.2.1.below hb2 h2.2.2.1.lt, h2.2.2.2.1.below hb2 h2.2.2.2.1.lt, h2.2.2.2.2.below hb2 h2.2.2.2.2.lt⟩⟩
      try simp only [Act.put]
      refine grow_done (by kernel_rfl) (fun wA hA => ?_) _
      go_wp2_with fail
      go_meet
      exact ⟨pX, pY, rfl, rfl, ⟨by omega, by omega, by omega⟩, hA.1, hA.2.1, hA.2.2.1, hA.2.2.2.2, hA.2.2.2.1⟩
    exact grow_nil
  case rest =>
    obtain ⟨p4, p5, rfl, rfl, hpp, hB, hS, hU, h4, h5⟩ := hcut
    rename World => wc
    have HPP := Lib.hid hpp; clear HB_1 S_1 U_1 hpp
    have HB := Lib.hid hB; have HS := Lib.hid hS; have HU := Lib.hid hU; have H4 := Lib.hid h4; have H5 := Lib.hid h5; clear hB hS hU h4 h5
    have HST : Hid (LeP Dt.x ds 0 f.x ∧ LeP Dt.y ds 0 f.y ∧ GeP Dt.x ds 0 f.x ∧ GeP Dt.y ds 0 f.y) := Lib.hid ⟨⟨fun j d hj => absurd hj (by omega), 0, f, HF.out, rfl⟩, ⟨fun j d hj => absurd hj (by omega), 0, f, HF.out, rfl⟩, ⟨fun j d hj => absurd hj (by omega), 0, f, HF.out, rfl⟩, ⟨fun j d hj => absurd hj (by omega), 0, f, HF.out, rfl⟩⟩
    have yS := HS.out.cell (i := 2) (v := .slice (some ⟨b, o, none⟩) ds.length c) rfl
    go_wp2_with fail
    clear yS
    go_loopw [26] (fun ii wr => ∃ (i : Nat) (lx ly gx gy : Int), ii = .int .i64 i ∧ i ≤ ds.length ∧ (LeP Dt.x ds i lx ∧ LeP Dt.y ds i ly ∧ GeP Dt.x ds i gx ∧ GeP Dt.y ds i gy) ∧ Below w.heap.size w wr ∧ Blk wr (w.heap.size + 1) 38 #[.int .i64 0, .int .i64 0, .int .i64 0, .int .i64 0] ∧ Blk wr p4 28 #[.int .i64 lx, .int .i64 ly] ∧ Blk wr p5 28 #[.int .i64 gx, .int .i64 gy]) (fun ii _ => ds.length - (intOf ii).toNat)
    case atStart => exact ⟨0, _, _, _, _, rfl, Nat.zero_le _, HST.out, HB.out, HU.out, H4.out, H5.out⟩
    case round =>
      clear HB HS HU H4 H5 HST
      obtain ⟨i, lx, ly, gx, gy, rfl, hi, hinv, hB, hU, h4, h5⟩ := hrel
      have HB := Lib.hid hB; have HU := Lib.hid hU; have H4 := Lib.hid h4; have H5 := Lib.hid h5; have HINV := Lib.hid hinv; clear hB hU h4 h5 hinv
      by_cases hlt : i < ds.length
      case neg =>
        obtain rfl : i = ds.length := by omega
        have HBX := Lib.hid (isBox_ends HINV.out.1 HINV.out.2.1 HINV.out.2.2.1 HINV.out.2.2.2)
        have o1 := le_on HOK.out (.inl (.inl HINV.out.1)); have o2 := le_on HOK.out (.inl (.inr HINV.out.2.1)); have o3 := le_on HOK.out (.inr (.inl HINV.out.2.2.1)); have o4 := le_on HOK.out (.inr (.inr HINV.out.2.2.2))
        have HDF := Lib.hid (fun W => pdiff_any lx ly gx gy W (by unfold OnP; omega) (by unfold OnP; omega)); clear o1 o2 o3 o4 hi
        clear hlt
        have hni : ¬ ((ds.length : Int) < (ds.length : Int)) := by omega
        have a0 := H4.out.cell (i := 0) (v := .int .i64 lx) rfl; have a1 := H4.out.cell (i := 1) (v := .int .i64 ly) rfl; have a2 := H5.out.cell (i := 0) (v := .int .i64 gx) rfl; have a3 := H5.out.cell (i := 1) (v := .int .i64 gy) rfl
        go_wp2_with fail
        refine (HDF.out _).mono ?_
        rintro e v2 ⟨rfl, hb⟩
        clear a0 a1 a2 a3
        have U_5 := HU; have X_5 := H4; have HB_5 := HB; clear HU H4 H5 HB
        have U_6 : Hid (Blk (v2.alloc (.cells #[.int .i64 (gx - lx), .int .i64 (gy - ly)] 28)) (w.heap.size + 1) 38 #[.int .i64 0, .int .i64 0, .int .i64 0, .int .i64 0]) := Lib.hid (allocs_keep [(#[.int .i64 (gx - lx), .int .i64 (gy - ly)], 28)] _ (U_5.out.below hb U_5.out.lt))
        have X_6 : Hid (Blk (v2.alloc (.cells #[.int .i64 (gx - lx), .int .i64 (gy - ly)] 28)) p4 28 #[.int .i64 lx, .int .i64 ly]) := Lib.hid (allocs_keep [(#[.int .i64 (gx - lx), .int .i64 (gy - ly)], 28)] _ (X_5.out.below hb X_5.out.lt))
        have HB_6 : Hid (Below w.heap.size w (v2.alloc (.cells #[.int .i64 (gx - lx), .int .i64 (gy - ly)] 28))) := Lib.hid (allocs_below [(#[.int .i64 (gx - lx), .int .i64 (gy - ly)], 28)] _ (HB_5.out.trans (hb.mono HB_5.out.size)) (HB_5.out.trans (hb.mono HB_5.out.size)).size)
        have R_6 : Hid (Blk (v2.alloc (.cells #[.int .i64 (gx - lx), .int .i64 (gy - ly)] 28)) v2.heap.size 28 #[.int .i64 (gx - lx), .int .i64 (gy - ly)]) := Lib.hid (allocs_blk [(#[.int .i64 (gx - lx), .int .i64 (gy - ly)], 28)] v2 0 _ rfl)
        clear hb U_5 X_5 HB_5
        have yy0 := U_6.out.cell (i := 0) (v := .int .i64 0) rfl; have yy1 := U_6.out.cell (i := 1) (v := .int .i64 0) rfl; have yy2 := U_6.out.cell (i := 2) (v := .int .i64 0) rfl; have yy3 := U_6.out.cell (i := 3) (v := .int .i64 0) rfl
        have yy4 := X_6.out.cell (i := 0) (v := .int .i64 lx) rfl; have yy5 := X_6.out.cell (i := 1) (v := .int .i64 ly) rfl
        have yy6 := R_6.out.cell (i := 0) (v := .int .i64 (gx - lx)) rfl; have yy7 := R_6.out.cell (i := 1) (v := .int .i64 (gy - ly)) rfl
        have f0 := U_6.out.frozen 0; have f1 := U_6.out.frozen 1; have f2 := U_6.out.frozen 2; have f3 := U_6.out.frozen 3
        go_wp2_with fail
        clear yy0 yy1 yy2 yy3 yy4 yy5 yy6 yy7
        have HFU := Lib.hid ((((U_6.out.set 0 (.int .i64 lx)).set 1 (.int .i64 ly)).set 2 (.int .i64 (gx - lx))).set 3 (.int .i64 (gy - ly)))
        have rU0 := HFU.out.cell (i := 0) (v := .int .i64 lx) rfl
        have rU1 := HFU.out.cell (i := 1) (v := .int .i64 ly) rfl
        have rU2 := HFU.out.cell (i := 2) (v := .int .i64 (gx - lx)) rfl
        have rU3 := HFU.out.cell (i := 3) (v := .int .i64 (gy - ly)) rfl
        exact bodyPost_ret (v := .tuple #[.agg #[.int .i64 lx, .int .i64 ly, .int .i64 (gx - lx), .int .i64 (gy - ly)], .int .i64 0]) (by simp [results, Tryd.results79, go_sem, rU0, rU1, rU2, rU3]) rfl ⟨lx, ly, gx - lx, gy - ly, HBX.out, rfl, ((((HB_6.out.setCell (p := ⟨(w.heap.size + 1), 0, none⟩) (by show w.heap.size ≤ (w.heap.size + 1); omega) (.int .i64 lx)).setCell (p := ⟨(w.heap.size + 1), 1, none⟩) (by show w.heap.size ≤ (w.heap.size + 1); omega) (.int .i64 ly)).setCell (p := ⟨(w.heap.size + 1), 2, none⟩) (by show w.heap.size ≤ (w.heap.size + 1); omega) (.int .i64 (gx - lx))).setCell (p := ⟨(w.heap.size + 1), 3, none⟩) (by show w.heap.size ≤ (w.heap.size + 1); omega) (.int .i64 (gy - ly)))⟩
      case pos =>
        obtain ⟨k0, k1, k2, k3⟩ := HAT.out wr HB.out i hlt
        obtain ⟨d, hd⟩ : ∃ d, d = ds[i] := ⟨_, rfl⟩
        rw [← hd] at k0 k1 k2 k3
        have HDI : Hid (ds[i]? = some d) := Lib.hid (by rw [hd]; exact List.getElem?_eq_getElem _)
        have q1 : (0 : Int) ≤ (i : Int) := by omega
        have q2 : (i : Int) < (ds.length : Int) := by omega
        have HLT := Lib.hid hlt
        clear hd hlt hi
        have LD4 : Hid (p4 < wr.heap.size ∧ p5 < wr.heap.size) := Lib.hid ⟨H4.out.lt, H5.out.lt⟩
        have KD : Hid (Blk (wr.alloc (.cells #[.int .i64 d.x, .int .i64 d.y, .int .i64 d.t, .int .i64 d.p] 69)) wr.heap.size 69 #[.int .i64 d.x, .int .i64 d.y, .int .i64 d.t, .int .i64 d.p]) := Lib.hid (Blk.new wr _ _)
        have K4 : Hid (Blk (wr.alloc (.cells #[.int .i64 d.x, .int .i64 d.y, .int .i64 d.t, .int .i64 d.p] 69)) p4 28 #[.int .i64 lx, .int .i64 ly]) := Lib.hid (H4.out.alloc _); have K5 : Hid (Blk (wr.alloc (.cells #[.int .i64 d.x, .int .i64 d.y, .int .i64 d.t, .int .i64 d.p] 69)) p5 28 #[.int .i64 gx, .int .i64 gy]) := Lib.hid (H5.out.alloc _); have KU : Hid (Blk (wr.alloc (.cells #[.int .i64 d.x, .int .i64 d.y, .int .i64 d.t, .int .i64 d.p] 69)) (w.heap.size + 1) 38 #[.int .i64 0, .int .i64 0, .int .i64 0, .int .i64 0]) := Lib.hid (HU.out.alloc _); have KB : Hid (Below w.heap.size w (wr.alloc (.cells #[.int .i64 d.x, .int .i64 d.y, .int .i64 d.t, .int .i64 d.p] 69))) := Lib.hid (HB.out.alloc HB.out.size _)
        clear HB HU H4 H5
        have d0 := KD.out.cell (i := 0) (v := .int .i64 d.x) rfl; have d1 := KD.out.cell (i := 1) (v := .int .i64 d.y) rfl; have a0 := K4.out.cell (i := 0) (v := .int .i64 lx) rfl; have a1 := K4.out.cell (i := 1) (v := .int .i64 ly) rfl; have f0 := K4.out.frozen 0; have f1 := K4.out.frozen 1
        go_upto_region 8 with fail
        clear d0 d1 a0 a1 f0 f1 k0 k1 k2 k3
        have J4 : Hid (Blk (((wr.alloc (.cells #[.int .i64 d.x, .int .i64 d.y, .int .i64 d.t, .int .i64 d.p] 69)).setCell ⟨p4, 0, none⟩ (.int .i64 (if d.x < lx then d.x else lx))).setCell ⟨p4, 1, none⟩ (.int .i64 (if d.y < ly then d.y else ly))) p4 28 #[.int .i64 (if d.x < lx then d.x else lx), .int .i64 (if d.y < ly then d.y else ly)]) := Lib.hid ((K4.out.set 0 _).set 1 _)
        have J5 : Hid (Blk (((wr.alloc (.cells #[.int .i64 d.x, .int .i64 d.y, .int .i64 d.t, .int .i64 d.p] 69)).setCell ⟨p4, 0, none⟩ (.int .i64 (if d.x < lx then d.x else lx))).setCell ⟨p4, 1, none⟩ (.int .i64 (if d.y < ly then d.y else ly))) p5 28 #[.int .i64 gx, .int .i64 gy]) := Lib.hid ((K5.out.far (p := ⟨p4, 0, none⟩) (by have := HPP.out; have := LD4.out; show p5 ≠ p4; omega) _).far (p := ⟨p4, 1, none⟩) (by have := HPP.out; have := LD4.out; show p5 ≠ p4; omega) _)
        have JD : Hid (Blk (((wr.alloc (.cells #[.int .i64 d.x, .int .i64 d.y, .int .i64 d.t, .int .i64 d.p] 69)).setCell ⟨p4, 0, none⟩ (.int .i64 (if d.x < lx then d.x else lx))).setCell ⟨p4, 1, none⟩ (.int .i64 (if d.y < ly then d.y else ly))) wr.heap.size 69 #[.int .i64 d.x, .int .i64 d.y, .int .i64 d.t, .int .i64 d.p]) := Lib.hid ((KD.out.far (p := ⟨p4, 0, none⟩) (by have := HPP.out; have := LD4.out; show wr.heap.size ≠ p4; omega) _).far (p := ⟨p4, 1, none⟩) (by have := HPP.out; have := LD4.out; show wr.heap.size ≠ p4; omega) _)
        have JU : Hid (Blk (((wr.alloc (.cells #[.int .i64 d.x, .int .i64 d.y, .int .i64 d.t, .int .i64 d.p] 69)).setCell ⟨p4, 0, none⟩ (.int .i64 (if d.x < lx then d.x else lx))).setCell ⟨p4, 1, none⟩ (.int .i64 (if d.y < ly then d.y else ly))) (w.heap.size + 1) 38 #[.int .i64 0, .int .i64 0, .int .i64 0, .int .i64 0]) := Lib.hid ((KU.out.far (p := ⟨p4, 0, none⟩) (by have := HPP.out; have := LD4.out; show w.heap.size + 1 ≠ p4; omega) _).far (p := ⟨p4, 1, none⟩) (by have := HPP.out; have := LD4.out; show w.heap.size + 1 ≠ p4; omega) _)
        have JB : Hid (Below w.heap.size w (((wr.alloc (.cells #[.int .i64 d.x, .int .i64 d.y, .int .i64 d.t, .int .i64 d.p] 69)).setCell ⟨p4, 0, none⟩ (.int .i64 (if d.x < lx then d.x else lx))).setCell ⟨p4, 1, none⟩ (.int .i64 (if d.y < ly then d.y else ly)))) := Lib.hid ((KB.out.setCell (p := ⟨p4, 0, none⟩) (by have := HPP.out; show w.heap.size ≤ p4; omega) _).setCell (p := ⟨p4, 1, none⟩) (by have := HPP.out; show w.heap.size ≤ p4; omega) _)
        clear K4 K5 KD KU KB
        have d0 := JD.out.cell (i := 0) (v := .int .i64 d.x) rfl; have d1 := JD.out.cell (i := 1) (v := .int .i64 d.y) rfl; have a0 := J5.out.cell (i := 0) (v := .int .i64 gx) rfl; have a1 := J5.out.cell (i := 1) (v := .int .i64 gy) rfl; have f0 := J5.out.frozen 0; have f1 := J5.out.frozen 1
        have q5 : (i : Int) + 1 ≤ 9223372036854775807 := by have := HLN.out; have := HLT.out; omega
        go_wp2_with fail
        clear d0 d1 a0 a1 f0 f1
        go_roundw
        case rel => exact ⟨i + 1, _, _, _, _, by go_num, by have := HLT.out; omega, ⟨HINV.out.1.step HDI.out rfl, HINV.out.2.1.step HDI.out rfl, HINV.out.2.2.1.step HDI.out rfl, HINV.out.2.2.2.step HDI.out rfl⟩, ((JB.out.setCell (p := ⟨p5, 0, none⟩) (by have := HPP.out; show w.heap.size ≤ p5; omega) _).setCell (p := ⟨p5, 1, none⟩) (by have := HPP.out; show w.heap.size ≤ p5; omega) _), ((JU.out.far (p := ⟨p5, 0, none⟩) (by have := HPP.out; have := LD4.out; show w.heap.size + 1 ≠ p5; omega) _).far (p := ⟨p5, 1, none⟩) (by have := HPP.out; have := LD4.out; show w.heap.size + 1 ≠ p5; omega) _), ((J4.out.far (p := ⟨p5, 0, none⟩) (by have := HPP.out; have := LD4.out; show p4 ≠ p5; omega) _).far (p := ⟨p5, 1, none⟩) (by have := HPP.out; have := LD4.out; show p4 ≠ p5; omega) _), (J5.out.set 0 _).set 1 _⟩
        case measure => have := HLT.out; simp [intOf]; omega
end Go.Proofs.YtmjcjaecaigahaaDoor
namespace Go.Proofs.YtmjcjaecaigahaaDoor
open Go.RowKit Go.Shelf Go.Lib
attribute [local go_sem] Oper.semAt_some

/-- A piece: where it begins, where it ends. -/
abbrev Pc := (Int × Int) × (Int × Int)
def dtAt (ds : List Dt) (i : Nat) : Dt := ds[i]?.getD ⟨0, 0, 0, 0⟩
/-- The cells that the pieces are read from. -/
def PcC (W : World) (Bl Bs : Nat) (ds : List Dt) (b o c : Nat) : Prop :=
  W.cell? ⟨Bl, 0, none⟩ = some (.int .i64 ((ds.length - 1 : Nat) : Int)) ∧ W.cell? ⟨Bs, 2, none⟩ = some (.slice (some ⟨b, o, none⟩) ds.length c) ∧
  ∀ i, i < ds.length → W.cell? ⟨b, o + i * 4, none⟩ = some (.int .i64 (dtAt ds i).x) ∧ W.cell? ⟨b, o + i * 4 + 1, none⟩ = some (.int .i64 (dtAt ds i).y) ∧
    W.cell? ⟨b, o + i * 4 + 2, none⟩ = some (.int .i64 (dtAt ds i).t) ∧ W.cell? ⟨b, o + i * 4 + 3, none⟩ = some (.int .i64 (dtAt ds i).p)
/-- What lay below n₀ is kept, but for block q. -/
def KpX (q n₀ : Nat) (W W' : World) : Prop := W.heap.size ≤ W'.heap.size ∧ ∀ k, k < n₀ → k ≠ q → W'.heap[k]? = W.heap[k]?
theorem KpX.refl (q n₀ : Nat) (W : World) : KpX q n₀ W W := ⟨Nat.le_refl _, fun _ _ _ => rfl⟩
theorem KpX.trans {q n₀ : Nat} {A B C : World} (h : KpX q n₀ A B) (h2 : KpX q n₀ B C) : KpX q n₀ A C := ⟨Nat.le_trans h.1 h2.1, fun k hk hq => (h2.2 k hk hq).trans (h.2 k hk hq)⟩
theorem KpX.store (q n₀ : Nat) (W : World) (i : Nat) (v : Value) : KpX q n₀ W (W.setCell ⟨q, i, none⟩ v) := ⟨by simp [World.setCell], fun k _ hq => Below.heap_setCell W ⟨q, i, none⟩ v k hq⟩
theorem KpX.put {q n₀ : Nat} {w : World} (hn : n₀ ≤ w.heap.size) (W : World) (l : Nat) (o o' : Obj) (hl : w.heap.size ≤ l) (_ : W.heap[l]? = some o) (_ : o.isCells = false) (_ : o.isWalk = false) : KpX q n₀ W (W.putObj l o') := ⟨by simp, fun k hk _ => World.putObj_heap_other (by omega)⟩
theorem KpX.cell {q n₀ b : Nat} {W W' : World} (h : KpX q n₀ W W') (h1 : b < n₀ ∧ b ≠ q) (i : Nat) : W'.cell? ⟨b, i, none⟩ = W.cell? ⟨b, i, none⟩ := World.cell?_of_block (a := ⟨b, i, none⟩) (h.2 b h1.1 h1.2)
theorem PcC.below {W W' : World} {q Bl Bs b o c n₀ : Nat} {ds : List Dt} (h : PcC W Bl Bs ds b o c) (hb : KpX q n₀ W W') (h1 : Bl < n₀ ∧ Bl ≠ q) (h2 : Bs < n₀ ∧ Bs ≠ q) (h3 : b < n₀ ∧ b ≠ q) : PcC W' Bl Bs ds b o c := by
  refine ⟨(hb.cell h1 _).trans h.1, (hb.cell h2 _).trans h.2.1, fun i hi => ?_⟩
  obtain ⟨k0, k1, k2, k3⟩ := h.2.2 i hi
  exact ⟨(hb.cell h3 _).trans k0, (hb.cell h3 _).trans k1, (hb.cell h3 _).trans k2, (hb.cell h3 _).trans k3⟩
end Go.Proofs.YtmjcjaecaigahaaDoor
namespace Go.Proofs.YtmjcjaecaigahaaDoor
open Go.RowKit Go.Shelf Go.Lib
attribute [local go_sem] Oper.semAt_some

end Go.Proofs.YtmjcjaecaigahaaDoor
