/- The contracts of Near, Code and Ends. Conditions: the slices read. | The contracts of fewest and Thin. Conditions: the slices read. -/
import Derived.Test.YtmjcjaecaigahaaDoorLH
import Derived.Test.YtmjcjaecaigahaaDoorLJ
import Derived.Test.YtmjcjaecaigahaaDoorLL
namespace Go.Proofs.YtmjcjaecaigahaaDoor
open Go.RowKit Go.Lib Go.Shelf

set_option maxRecDepth 100000 in
set_option maxHeartbeats 4000000 in
theorem pcode_yes (P N : Int) (ds : List Dt) (A : Option Addr) (c : Nat) (w : World) (hA : Dz w A ds) (hz : ds.length ≤ 9000000000000000000) (hv : Vd P N ds) :
    Calls Tryd.prog 35 #[.agg #[.int .i64 P, .int .i64 N, .slice A ds.length c]] w fun e w' => e = .returned (.int .i64 (1000 * P + N)) ∧ Below w.heap.size w w' := by
  have HV := Lib.hid (fun W (hb : Below w.heap.size w W) => pvalid_yes P N ds A c W (hA.below hb (Nat.le_refl _)) hz hv)
  have v1 := hv.1; have v2 := hv.2.1
  have e1 : IntKind.i64.wrap (1000 * P) = 1000 * P := IntWalk.i64_in _ (by omega)
  have e2 : IntKind.i64.wrap (1000 * P + N) = 1000 * P + N := IntWalk.i64_in _ (by omega)
  clear hA hz hv v1 v2
  have S_0 : Hid (Blk (w.alloc (.cells #[.int .i64 P, .int .i64 N, .slice A ds.length c] 26)) w.heap.size 26 #[.int .i64 P, .int .i64 N, .slice A ds.length c]) := allocs_blk [(#[.int .i64 P, .int .i64 N, .slice A ds.length c], 26)] w 0 _ rfl
  have HB_0 : Hid (Below w.heap.size w (w.alloc (.cells #[.int .i64 P, .int .i64 N, .slice A ds.length c] 26))) := allocs_below [(#[.int .i64 P, .int .i64 N, .slice A ds.length c], 26)] w (Below.refl w.heap.size w) (Nat.le_refl _)
  go_enter Tryd.func35, Tryd.ntmps35
  have yy0 := S_0.out.cell (i := 0) (v := .int .i64 P) rfl; have yy1 := S_0.out.cell (i := 1) (v := .int .i64 N) rfl; have yy2 := S_0.out.cell (i := 2) (v := .slice A ds.length c) rfl
  go_wp2_with fail
  refine (HV.out _ HB_0.out).mono ?_
  rintro e v0 ⟨rfl, hb⟩
  clear yy0 yy1 yy2
  have S_1 : Hid (Blk v0 w.heap.size 26 #[.int .i64 P, .int .i64 N, .slice A ds.length c]) := Lib.hid (S_0.out.below hb S_0.out.lt)
  have HB_1 : Hid (Below w.heap.size w v0) := Lib.hid (HB_0.out.trans (hb.mono HB_0.out.size))
  clear hb S_0 HB_0
  have yy0 := S_1.out.cell (i := 0) (v := .int .i64 P) rfl; have yy1 := S_1.out.cell (i := 1) (v := .int .i64 N) rfl; have yy2 := S_1.out.cell (i := 2) (v := .slice A ds.length c) rfl
  go_wp2_with fail
  go_ret
  exact ⟨rfl, HB_1.out⟩
set_option maxRecDepth 100000 in
set_option maxHeartbeats 4000000 in
theorem pends_yes (P N : Int) (ds : List Dt) (A : Option Addr) (c : Nat) (w : World) (hA : Dz w A ds) (hz : ds.length ≤ 9000000000000000000) (hv : Vd P N ds) :
    Calls Tryd.prog 36 #[.agg #[.int .i64 P, .int .i64 N, .slice A ds.length c]] w fun e w' => ∃ d f, ds[0]? = some d ∧ ds[ds.length - 1]? = some f ∧ e = .returned (.tuple #[.agg #[.int .i64 d.x, .int .i64 d.y], .agg #[.int .i64 f.x, .int .i64 f.y], .int .i64 0]) ∧ Below w.heap.size w w' := by
  have hl := hv.2.2.1
  obtain ⟨b, o, rfl⟩ := hA.some (by omega)
  have HAT := Lib.hid hA.at
  have HV := Lib.hid (fun W (hb : Below w.heap.size w W) => pvalid_yes P N ds _ c W (hA.below hb (Nat.le_refl _)) hz hv)
  obtain ⟨d, hd⟩ : ∃ d, ds[0]? = some d := ⟨_, List.getElem?_eq_getElem (by omega)⟩
  obtain ⟨f, hf⟩ : ∃ d, ds[ds.length - 1]? = some d := ⟨_, List.getElem?_eq_getElem (by omega)⟩
  have HD : Hid (∀ W, Below w.heap.size w W → W.cell? ⟨b, o, none⟩ = some (.int .i64 d.x) ∧ W.cell? ⟨b, o + 1, none⟩ = some (.int .i64 d.y) ∧ W.cell? ⟨b, o + 2, none⟩ = some (.int .i64 d.t) ∧ W.cell? ⟨b, o + 3, none⟩ = some (.int .i64 d.p)) := Lib.hid (fun W hb => by
    have h9 := HAT.out W hb 0 (by omega)
    rw [List.getElem?_eq_getElem (by omega), Option.some.injEq] at hd
    rw [hd] at h9
    simpa using h9)
  have HF : Hid (∀ W, Below w.heap.size w W → W.cell? ⟨b, o + (ds.length - 1) * 4, none⟩ = some (.int .i64 f.x) ∧ W.cell? ⟨b, o + (ds.length - 1) * 4 + 1, none⟩ = some (.int .i64 f.y) ∧ W.cell? ⟨b, o + (ds.length - 1) * 4 + 2, none⟩ = some (.int .i64 f.t) ∧ W.cell? ⟨b, o + (ds.length - 1) * 4 + 3, none⟩ = some (.int .i64 f.p)) := Lib.hid (fun W hb => by
    have h9 := HAT.out W hb (ds.length - 1) (by omega)
    rw [List.getElem?_eq_getElem (by omega), Option.some.injEq] at hf
    rw [hf] at h9
    exact h9)
  have HP1 := Lib.hid (fun W => pplace_any d.x d.y d.t d.p W); have HP2 := Lib.hid (fun W => pplace_any f.x f.y f.t f.p W)
  have e1 : IntKind.i64.wrap ((ds.length : Int) - 1) = ((ds.length - 1 : Nat) : Int) := by rw [IntWalk.i64_in _ (by omega)]; omega
  have q0 : (0 : Int) < (ds.length : Int) := by omega
  have q0n : 0 < ds.length := by omega
  have q1 : (0 : Int) ≤ ((ds.length - 1 : Nat) : Int) := by omega
  have q2 : ((ds.length - 1 : Nat) : Int) < (ds.length : Int) := by omega
  have HDF := Lib.hid (And.intro hd hf)
  clear hA hz hv hl hd hf
  have S_0 : Hid (Blk (((w.alloc (.cells #[.int .i64 P, .int .i64 N, .slice (some ⟨b, o, none⟩) ds.length c] 26)).alloc (.cells #[.int .i64 0, .int .i64 0] 28)).alloc (.cells #[.int .i64 0, .int .i64 0] 28)) w.heap.size 26 #[.int .i64 P, .int .i64 N, .slice (some ⟨b, o, none⟩) ds.length c]) := allocs_blk [(#[.int .i64 P, .int .i64 N, .slice (some ⟨b, o, none⟩) ds.length c], 26), (#[.int .i64 0, .int .i64 0], 28), (#[.int .i64 0, .int .i64 0], 28)] w 0 _ rfl
  have U_0 : Hid (Blk (((w.alloc (.cells #[.int .i64 P, .int .i64 N, .slice (some ⟨b, o, none⟩) ds.length c] 26)).alloc (.cells #[.int .i64 0, .int .i64 0] 28)).alloc (.cells #[.int .i64 0, .int .i64 0] 28)) (w.heap.size + 1) 28 #[.int .i64 0, .int .i64 0]) := allocs_blk [(#[.int .i64 P, .int .i64 N, .slice (some ⟨b, o, none⟩) ds.length c], 26), (#[.int .i64 0, .int .i64 0], 28), (#[.int .i64 0, .int .i64 0], 28)] w 1 _ rfl
  have V_0 : Hid (Blk (((w.alloc (.cells #[.int .i64 P, .int .i64 N, .slice (some ⟨b, o, none⟩) ds.length c] 26)).alloc (.cells #[.int .i64 0, .int .i64 0] 28)).alloc (.cells #[.int .i64 0, .int .i64 0] 28)) (w.heap.size + 2) 28 #[.int .i64 0, .int .i64 0]) := allocs_blk [(#[.int .i64 P, .int .i64 N, .slice (some ⟨b, o, none⟩) ds.length c], 26), (#[.int .i64 0, .int .i64 0], 28), (#[.int .i64 0, .int .i64 0], 28)] w 2 _ rfl
  have HB_0 : Hid (Below w.heap.size w (((w.alloc (.cells #[.int .i64 P, .int .i64 N, .slice (some ⟨b, o, none⟩) ds.length c] 26)).alloc (.cells #[.int .i64 0, .int .i64 0] 28)).alloc (.cells #[.int .i64 0, .int .i64 0] 28))) := allocs_below [(#[.int .i64 P, .int .i64 N, .slice (some ⟨b, o, none⟩) ds.length c], 26), (#[.int .i64 0, .int .i64 0], 28), (#[.int .i64 0, .int .i64 0], 28)] w (Below.refl w.heap.size w) (Nat.le_refl _)
  go_enter Tryd.func36, Tryd.ntmps36
  have yy0 := S_0.out.cell (i := 0) (v := .int .i64 P) rfl; have yy1 := S_0.out.cell (i := 1) (v := .int .i64 N) rfl; have yy2 := S_0.out.cell (i := 2) (v := .slice (some ⟨b, o, none⟩) ds.length c) rfl
  go_wp2_with fail
  refine (HV.out _ HB_0.out).mono ?_
  rintro e v0 ⟨rfl, hb⟩
  clear yy0 yy1 yy2
  have S_1 : Hid (Blk v0 w.heap.size 26 #[.int .i64 P, .int .i64 N, .slice (some ⟨b, o, none⟩) ds.length c]) := Lib.hid (S_0.out.below hb S_0.out.lt)
  have U_1 : Hid (Blk v0 (w.heap.size + 1) 28 #[.int .i64 0, .int .i64 0]) := Lib.hid (U_0.out.below hb U_0.out.lt)
  have V_1 : Hid (Blk v0 (w.heap.size + 2) 28 #[.int .i64 0, .int .i64 0]) := Lib.hid (V_0.out.below hb V_0.out.lt)
  have HB_1 : Hid (Below w.heap.size w v0) := Lib.hid (HB_0.out.trans (hb.mono HB_0.out.size))
  clear hb S_0 U_0 V_0 HB_0
  go_wp2_with fail
  refine wp_region_grow (S := (fun w' => w'.cell? ⟨w.heap.size, 2, none⟩ = some (.slice (some ⟨b, o, none⟩) ds.length c) ∧ w'.cell? ⟨b, o, none⟩ = some (.int .i64 d.x) ∧ w'.cell? ⟨b, o + 1, none⟩ = some (.int .i64 d.y) ∧ w'.cell? ⟨b, o + 2, none⟩ = some (.int .i64 d.t) ∧ w'.cell? ⟨b, o + 3, none⟩ = some (.int .i64 d.p) ∧ w'.cell? ⟨b, o + (ds.length - 1) * 4, none⟩ = some (.int .i64 f.x) ∧ w'.cell? ⟨b, o + (ds.length - 1) * 4 + 1, none⟩ = some (.int .i64 f.y) ∧ w'.cell? ⟨b, o + (ds.length - 1) * 4 + 2, none⟩ = some (.int .i64 f.t) ∧ w'.cell? ⟨b, o + (ds.length - 1) * 4 + 3, none⟩ = some (.int .i64 f.p))) ((fun w' => Below w.heap.size w w' ∧ Blk w' w.heap.size 26 #[.int .i64 P, .int .i64 N, .slice (some ⟨b, o, none⟩) ds.length c] ∧ Blk w' (w.heap.size + 1) 28 #[.int .i64 0, .int .i64 0] ∧ Blk w' (w.heap.size + 2) 28 #[.int .i64 0, .int .i64 0])) (by kernel_rfl) (⟨fun w2 h2 => ⟨(h2.2.1.cell (i := 2) rfl), (HD.out w2 h2.1).1, (HD.out w2 h2.1).2.1, (HD.out w2 h2.1).2.2.1, (HD.out w2 h2.1).2.2.2, (HF.out w2 h2.1).1, (HF.out w2 h2.1).2.1, (HF.out w2 h2.1).2.2.1, (HF.out w2 h2.1).2.2.2⟩, fun w2 w3 h2 hb2 => ⟨h2.1.trans (hb2.mono h2.1.size), h2.2.1.below hb2 h2.2.1.lt, h2.2.2.1.below hb2 h2.2.2.1.lt, h2.2.2.2.below hb2 h2.2.2.2.lt⟩⟩) (⟨HB_1.out.drew, S_1.out.drew, U_1.out.drew, V_1.out.drew⟩) (fun hCalm => ?_)
  refine grow_take 0 (some 10) ?_ rfl rfl (by kernel_rfl) (fun _ _ _ h => h) (by kernel_rfl) hCalm ?_ ?_
  rotate_left
  · intro wS hS; (try dsimp only at hS); go_simp <;> with_reducible rfl
  try simp only [Act.put, List.setIfInBounds_toArray, List.set_cons_zero, List.set_cons_succ]
  refine grow_take 1 (some 11) ?_ rfl rfl (by kernel_rfl) (fun _ _ _ h => h) (by kernel_rfl) hCalm ?_ ?_
  rotate_left
  · intro wS hS; (try dsimp only at hS); go_simp <;> with_reducible rfl
  try simp only [Act.put, List.setIfInBounds_toArray, List.set_cons_zero, List.set_cons_succ]
  refine grow_take 2 (some 12) ?_ rfl rfl (by kernel_rfl) (fun _ _ _ h => h) (by kernel_rfl) hCalm ?_ ?_
  rotate_left
  · intro wS hS; (try dsimp only at hS); go_simp <;> with_reducible rfl
  try simp only [Act.put, List.setIfInBounds_toArray, List.set_cons_zero, List.set_cons_succ]
  refine grow_take 3 (some 13) ?_ rfl rfl (by kernel_rfl) (fun _ _ _ h => h) (by kernel_rfl) hCalm ?_ ?_
  rotate_left
  · intro wS hS; (try dsimp only at hS); go_simp <;> with_reducible rfl
  try simp only [Act.put, List.setIfInBounds_toArray, List.set_cons_zero, List.set_cons_succ]
  refine grow_call 4 (some 14) (.agg #[.int .i64 d.x, .int .i64 d.y]) 69 [.tmp 13] #[69] rfl rfl (by kernel_rfl) (fun _ _ _ h => h) (by kernel_rfl) hCalm rfl (enters_of Tryd.func69 (by kernel_rfl) rfl) (fun wz _ => HP1.out wz) (by kernel_rfl) ?_
  try simp only [Act.put, List.setIfInBounds_toArray, List.set_cons_zero, List.set_cons_succ]
  refine grow_take 5 (some 15) ?_ rfl rfl (by kernel_rfl) (fun _ _ _ h => h) (by kernel_rfl) hCalm ?_ ?_
  rotate_left
  · intro wS hS; (try dsimp only at hS); go_simp <;> with_reducible rfl
  try simp only [Act.put, List.setIfInBounds_toArray, List.set_cons_zero, List.set_cons_succ]
  refine grow_take 6 (some 16) ?_ rfl rfl (by kernel_rfl) (fun _ _ _ h => h) (by kernel_rfl) hCalm ?_ ?_
  rotate_left
  · intro wS hS; (try dsimp only at hS); go_simp <;> with_reducible rfl
  try simp only [Act.put, List.setIfInBounds_toArray, List.set_cons_zero, List.set_cons_succ]
  refine grow_take 7 (some 17) ?_ rfl rfl (by kernel_rfl) (fun _ _ _ h => h) (by kernel_rfl) hCalm ?_ ?_
  rotate_left
  · intro wS hS; (try dsimp only at hS); go_simp <;> with_reducible rfl
  try simp only [Act.put, List.setIfInBounds_toArray, List.set_cons_zero, List.set_cons_succ]
  refine grow_take 8 (some 18) ?_ rfl rfl (by kernel_rfl) (fun _ _ _ h => h) (by kernel_rfl) hCalm ?_ ?_
  rotate_left
  · intro wS hS; (try dsimp only at hS); go_simp <;> with_reducible rfl
  try simp only [Act.put, List.setIfInBounds_toArray, List.set_cons_zero, List.set_cons_succ]
  refine grow_take 9 (some 19) ?_ rfl rfl (by kernel_rfl) (fun _ _ _ h => h) (by kernel_rfl) hCalm ?_ ?_
  rotate_left
  · intro wS hS; (try dsimp only at hS); go_simp <;> with_reducible rfl
  try simp only [Act.put, List.setIfInBounds_toArray, List.set_cons_zero, List.set_cons_succ]
  refine grow_take 10 (some 20) ?_ rfl rfl (by kernel_rfl) (fun _ _ _ h => h) (by kernel_rfl) hCalm ?_ ?_
  rotate_left
  · intro wS hS; (try dsimp only at hS); go_simp <;> with_reducible rfl
  try simp only [Act.put, List.setIfInBounds_toArray, List.set_cons_zero, List.set_cons_succ]
  refine grow_take 11 (some 21) ?_ rfl rfl (by kernel_rfl) (fun _ _ _ h => h) (by kernel_rfl) hCalm ?_ ?_
  rotate_left
  · intro wS hS; (try dsimp only at hS); go_simp <;> with_reducible rfl
  try simp only [Act.put, List.setIfInBounds_toArray, List.set_cons_zero, List.set_cons_succ]
  refine grow_take 12 (some 22) ?_ rfl rfl (by kernel_rfl) (fun _ _ _ h => h) (by kernel_rfl) hCalm ?_ ?_
  rotate_left
  · intro wS hS; (try dsimp only at hS); go_simp <;> with_reducible rfl
  try simp only [Act.put, List.setIfInBounds_toArray, List.set_cons_zero, List.set_cons_succ]
  refine grow_call 13 (some 23) (.agg #[.int .i64 f.x, .int .i64 f.y]) 69 [.tmp 22] #[69] rfl rfl (by kernel_rfl) (fun _ _ _ h => h) (by kernel_rfl) hCalm rfl (enters_of Tryd.func69 (by kernel_rfl) rfl) (fun wz _ => HP2.out wz) (by kernel_rfl) ?_
  try simp only [Act.put, List.setIfInBounds_toArray, List.set_cons_zero, List.set_cons_succ]
  refine grow_each [14] (by kernel_rfl) (by decide) ?_
  refine grow_cons 14 rfl (by kernel_rfl) (fun wA hA K hK => ?_) grow_nil
  have z0 := hA.2.2.1.cell (i := 0) (v := .int .i64 0) rfl; have f0 := hA.2.2.1.frozen 0
  have z1 := hA.2.2.1.cell (i := 1) (v := .int .i64 0) rfl; have f1 := hA.2.2.1.frozen 1
  go_simp
  refine hK.out _ _ (fun w' => Below w.heap.size w w' ∧ Blk w' w.heap.size 26 #[.int .i64 P, .int .i64 N, .slice (some ⟨b, o, none⟩) ds.length c] ∧ Blk w' (w.heap.size + 1) 28 #[.int .i64 d.x, .int .i64 d.y] ∧ Blk w' (w.heap.size + 2) 28 #[.int .i64 0, .int .i64 0]) ⟨fun w2 h2 => ⟨(h2.2.1.cell (i := 2) rfl), (HD.out w2 h2.1).1, (HD.out w2 h2.1).2.1, (HD.out w2 h2.1).2.2.1, (HD.out w2 h2.1).2.2.2, (HF.out w2 h2.1).1, (HF.out w2 h2.1).2.1, (HF.out w2 h2.1).2.2.1, (HF.out w2 h2.1).2.2.2⟩, fun w2 w3 h2 hb2 => ⟨h2.1.trans (hb2.mono h2.1.size), h2.2.1.below hb2 h2.2.1.lt, h2.2.2.1.below hb2 h2.2.2.1.lt, h2.2.2.2.below hb2 h2.2.2.2.lt⟩⟩ ⟨((hA.1.setCell (p := ⟨(w.heap.size + 1), 0, none⟩) (by show w.heap.size ≤ (w.heap.size + 1); omega) _).setCell (p := ⟨(w.heap.size + 1), 1, none⟩) (by show w.heap.size ≤ (w.heap.size + 1); omega) _), ((hA.2.1.far (p := ⟨(w.heap.size + 1), 0, none⟩) (by show w.heap.size ≠ (w.heap.size + 1); omega) _).far (p := ⟨(w.heap.size + 1), 1, none⟩) (by show w.heap.size ≠ (w.heap.size + 1); omega) _), ((hA.2.2.1.set 0 _).set 1 _), ((hA.2.2.2.far (p := ⟨(w.heap.size + 1), 0, none⟩) (by show (w.heap.size + 2) ≠ (w.heap.size + 1); omega) _).far (p := ⟨(w.heap.size + 1), 1, none⟩) (by show (w.heap.size + 2) ≠ (w.heap.size + 1); omega) _)⟩ ?_
  clear z0 f0 z1 f1 hK K hA wA hCalm
  have hCalm : Calm (fun w' => w'.cell? ⟨w.heap.size, 2, none⟩ = some (.slice (some ⟨b, o, none⟩) ds.length c) ∧ w'.cell? ⟨b, o, none⟩ = some (.int .i64 d.x) ∧ w'.cell? ⟨b, o + 1, none⟩ = some (.int .i64 d.y) ∧ w'.cell? ⟨b, o + 2, none⟩ = some (.int .i64 d.t) ∧ w'.cell? ⟨b, o + 3, none⟩ = some (.int .i64 d.p) ∧ w'.cell? ⟨b, o + (ds.length - 1) * 4, none⟩ = some (.int .i64 f.x) ∧ w'.cell? ⟨b, o + (ds.length - 1) * 4 + 1, none⟩ = some (.int .i64 f.y) ∧ w'.cell? ⟨b, o + (ds.length - 1) * 4 + 2, none⟩ = some (.int .i64 f.t) ∧ w'.cell? ⟨b, o + (ds.length - 1) * 4 + 3, none⟩ = some (.int .i64 f.p)) (fun w' => Below w.heap.size w w' ∧ Blk w' w.heap.size 26 #[.int .i64 P, .int .i64 N, .slice (some ⟨b, o, none⟩) ds.length c] ∧ Blk w' (w.heap.size + 1) 28 #[.int .i64 d.x, .int .i64 d.y] ∧ Blk w' (w.heap.size + 2) 28 #[.int .i64 0, .int .i64 0]) := ⟨fun w2 h2 => ⟨(h2.2.1.cell (i := 2) rfl), (HD.out w2 h2.1).1, (HD.out w2 h2.1).2.1, (HD.out w2 h2.1).2.2.1, (HD.out w2 h2.1).2.2.2, (HF.out w2 h2.1).1, (HF.out w2 h2.1).2.1, (HF.out w2 h2.1).2.2.1, (HF.out w2 h2.1).2.2.2⟩, fun w2 w3 h2 hb2 => ⟨h2.1.trans (hb2.mono h2.1.size), h2.2.1.below hb2 h2.2.1.lt, h2.2.2.1.below hb2 h2.2.2.1.lt, h2.2.2.2.below hb2 h2.2.2.2.lt⟩⟩
  try simp only [Act.put]
  refine grow_each [15] (by kernel_rfl) (by decide) ?_
  refine grow_cons 15 rfl (by kernel_rfl) (fun wA hA K hK => ?_) grow_nil
  have z0 := hA.2.2.2.cell (i := 0) (v := .int .i64 0) rfl; have f0 := hA.2.2.2.frozen 0
  have z1 := hA.2.2.2.cell (i := 1) (v := .int .i64 0) rfl; have f1 := hA.2.2.2.frozen 1
  go_simp
  refine hK.out _ _ (fun w' => Below w.heap.size w w' ∧ Blk w' w.heap.size 26 #[.int .i64 P, .int .i64 N, .slice (some ⟨b, o, none⟩) ds.length c] ∧ Blk w' (w.heap.size + 1) 28 #[.int .i64 d.x, .int .i64 d.y] ∧ Blk w' (w.heap.size + 2) 28 #[.int .i64 f.x, .int .i64 f.y]) ⟨fun w2 h2 => ⟨(h2.2.1.cell (i := 2) rfl), (HD.out w2 h2.1).1, (HD.out w2 h2.1).2.1, (HD.out w2 h2.1).2.2.1, (HD.out w2 h2.1).2.2.2, (HF.out w2 h2.1).1, (HF.out w2 h2.1).2.1, (HF.out w2 h2.1).2.2.1, (HF.out w2 h2.1).2.2.2⟩, fun w2 w3 h2 hb2 => ⟨h2.1.trans (hb2.mono h2.1.size), h2.2.1.below hb2 h2.2.1.lt, h2.2.2.1.below hb2 h2.2.2.1.lt, h2.2.2.2.below hb2 h2.2.2.2.lt⟩⟩ ⟨((hA.1.setCell (p := ⟨(w.heap.size + 2), 0, none⟩) (by show w.heap.size ≤ (w.heap.size + 2); omega) _).setCell (p := ⟨(w.heap.size + 2), 1, none⟩) (by show w.heap.size ≤ (w.heap.size + 2); omega) _), ((hA.2.1.far (p := ⟨(w.heap.size + 2), 0, none⟩) (by show w.heap.size ≠ (w.heap.size + 2); omega) _).far (p := ⟨(w.heap.size + 2), 1, none⟩) (by show w.heap.size ≠ (w.heap.size + 2); omega) _), ((hA.2.2.1.far (p := ⟨(w.heap.size + 2), 0, none⟩) (by show (w.heap.size + 1) ≠ (w.heap.size + 2); omega) _).far (p := ⟨(w.heap.size + 2), 1, none⟩) (by show (w.heap.size + 1) ≠ (w.heap.size + 2); omega) _), ((hA.2.2.2.set 0 _).set 1 _)⟩ ?_
  clear z0 f0 z1 f1 hK K hA wA hCalm
  have hCalm : Calm (fun w' => w'.cell? ⟨w.heap.size, 2, none⟩ = some (.slice (some ⟨b, o, none⟩) ds.length c) ∧ w'.cell? ⟨b, o, none⟩ = some (.int .i64 d.x) ∧ w'.cell? ⟨b, o + 1, none⟩ = some (.int .i64 d.y) ∧ w'.cell? ⟨b, o + 2, none⟩ = some (.int .i64 d.t) ∧ w'.cell? ⟨b, o + 3, none⟩ = some (.int .i64 d.p) ∧ w'.cell? ⟨b, o + (ds.length - 1) * 4, none⟩ = some (.int .i64 f.x) ∧ w'.cell? ⟨b, o + (ds.length - 1) * 4 + 1, none⟩ = some (.int .i64 f.y) ∧ w'.cell? ⟨b, o + (ds.length - 1) * 4 + 2, none⟩ = some (.int .i64 f.t) ∧ w'.cell? ⟨b, o + (ds.length - 1) * 4 + 3, none⟩ = some (.int .i64 f.p)) (fun w' => Below w.heap.size w w' ∧ Blk w' w.heap.size 26 #[.int .i64 P, .int .i64 N, .slice (some ⟨b, o, none⟩) ds.length c] ∧ Blk w' (w.heap.size + 1) 28 #[.int .i64 d.x, .int .i64 d.y] ∧ Blk w' (w.heap.size + 2) 28 #[.int .i64 f.x, .int .i64 f.y]) := ⟨fun w2 h2 => ⟨(h2.2.1.cell (i := 2) rfl), (HD.out w2 h2.1).1, (HD.out w2 h2.1).2.1, (HD.out w2 h2.1).2.2.1, (HD.out w2 h2.1).2.2.2, (HF.out w2 h2.1).1, (HF.out w2 h2.1).2.1, (HF.out w2 h2.1).2.2.1, (HF.out w2 h2.1).2.2.2⟩, fun w2 w3 h2 hb2 => ⟨h2.1.trans (hb2.mono h2.1.size), h2.2.1.below hb2 h2.2.1.lt, h2.2.2.1.below hb2 h2.2.2.1.lt, h2.2.2.2.below hb2 h2.2.2.2.lt⟩⟩
  try simp only [Act.put]
  refine grow_take 16 (some 4) ?_ rfl rfl (by kernel_rfl) (fun _ _ _ h => h) (by kernel_rfl) hCalm ?_ ?_
  rotate_left
  · intro wS hS; (try dsimp only at hS); go_simp <;> with_reducible rfl
  try simp only [Act.put, List.setIfInBounds_toArray, List.set_cons_zero, List.set_cons_succ]
  refine grow_done (by kernel_rfl) (fun wA hA => ?_) _
  have rU0 := hA.2.2.1.cell (i := 0) (v := .int .i64 d.x) rfl
  have rU1 := hA.2.2.1.cell (i := 1) (v := .int .i64 d.y) rfl
  have rV0 := hA.2.2.2.cell (i := 0) (v := .int .i64 f.x) rfl
  have rV1 := hA.2.2.2.cell (i := 1) (v := .int .i64 f.y) rfl
  go_wp2_with fail
  exact bodyPost_ret (v := .tuple #[.agg #[.int .i64 d.x, .int .i64 d.y], .agg #[.int .i64 f.x, .int .i64 f.y], .int .i64 0]) (by simp [results, Tryd.results36, go_sem, rU0, rU1, rV0, rV1]) rfl ⟨d, f, HDF.out.1, HDF.out.2, rfl, hA.1⟩
end Go.Proofs.YtmjcjaecaigahaaDoor
namespace Go.Proofs.YtmjcjaecaigahaaDoor
open Go.RowKit Go.Lib Go.Shelf

/-- The indices, i of them found. -/
def curI (L : List Nat) (i : Nat) : List Int := (L.take i).map Int.ofNat ++ List.replicate (L.length - i) 0
theorem curI_one {L : List Nat} (h : L[0]? = some 0) : curI L 1 = List.replicate L.length 0 := by
  cases L with
  | nil => cases h
  | cons a r =>
    simp only [List.getElem?_cons_zero, Option.some.injEq] at h
    subst h
    simp [curI, List.replicate_succ]
theorem curI_all (L : List Nat) : curI L L.length = L.map Int.ofNat := by simp [curI]
theorem curI_at {L : List Nat} {i j : Nat} (hj : j < i) (hi : j < L.length) : (curI L i)[j]? = some ((L[j] : Nat) : Int) := by
  unfold curI
  rw [List.getElem?_append_left (by rw [List.length_map, List.length_take]; omega), List.getElem?_map, List.getElem?_take_of_lt hj, List.getElem?_eq_getElem hi]
  rfl
theorem curI_z {L : List Nat} {i : Nat} (hi : i < L.length) : (curI L i)[i]? = some 0 := by
  unfold curI
  rw [List.getElem?_append_right (by rw [List.length_map, List.length_take]; omega), List.length_map, List.length_take, show i - min i L.length = 0 from by omega, List.getElem?_replicate, if_pos (by omega)]
theorem curI_succ {L : List Nat} {i : Nat} (h : i < L.length) : (curI L i).set i ((L[i] : Nat) : Int) = curI L (i + 1) := by
  unfold curI
  rw [List.set_append_right _ _ (by rw [List.length_map, List.length_take]; omega), List.length_map, List.length_take, show i - min i L.length = 0 from by omega, show L.length - i = (L.length - (i + 1)) + 1 from by omega, List.replicate_succ, List.set_cons_zero, List.take_succ_eq_append_getElem h, List.map_append, List.append_assoc]
  rfl
theorem iv_get {l : List Int} {i : Nat} {x : Int} (h : l[i]? = some x) : ((l.map iv).toArray)[i]? = some (.int .i64 x) := by
  rw [List.getElem?_toArray, List.getElem?_map, h]; rfl
set_option maxRecDepth 100000 in
set_option maxHeartbeats 8000000 in
theorem pfewest_any (ds : List Dt) (A : Option Addr) (c : Nat) (z : Int) (w : World) (hA : Dz w A ds) (hl : 1 ≤ ds.length ∧ ds.length ≤ 200) (hc : ds.length ≤ c) (hon : ∀ d ∈ ds, OnP d.x d.y) (hz : 0 ≤ z ∧ z ≤ 1000) :
    Calls Tryd.prog 87 #[.slice A ds.length c, .int .i64 z] w fun e w' => ∃ (L : List Nat) (q : Nat), e = .returned (.slice (some ⟨q, 0, none⟩) L.length L.length) ∧ IsThin (BetwP ds z) (ds.length - 1) L ∧ Blk w' q 3 (((L.map Int.ofNat).map iv).toArray) ∧ w.heap.size ≤ q ∧ Below w.heap.size w w' := by
  have HCALL := Lib.hid (pjumps_any ds A c z w hA hl hc hon hz)
  obtain ⟨n, hn⟩ : ∃ n, n = ds.length - 1 := ⟨_, rfl⟩
  rw [← hn] at HCALL ⊢
  have hn2 : n < 200 := by omega
  clear hA hl hc hon hz hn
  go_enter Tryd.func87, Tryd.ntmps87
  go_upto_region 1 with fail
  go_cut [5] from 8 to 10 (fun x wx => ∃ (T C : Nat → Int) (L : List Nat) (p : Nat), x = .pointer (some ⟨p, 0, none⟩) ∧ IsThin (BetwP ds z) n L ∧ C 0 = (L.length : Int) ∧ (1 ≤ L.length ∧ L.length ≤ 201) ∧ Pth T n 0 L ∧ wx.rangeAt p 0 (jc T C) ∧ (w.heap.size ≤ p ∧ p < wx.heap.size) ∧ Below w.heap.size w wx)
  case first =>
    go_wp2_with fail
    refine HCALL.out.mono ?_
    rintro e v0 ⟨T, C, rfl, hk, hb⟩
    obtain ⟨L, hL, hC, hP⟩ := hk 0 (Nat.le_refl _) (Nat.zero_le _)
    have hth : IsThin (BetwP ds z) n L := isThin_of_yw hL
    have hlen := hth.1.len
    have HB := Lib.hid hb; have HTH := Lib.hid hth; have HLN := Lib.hid hlen; have HC := Lib.hid hC; have HP := Lib.hid hP
    have hz4 : Tryd.zeroCells126.size = 400 := by rw [zero_jumps]; simp [jc_length]
    have hbk := Blk.new v0 126 Tryd.zeroCells126
    have htr : (v0.alloc (.cells Tryd.zeroCells126 126)).there v0.heap.size 0 400 := by have h := there_of_blk hbk; rwa [hz4] at h
    have hst : (storeCells ⟨v0.heap.size, 0, none⟩ (jc T C)).run Tryd.prog (v0.alloc (.cells Tryd.zeroCells126 126)) = .ok () ((v0.alloc (.cells Tryd.zeroCells126 126)).setCells v0.heap.size 0 (jc T C)) := by
      have h := run_storeCells_cells (P := Tryd.prog) v0.heap.size 0 (jc T C) 0 (v0.alloc (.cells Tryd.zeroCells126 126)) (fun j hj => by rw [jc_length] at hj; simpa using (htr j hj).1) (fun j hj => by rw [jc_length] at hj; simp) (fun v hv => by have h2 := jc_one T C; exact (Array.all_eq_true_iff_forall_mem.1 h2) v (by simpa using hv))
      simpa using h
    have HTR := Lib.hid htr
    clear hk hb hL hC hP hth hlen hz4 hbk htr
    go_wp2_with fail
    go_meet
    refine ⟨T, C, L, v0.heap.size, rfl, HTH.out, HC.out, by have := HLN.out; omega, HP.out, World.rangeAt_setCells_same _ _ _ _ (by rw [jc_length]; exact HTR.out), ⟨HB.out.size, ?_⟩, below_cellsS HB.out.size _ _ _ (HB.out.alloc HB.out.size _)⟩
    have h9 := (below_cellsS (B := v0.heap.size) (g := v0.heap.size) (Nat.le_refl _) (jc T C) 0 (v0.alloc (.cells Tryd.zeroCells126 126)) (Below.refl _ _)).size
    rw [World.size_alloc] at h9
    omega
  case rest =>
    obtain ⟨T, C, L, p, rfl, hth, hC, hlen, hP, hr, hp, hb⟩ := hcut
    rename World => wc
    have HTH := Lib.hid hth; have HP := Lib.hid hP; have HR := Lib.hid hr; have HPL := Lib.hid hp; have HB := Lib.hid hb; have HLN := Lib.hid hlen
    have hmk := fun w => run_make_ints 23 Tryd.underlying23 L.length L.length (Nat.le_refl _) (by omega) w
    have y1 : wc.cell? ⟨p, 1, none⟩ = some (.int .i64 (L.length : Nat)) := by
      have h := hr 1 (.int .i64 (C 0)) (by have h2 := jc_cnt (T := T) (C := C) (i := 0) (by omega); rw [List.getElem?_toArray] at h2; exact h2)
      rw [hC] at h
      simpa using h
    clear hth hP hr hp hb HCALL
    go_wp2_with fail
    clear y1 hmk hC
    have HQ : Hid (Blk (wc.alloc (.cells (zc L.length) 3)) wc.heap.size 3 (((curI L 1).map iv).toArray)) := Lib.hid (by
      have h0 := HTH.out.1.first
      rw [curI_one h0]
      exact Blk.new wc _ _)
    have HR2 : Hid (∀ W, Below wc.heap.size wc W → W.rangeAt p 0 (jc T C)) := Lib.hid (fun W hb j v hv => (hb.cell (p := ⟨p, _, none⟩) HPL.out.2).trans (HR.out j v hv))
    go_loopw [7] (fun ii wr => ∃ i : Nat, ii = .int .i64 i ∧ 1 ≤ i ∧ i ≤ L.length ∧ Blk wr wc.heap.size 3 (((curI L i).map iv).toArray) ∧ Below wc.heap.size wc wr) (fun ii _ => L.length - (intOf ii).toNat)
    case atStart => exact ⟨1, rfl, Nat.le_refl _, HLN.out.1, HQ.out, (Below.refl _ _).alloc (Nat.le_refl _) _⟩
    case round =>
      clear HQ
      obtain ⟨i, rfl, hi0, hi, hq, hb⟩ := hrel
      have HQ := Lib.hid hq; have HBR := Lib.hid hb; clear hq hb
      by_cases hlt : i < L.length
      case neg =>
        obtain rfl : i = L.length := by omega
        have hni : ¬ ((L.length : Int) < (L.length : Int)) := by omega
        clear hi0 hi hlt hlen
        go_wp2_with fail
        go_ret
        exact ⟨L, wc.heap.size, rfl, HTH.out, by have h := HQ.out; rw [curI_all, List.map_map] at h; exact h, Nat.le_trans HPL.out.1 (by have := HPL.out.2; omega), HB.out.trans (HBR.out.mono HB.out.size)⟩
      case pos =>
        obtain ⟨a, ha⟩ : ∃ a, a = L[i - 1]'(by omega) := ⟨_, rfl⟩
        obtain ⟨b, hbv⟩ : ∃ b, b = L[i] := ⟨_, rfl⟩
        have hnx := HP.out.next
        have hTa : T a = (b : Int) := by
          refine hnx.2.1 (i - 1) a b (by rw [ha]; exact List.getElem?_eq_getElem _) ?_
          rw [show i - 1 + 1 = i from by omega, hbv]; exact List.getElem?_eq_getElem _
        have han : a < 200 := by have h := hnx.2.2 a (by rw [ha]; exact List.getElem_mem _); omega
        have e1 : IntKind.i64.wrap ((i : Int) - 1) = ((i - 1 : Nat) : Int) := by rw [IntWalk.i64_in _ (by omega)]; omega
        have y1 := HQ.out.cell (i := i - 1) (v := .int .i64 (a : Nat)) (by rw [ha]; exact iv_get (curI_at (by omega) (by omega)))
        have y2 := HQ.out.cell (i := i) (v := .int .i64 0) (iv_get (curI_z hlt)); have y3 := HQ.out.frozen i
        have y4 : wr.cell? ⟨p, a * 2, none⟩ = some (.int .i64 (b : Nat)) := by
          have h := HR2.out wr HBR.out (a * 2) (.int .i64 (T a)) (by have h2 := jc_to (T := T) (C := C) han; rw [List.getElem?_toArray] at h2; exact h2)
          rw [hTa] at h
          simpa using h
        have HS : Hid ((curI L i).set i (b : Nat) = curI L (i + 1)) := Lib.hid (by rw [hbv]; exact curI_succ hlt)
        have q1 : (0 : Int) ≤ ((i - 1 : Nat) : Int) := by omega
        have q2 : ((i - 1 : Nat) : Int) < (L.length : Int) := by omega
        have q3 : (0 : Int) ≤ (a : Int) := by omega
        have q4 : (a : Int) < 200 := by omega
        have q5 : (i : Int) + 1 ≤ 9223372036854775807 := by omega
        have q6 : (0 : Int) ≤ (i : Int) := by omega
        have q7 : (i : Int) < (L.length : Int) := by omega
        have HI := Lib.hid (And.intro hi0 hlt)
        clear ha hbv hnx hTa han hi0 hi hlt hlen hn2
        go_wp2_with fail
        clear y1 y2 y3 y4
        go_roundw
        case rel => exact ⟨i + 1, by go_num, by omega, by have := HI.out; omega, by have h := HQ.out.set i (iv (b : Nat)); rw [iv_set, HS.out] at h; exact h, HBR.out.setCell (p := ⟨wc.heap.size, i, none⟩) (Nat.le_refl _) _⟩
        case measure => have := HI.out; simp [intOf]; omega
/-- The indices have been returned, or none. -/
def OutI (ok : Prop) (P : List Nat → Prop) (w : World) (e : Ending) (w' : World) : Prop :=
  ((ok ∧ ∃ (L : List Nat) (A : Option Addr) (c : Nat), e = .returned (.tuple #[.slice A L.length c, .int .i64 0]) ∧ P L ∧ Iz w' A (L.map Int.ofNat) ∧ L.length ≤ c) ∨
   (¬ ok ∧ e = .returned (.tuple #[.slice none 0 0, .int .i64 50]))) ∧ Below w.heap.size w w'
theorem Iz.of_blk {w : World} {q : Nat} {l : List Int} (h : Blk w q 3 ((l.map iv).toArray)) : Iz w (some ⟨q, 0, none⟩) l := fun _ => ⟨q, 0, rfl, h.lt, fun i hi => h.cell (i := 0 + i) (by rw [Nat.zero_add]; exact iv_get (List.getElem?_eq_getElem hi))⟩
set_option maxRecDepth 100000 in
set_option maxHeartbeats 8000000 in
theorem pthin_any (P N : Int) (ds : List Dt) (A : Option Addr) (c : Nat) (z : Int) (w : World) (hA : Dz w A ds) (hz : ds.length ≤ 9000000000000000000) (hc : ds.length ≤ c) :
    Calls Tryd.prog 54 #[.agg #[.int .i64 P, .int .i64 N, .slice A ds.length c], .int .i64 z] w (OutI (Vd P N ds ∧ 0 ≤ z ∧ z ≤ 1000) (IsThin (BetwP ds z) (ds.length - 1)) w) := by
  by_cases hv : Vd P N ds
  case neg =>
    have HV := Lib.hid (fun W (hb : Below w.heap.size w W) => pvalid_not P N ds A c W (hA.below hb (Nat.le_refl _)) hz hv)
    have HNO : Hid (¬ (Vd P N ds ∧ 0 ≤ z ∧ z ≤ 1000)) := Lib.hid (fun h => hv h.1); clear hA hz hc hv
    have S_0 : Hid (Blk (w.alloc (.cells #[.int .i64 P, .int .i64 N, .slice A ds.length c] 26)) w.heap.size 26 #[.int .i64 P, .int .i64 N, .slice A ds.length c]) := allocs_blk [(#[.int .i64 P, .int .i64 N, .slice A ds.length c], 26)] w 0 _ rfl
    have HB_0 : Hid (Below w.heap.size w (w.alloc (.cells #[.int .i64 P, .int .i64 N, .slice A ds.length c] 26))) := allocs_below [(#[.int .i64 P, .int .i64 N, .slice A ds.length c], 26)] w (Below.refl w.heap.size w) (Nat.le_refl _)
    go_enter Tryd.func54, Tryd.ntmps54
    have yy0 := S_0.out.cell (i := 0) (v := .int .i64 P) rfl; have yy1 := S_0.out.cell (i := 1) (v := .int .i64 N) rfl; have yy2 := S_0.out.cell (i := 2) (v := .slice A ds.length c) rfl
    go_wp2_with fail
    refine (HV.out _ HB_0.out).mono ?_
    rintro e v0 ⟨rfl, hb⟩
    clear yy0 yy1 yy2
    have S_1 : Hid (Blk v0 w.heap.size 26 #[.int .i64 P, .int .i64 N, .slice A ds.length c]) := Lib.hid (S_0.out.below hb S_0.out.lt)
    have HB_1 : Hid (Below w.heap.size w v0) := Lib.hid (HB_0.out.trans (hb.mono HB_0.out.size))
    clear hb S_0 HB_0
    have hundef := un_none
    go_wp2_with fail
    go_ret2
    exact ⟨.inr ⟨HNO.out, rfl⟩, HB_1.out⟩
  case pos =>
    have HV := Lib.hid (fun W (hb : Below w.heap.size w W) => pvalid_yes P N ds A c W (hA.below hb (Nat.le_refl _)) hz hv)
    by_cases ht : 0 ≤ z ∧ z ≤ 1000
    case neg =>
      have HT := Lib.hid (fun W => ptol_not z W ht)
      have HNO : Hid (¬ (Vd P N ds ∧ 0 ≤ z ∧ z ≤ 1000)) := Lib.hid (fun h => ht h.2); clear hA hz hc hv ht
      have S_0 : Hid (Blk (w.alloc (.cells #[.int .i64 P, .int .i64 N, .slice A ds.length c] 26)) w.heap.size 26 #[.int .i64 P, .int .i64 N, .slice A ds.length c]) := allocs_blk [(#[.int .i64 P, .int .i64 N, .slice A ds.length c], 26)] w 0 _ rfl
      have HB_0 : Hid (Below w.heap.size w (w.alloc (.cells #[.int .i64 P, .int .i64 N, .slice A ds.length c] 26))) := allocs_below [(#[.int .i64 P, .int .i64 N, .slice A ds.length c], 26)] w (Below.refl w.heap.size w) (Nat.le_refl _)
      go_enter Tryd.func54, Tryd.ntmps54
      have yy0 := S_0.out.cell (i := 0) (v := .int .i64 P) rfl; have yy1 := S_0.out.cell (i := 1) (v := .int .i64 N) rfl; have yy2 := S_0.out.cell (i := 2) (v := .slice A ds.length c) rfl
      go_wp2_with fail
      refine (HV.out _ HB_0.out).mono ?_
      rintro e v0 ⟨rfl, hb⟩
      clear yy0 yy1 yy2
      have S_1 : Hid (Blk v0 w.heap.size 26 #[.int .i64 P, .int .i64 N, .slice A ds.length c]) := Lib.hid (S_0.out.below hb S_0.out.lt)
      have HB_1 : Hid (Below w.heap.size w v0) := Lib.hid (HB_0.out.trans (hb.mono HB_0.out.size))
      clear hb S_0 HB_0
      go_wp2_with fail
      refine (HT.out _).mono ?_
      rintro e v1 ⟨rfl, hb⟩
      have S_2 : Hid (Blk v1 w.heap.size 26 #[.int .i64 P, .int .i64 N, .slice A ds.length c]) := Lib.hid (S_1.out.below hb S_1.out.lt)
      have HB_2 : Hid (Below w.heap.size w v1) := Lib.hid (HB_1.out.trans (hb.mono HB_1.out.size))
      clear hb S_1 HB_1
      go_wp2_with fail
      go_ret2
      exact ⟨.inr ⟨HNO.out, rfl⟩, HB_2.out⟩
    case pos =>
      have HT := Lib.hid (fun W => ptol_yes z W ht)
      have HF := Lib.hid (fun W (hb : Below w.heap.size w W) => pfewest_any ds A c z W (hA.below hb (Nat.le_refl _)) hv.2.2.1 hc (fun d hd => (hv.mem d hd).1) ht)
      have HYES := Lib.hid (And.intro hv ht); clear hA hz hc hv ht
      have S_0 : Hid (Blk (w.alloc (.cells #[.int .i64 P, .int .i64 N, .slice A ds.length c] 26)) w.heap.size 26 #[.int .i64 P, .int .i64 N, .slice A ds.length c]) := allocs_blk [(#[.int .i64 P, .int .i64 N, .slice A ds.length c], 26)] w 0 _ rfl
      have HB_0 : Hid (Below w.heap.size w (w.alloc (.cells #[.int .i64 P, .int .i64 N, .slice A ds.length c] 26))) := allocs_below [(#[.int .i64 P, .int .i64 N, .slice A ds.length c], 26)] w (Below.refl w.heap.size w) (Nat.le_refl _)
      go_enter Tryd.func54, Tryd.ntmps54
      have yy0 := S_0.out.cell (i := 0) (v := .int .i64 P) rfl; have yy1 := S_0.out.cell (i := 1) (v := .int .i64 N) rfl; have yy2 := S_0.out.cell (i := 2) (v := .slice A ds.length c) rfl
      go_wp2_with fail
      refine (HV.out _ HB_0.out).mono ?_
      rintro e v0 ⟨rfl, hb⟩
      clear yy0 yy1 yy2
      have S_1 : Hid (Blk v0 w.heap.size 26 #[.int .i64 P, .int .i64 N, .slice A ds.length c]) := Lib.hid (S_0.out.below hb S_0.out.lt)
      have HB_1 : Hid (Below w.heap.size w v0) := Lib.hid (HB_0.out.trans (hb.mono HB_0.out.size))
      clear hb S_0 HB_0
      go_wp2_with fail
      refine (HT.out _).mono ?_
      rintro e v1 ⟨rfl, hb⟩
      have S_2 : Hid (Blk v1 w.heap.size 26 #[.int .i64 P, .int .i64 N, .slice A ds.length c]) := Lib.hid (S_1.out.below hb S_1.out.lt)
      have HB_2 : Hid (Below w.heap.size w v1) := Lib.hid (HB_1.out.trans (hb.mono HB_1.out.size))
      clear hb S_1 HB_1
      have yy0 := S_2.out.cell (i := 0) (v := .int .i64 P) rfl; have yy1 := S_2.out.cell (i := 1) (v := .int .i64 N) rfl; have yy2 := S_2.out.cell (i := 2) (v := .slice A ds.length c) rfl
      go_wp2_with fail
      refine (HF.out _ HB_2.out).mono ?_
      rintro e v9 ⟨L, q, rfl, hth, hq, hqw, hb⟩
      have HTH := Lib.hid hth; have HQ := Lib.hid hq; have HBF := Lib.hid (HB_2.out.trans (hb.mono HB_2.out.size)); clear hth hq hqw hb
      clear yy0 yy1 yy2
      go_wp2_with fail
      go_ret2
      exact ⟨.inl ⟨HYES.out, L, _, _, rfl, HTH.out, Iz.of_blk HQ.out, Nat.le_refl _⟩, HBF.out⟩
end Go.Proofs.YtmjcjaecaigahaaDoor
