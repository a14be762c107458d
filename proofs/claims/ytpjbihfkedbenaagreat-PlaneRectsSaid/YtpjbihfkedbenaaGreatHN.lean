/- The contract of the reference's Rect; PlaneRects answers true. Conditions: ints, the rows read. -/
import Derived.Deep.CutRange
import Derived.Test.YtpjbihfkedbenaaGreatHJ
import Derived.Test.YtpjbihfkedbenaaGreatHM
import Derived.Test.YtpjbihfkedbenaaGreatHC
namespace Go.Proofs.YtpjbihfkedbenaaGreat
open Go.RowKit Go.Lib
def rct7 (x y u v : Int) : R7 := ⟨pk7 x 40, pk7 y 40, pk7 u 30, pk7 v 30⟩
theorem rct7_ok (x y u v : Int) : (rct7 x y u v).ok := by
 have h1 := pk7_in x (n := 40) (by omega); have h2 := pk7_in y (n := 40) (by omega); have h3 := pk7_in u (n := 30) (by omega); have h4 := pk7_in v (n := 30) (by omega)
 unfold rct7 R7.ok; simp only; omega
theorem in7_iff {a b : R7} (ha : a.ok) (hb : b.ok) : in7 a b = true ↔ (b.x <= a.x /\ b.y <= a.y) /\ a.x + a.w <= b.x + b.w /\ a.y + a.h <= b.y + b.h := by
 unfold in7; simp only [Bool.and_eq_true, Bool.not_eq_true', bf7_no, decide_eq_true_eq, ul7, lr7]; exact ⟨fun h => ⟨h.1.2, h.2⟩, fun h => ⟨⟨⟨ha, hb⟩, h.1⟩, h.2⟩⟩
theorem tc7_iff {a b : R7} (ha : a.ok) (hb : b.ok) : tc7 a b = true ↔ (b.x <= a.x + a.w /\ b.y <= a.y + a.h) /\ a.x <= b.x + b.w /\ a.y <= b.y + b.h := by
 unfold tc7; simp only [Bool.and_eq_true, Bool.not_eq_true', bf7_no, decide_eq_true_eq, ul7, lr7]; exact ⟨fun h => ⟨h.1.2, h.2⟩, fun h => ⟨⟨⟨ha, hb⟩, h.1⟩, h.2⟩⟩
theorem in7_refl {a : R7} (ha : a.ok) : in7 a a = true := by rw [in7_iff ha ha]; omega
theorem tc7_refl {a : R7} (ha : a.ok) : tc7 a a = true := by rw [tc7_iff ha ha]; unfold R7.ok at ha; omega
theorem tc7_swap {a b : R7} (ha : a.ok) (hb : b.ok) : tc7 b a = tc7 a b := by rw [Bool.eq_iff_iff, tc7_iff ha hb, tc7_iff hb ha]; omega
theorem in7_trans {a b c : R7} (ha : a.ok) (hb : b.ok) (hc : c.ok) (h1 : in7 a b = true) (h2 : in7 b c = true) : in7 a c = true := by rw [in7_iff ha hb] at h1; rw [in7_iff hb hc] at h2; rw [in7_iff ha hc]; omega
theorem in7_anti {a b : R7} (ha : a.ok) (hb : b.ok) (h1 : in7 a b = true) (h2 : in7 b a = true) : a = b := by
 rw [in7_iff ha hb] at h1; rw [in7_iff hb ha] at h2
 obtain ⟨x, y, u, v⟩ := a; obtain ⟨x2, y2, u2, v2⟩ := b
 simp only at h1 h2; simp only [R7.mk.injEq]; omega
theorem in7_tc {a b : R7} (ha : a.ok) (hb : b.ok) (h1 : in7 a b = true) : tc7 a b = true := by rw [in7_iff ha hb] at h1; rw [tc7_iff ha hb]; unfold R7.ok at ha hb; omega
theorem in7_tc2 {a b c : R7} (ha : a.ok) (hb : b.ok) (hc : c.ok) (h1 : in7 a b = true) (h2 : tc7 a c = true) : tc7 b c = true := by rw [in7_iff ha hb] at h1; rw [tc7_iff ha hc] at h2; rw [tc7_iff hb hc]; omega
theorem lo7_fold : ∀ (l : List P7) (p : P7) (u v : Int), (u <= (l.foldl lo7 p).x ↔ u <= p.x /\ ∀ q ∈ l, u <= q.x) /\ (v <= (l.foldl lo7 p).y ↔ v <= p.y /\ ∀ q ∈ l, v <= q.y)
 | [], p, u, v => by simp
 | q :: l, p, u, v => by
   have h := lo7_fold l (lo7 p q) u v
   have e1 : u <= (lo7 p q).x ↔ u <= p.x /\ u <= q.x := by unfold lo7; simp only; omega
   have e2 : v <= (lo7 p q).y ↔ v <= p.y /\ v <= q.y := by unfold lo7; simp only; omega
   rw [List.foldl_cons, List.forall_mem_cons, List.forall_mem_cons, h.1, h.2, e1, e2, and_assoc, and_assoc]
   exact ⟨Iff.rfl, Iff.rfl⟩
theorem hi7_fold : ∀ (l : List P7) (p : P7) (u v : Int), ((l.foldl hi7 p).x <= u ↔ p.x <= u /\ ∀ q ∈ l, q.x <= u) /\ ((l.foldl hi7 p).y <= v ↔ p.y <= v /\ ∀ q ∈ l, q.y <= v)
 | [], p, u, v => by simp
 | q :: l, p, u, v => by
   have h := hi7_fold l (hi7 p q) u v
   have e1 : (hi7 p q).x <= u ↔ p.x <= u /\ q.x <= u := by unfold hi7; simp only; omega
   have e2 : (hi7 p q).y <= v ↔ p.y <= v /\ q.y <= v := by unfold hi7; simp only; omega
   rw [List.foldl_cons, List.forall_mem_cons, List.forall_mem_cons, h.1, h.2, e1, e2, and_assoc, and_assoc]
   exact ⟨Iff.rfl, Iff.rfl⟩
theorem few7_fold {l : List P7} {p0 : P7} (hf : Few7 l) (h0 : p0 ∈ l) :
   ((0 <= (l.foldl lo7 p0).x /\ (l.foldl lo7 p0).x <= 39) /\ (0 <= (l.foldl lo7 p0).y /\ (l.foldl lo7 p0).y <= 39)) /\ (0 <= (l.foldl hi7 p0).x /\ (l.foldl hi7 p0).x <= 39) /\ (0 <= (l.foldl hi7 p0).y /\ (l.foldl hi7 p0).y <= 39) := by
 have hp := hf.2 p0 h0
 have a := lo7_fold l p0 0 0; have b := hi7_fold l p0 39 39
 have a2 := lo7_fold l p0 (l.foldl lo7 p0).x (l.foldl lo7 p0).y; have b2 := hi7_fold l p0 (l.foldl hi7 p0).x (l.foldl hi7 p0).y
 have c1 := (a.1.2 ⟨by omega, fun q hq => by have := hf.2 q hq; omega⟩); have c2 := (a.2.2 ⟨by omega, fun q hq => by have := hf.2 q hq; omega⟩)
 have c3 := (b.1.2 ⟨by omega, fun q hq => by have := hf.2 q hq; omega⟩); have c4 := (b.2.2 ⟨by omega, fun q hq => by have := hf.2 q hq; omega⟩)
 have d1 := (a2.1.1 (Int.le_refl _)).1; have d2 := (a2.2.1 (Int.le_refl _)).1; have d3 := (b2.1.1 (Int.le_refl _)).1; have d4 := (b2.2.1 (Int.le_refl _)).1
 omega
theorem ar7_ok {l : List P7} {p0 : P7} (hf : Few7 l) (h0 : p0 ∈ l) : (ar7 p0 l).ok := by
 have h := few7_fold hf h0
 have a2 := lo7_fold l p0 (l.foldl lo7 p0).x (l.foldl lo7 p0).y; have b2 := hi7_fold l p0 (l.foldl hi7 p0).x (l.foldl hi7 p0).y
 have d1 := (a2.1.1 (Int.le_refl _)).1; have d2 := (a2.2.1 (Int.le_refl _)).1; have d3 := (b2.1.1 (Int.le_refl _)).1; have d4 := (b2.2.1 (Int.le_refl _)).1
 unfold R7.ok ar7; simp only; omega
theorem ar7_in {l : List P7} {p0 q : P7} (hf : Few7 l) (h0 : p0 ∈ l) (hq : q ∈ l) : in7 ⟨q.x, q.y, 0, 0⟩ (ar7 p0 l) = true := by
 have hq' := hf.2 q hq
 have hok : (⟨q.x, q.y, 0, 0⟩ : R7).ok := by unfold R7.ok; simp only; omega
 rw [in7_iff hok (ar7_ok hf h0)]
 have a2 := lo7_fold l p0 (l.foldl lo7 p0).x (l.foldl lo7 p0).y; have b2 := hi7_fold l p0 (l.foldl hi7 p0).x (l.foldl hi7 p0).y
 have d1 := (a2.1.1 (Int.le_refl _)).2 q hq; have d2 := (a2.2.1 (Int.le_refl _)).2 q hq; have d3 := (b2.1.1 (Int.le_refl _)).2 q hq; have d4 := (b2.2.1 (Int.le_refl _)).2 q hq
 unfold ar7; simp only; omega
theorem ar7_tc {l : List P7} {p0 z : P7} (hf : Few7 l) (h0 : p0 ∈ l) (hz : (0 <= z.x /\ z.x <= 39) /\ (0 <= z.y /\ z.y <= 39)) :
   tc7 ⟨z.x, z.y, 0, 0⟩ (ar7 p0 l) = (((decide ((l.foldl lo7 p0).x <= z.x) && decide (z.x <= (l.foldl hi7 p0).x)) && decide ((l.foldl lo7 p0).y <= z.y)) && decide (z.y <= (l.foldl hi7 p0).y)) := by
 have hok : (⟨z.x, z.y, 0, 0⟩ : R7).ok := by unfold R7.ok; simp only; omega
 rw [Bool.eq_iff_iff, tc7_iff hok (ar7_ok hf h0)]
 unfold ar7; simp only [Bool.and_eq_true, decide_eq_true_eq]; omega
set_option maxRecDepth 100000 in
set_option maxHeartbeats 8000000 in
theorem rrect7_any (x y u v : Int) (w : World) (hx : I64 x) (hy : I64 y) (hu : I64 u) (hv : I64 v) : Yl 11 #[.agg #[.int .i64 x, .int .i64 y, .int .i64 u, .int .i64 v]] w (r7v (rct7 x y u v)) := by
 have HP1 := Lib.hid (fun W => rpick7_any x 40 W hx (by omega)); have HP2 := Lib.hid (fun W => rpick7_any y 40 W hy (by omega)); have HP3 := Lib.hid (fun W => rpick7_any u 30 W hu (by omega)); have HP4 := Lib.hid (fun W => rpick7_any v 30 W hv (by omega))
 show Yl _ _ w (.agg #[.int .i64 (pk7 x 40), .int .i64 (pk7 y 40), .int .i64 (pk7 u 30), .int .i64 (pk7 v 30)])
 generalize pk7 x 40 = a at *
 generalize pk7 y 40 = b at *
 generalize pk7 u 30 = c at *
 generalize pk7 v 30 = d at *
 clear hx hy hu hv
 have S_0 : Hid (Blk ((w.alloc (.cells #[.int .i64 x, .int .i64 y, .int .i64 u, .int .i64 v] 35)).alloc (.cells #[.int .i64 0, .int .i64 0, .int .i64 0, .int .i64 0] 39)) w.heap.size 35 #[.int .i64 x, .int .i64 y, .int .i64 u, .int .i64 v]) := allocs_blk [(#[.int .i64 x, .int .i64 y, .int .i64 u, .int .i64 v], 35), (#[.int .i64 0, .int .i64 0, .int .i64 0, .int .i64 0], 39)] w 0 _ rfl
 have Z_0 : Hid (Blk ((w.alloc (.cells #[.int .i64 x, .int .i64 y, .int .i64 u, .int .i64 v] 35)).alloc (.cells #[.int .i64 0, .int .i64 0, .int .i64 0, .int .i64 0] 39)) (w.heap.size + 1) 39 #[.int .i64 0, .int .i64 0, .int .i64 0, .int .i64 0]) := allocs_blk [(#[.int .i64 x, .int .i64 y, .int .i64 u, .int .i64 v], 35), (#[.int .i64 0, .int .i64 0, .int .i64 0, .int .i64 0], 39)] w 1 _ rfl
 have HB_0 : Hid (Below w.heap.size w ((w.alloc (.cells #[.int .i64 x, .int .i64 y, .int .i64 u, .int .i64 v] 35)).alloc (.cells #[.int .i64 0, .int .i64 0, .int .i64 0, .int .i64 0] 39))) := allocs_below [(#[.int .i64 x, .int .i64 y, .int .i64 u, .int .i64 v], 35), (#[.int .i64 0, .int .i64 0, .int .i64 0, .int .i64 0], 39)] w (Below.refl w.heap.size w) (Nat.le_refl _)
 go_enter Tryz.func11, Tryz.ntmps11
 go_wp2_with fail
 refine wp_region_grow (S := (fun w' => w'.cell? ⟨w.heap.size, 0, none⟩ = some (.int .i64 x) /\ w'.cell? ⟨w.heap.size, 1, none⟩ = some (.int .i64 y) /\ w'.cell? ⟨w.heap.size, 2, none⟩ = some (.int .i64 u) /\ w'.cell? ⟨w.heap.size, 3, none⟩ = some (.int .i64 v))) ((fun w' => ((Below w.heap.size w w') /\ Blk w' w.heap.size 35 #[.int .i64 x, .int .i64 y, .int .i64 u, .int .i64 v]) /\ Blk w' (w.heap.size + 1) 39 #[.int .i64 0, .int .i64 0, .int .i64 0, .int .i64 0])) (by kernel_rfl) (⟨fun w2 h2 => ⟨h2.1.2.cell (i := 0) (v := .int .i64 x) rfl, h2.1.2.cell (i := 1) (v := .int .i64 y) rfl, h2.1.2.cell (i := 2) (v := .int .i64 u) rfl, h2.1.2.cell (i := 3) (v := .int .i64 v) rfl⟩, fun w2 w3 h2 hb2 => ⟨⟨h2.1.1.trans (hb2.mono h2.1.1.size), h2.1.2.below hb2 h2.1.2.lt⟩, h2.2.below hb2 h2.2.lt⟩⟩) (⟨⟨HB_0.out.drew, S_0.out.drew⟩, Z_0.out.drew⟩) (fun hCalm => ?_)
 refine grow_take 0 (some 3) ?_ rfl rfl (by kernel_rfl) (fun _ _ _ h => h) (by kernel_rfl) hCalm ?_ ?_
 rotate_left
 · intro wS hS; (try dsimp only at hS); go_simp <;> with_reducible rfl
 try simp only [Act.put, q8a, q8b, q8c]
 refine grow_take 1 (some 4) ?_ rfl rfl (by kernel_rfl) (fun _ _ _ h => h) (by kernel_rfl) hCalm ?_ ?_
 rotate_left
 · intro wS hS; (try dsimp only at hS); go_simp <;> with_reducible rfl
 try simp only [Act.put, q8a, q8b, q8c]
 refine grow_take 3 (some 6) ?_ rfl rfl (by kernel_rfl) (fun _ _ _ h => h) (by kernel_rfl) hCalm ?_ ?_
 rotate_left
 · intro wS hS; (try dsimp only at hS); go_simp <;> with_reducible rfl
 try simp only [Act.put, q8a, q8b, q8c]
 refine grow_take 4 (some 7) ?_ rfl rfl (by kernel_rfl) (fun _ _ _ h => h) (by kernel_rfl) hCalm ?_ ?_
 rotate_left
 · intro wS hS; (try dsimp only at hS); go_simp <;> with_reducible rfl
 try simp only [Act.put, q8a, q8b, q8c]
 refine grow_take 6 (some 9) ?_ rfl rfl (by kernel_rfl) (fun _ _ _ h => h) (by kernel_rfl) hCalm ?_ ?_
 rotate_left
 · intro wS hS; (try dsimp only at hS); go_simp <;> with_reducible rfl
 try simp only [Act.put, q8a, q8b, q8c]
 refine grow_take 7 (some 10) ?_ rfl rfl (by kernel_rfl) (fun _ _ _ h => h) (by kernel_rfl) hCalm ?_ ?_
 rotate_left
 · intro wS hS; (try dsimp only at hS); go_simp <;> with_reducible rfl
 try simp only [Act.put, q8a, q8b, q8c]
 refine grow_take 9 (some 12) ?_ rfl rfl (by kernel_rfl) (fun _ _ _ h => h) (by kernel_rfl) hCalm ?_ ?_
 rotate_left
 · intro wS hS; (try dsimp only at hS); go_simp <;> with_reducible rfl
 try simp only [Act.put, q8a, q8b, q8c]
 refine grow_take 10 (some 13) ?_ rfl rfl (by kernel_rfl) (fun _ _ _ h => h) (by kernel_rfl) hCalm ?_ ?_
 rotate_left
 · intro wS hS; (try dsimp only at hS); go_simp <;> with_reducible rfl
 try simp only [Act.put, q8a, q8b, q8c]
 refine grow_call 2 (some 5) (.int .i64 a) 30 [.tmp 4, .const (Go.Value.int Go.IntKind.i64 40)] #[3, 3] rfl rfl (by kernel_rfl) (fun _ _ _ h => h) (by kernel_rfl) hCalm rfl (enters_of Tryz.func30 (by kernel_rfl) rfl) (fun wz _ => HP1.out wz) (by kernel_rfl) ?_
 try simp only [Act.put, q8a, q8b, q8c]
 refine grow_call 5 (some 8) (.int .i64 b) 30 [.tmp 7, .const (Go.Value.int Go.IntKind.i64 40)] #[3, 3] rfl rfl (by kernel_rfl) (fun _ _ _ h => h) (by kernel_rfl) hCalm rfl (enters_of Tryz.func30 (by kernel_rfl) rfl) (fun wz _ => HP2.out wz) (by kernel_rfl) ?_
 try simp only [Act.put, q8a, q8b, q8c]
 refine grow_call 8 (some 11) (.int .i64 c) 30 [.tmp 10, .const (Go.Value.int Go.IntKind.i64 30)] #[3, 3] rfl rfl (by kernel_rfl) (fun _ _ _ h => h) (by kernel_rfl) hCalm rfl (enters_of Tryz.func30 (by kernel_rfl) rfl) (fun wz _ => HP3.out wz) (by kernel_rfl) ?_
 try simp only [Act.put, q8a, q8b, q8c]
 refine grow_call 11 (some 14) (.int .i64 d) 30 [.tmp 13, .const (Go.Value.int Go.IntKind.i64 30)] #[3, 3] rfl rfl (by kernel_rfl) (fun _ _ _ h => h) (by kernel_rfl) hCalm rfl (enters_of Tryz.func30 (by kernel_rfl) rfl) (fun wz _ => HP4.out wz) (by kernel_rfl) ?_
 try simp only [Act.put, q8a, q8b, q8c]
 refine grow_take 12 (some 15) ?_ rfl rfl (by kernel_rfl) (fun _ _ _ h => h) (by kernel_rfl) hCalm ?_ ?_
 rotate_left
 · intro wS hS; (try dsimp only at hS); go_simp <;> with_reducible rfl
 try simp only [Act.put, q8a, q8b, q8c]
 refine grow_each [13] (by kernel_rfl) (by decide) ?_
 refine grow_cons 13 rfl (by kernel_rfl) (fun wA hA K hK => ?_) grow_nil
 have z0 := hA.2.cell (i := 0) (v := .int .i64 0) rfl; have f0 := hA.2.frozen 0
 have z1 := hA.2.cell (i := 1) (v := .int .i64 0) rfl; have f1 := hA.2.frozen 1
 have z2 := hA.2.cell (i := 2) (v := .int .i64 0) rfl; have f2 := hA.2.frozen 2
 have z3 := hA.2.cell (i := 3) (v := .int .i64 0) rfl; have f3 := hA.2.frozen 3
 go_simp
 clear hCalm; refine grow_put hK (fun w' => ((Below w.heap.size w w') /\ Blk w' w.heap.size 35 #[.int .i64 x, .int .i64 y, .int .i64 u, .int .i64 v]) /\ Blk w' (w.heap.size + 1) 39 #[(.int .i64 a), (.int .i64 b), (.int .i64 c), (.int .i64 d)]) ⟨fun w2 h2 => ⟨h2.1.2.cell (i := 0) (v := .int .i64 x) rfl, h2.1.2.cell (i := 1) (v := .int .i64 y) rfl, h2.1.2.cell (i := 2) (v := .int .i64 u) rfl, h2.1.2.cell (i := 3) (v := .int .i64 v) rfl⟩, fun w2 w3 h2 hb2 => ⟨⟨h2.1.1.trans (hb2.mono h2.1.1.size), h2.1.2.below hb2 h2.1.2.lt⟩, h2.2.below hb2 h2.2.lt⟩⟩ ⟨⟨((((hA.1.1.setCell (p := ⟨(w.heap.size + 1), 0, none⟩) (by show w.heap.size <= (w.heap.size + 1); omega) _).setCell (p := ⟨(w.heap.size + 1), 1, none⟩) (by show w.heap.size <= (w.heap.size + 1); omega) _).setCell (p := ⟨(w.heap.size + 1), 2, none⟩) (by show w.heap.size <= (w.heap.size + 1); omega) _).setCell (p := ⟨(w.heap.size + 1), 3, none⟩) (by show w.heap.size <= (w.heap.size + 1); omega) _), ((((hA.1.2.far (p := ⟨(w.heap.size + 1), 0, none⟩) (by show w.heap.size ≠ (w.heap.size + 1); omega) _).far (p := ⟨(w.heap.size + 1), 1, none⟩) (by show w.heap.size ≠ (w.heap.size + 1); omega) _).far (p := ⟨(w.heap.size + 1), 2, none⟩) (by show w.heap.size ≠ (w.heap.size + 1); omega) _).far (p := ⟨(w.heap.size + 1), 3, none⟩) (by show w.heap.size ≠ (w.heap.size + 1); omega) _)⟩, ((((hA.2.set 0 _).set 1 _).set 2 _).set 3 _)⟩ (fun hCalm => ?_)
 clear z0 f0 z1 f1 z2 f2 z3 f3 hK K hA wA
 try simp only [Act.put]
 refine grow_done (by kernel_rfl) (fun wA hA => ?_) _
 have HZ := Lib.hid hA.2; have HB9 := Lib.hid hA.1.1
 clear hA hCalm
 have r0 := HZ.out.cell (i := 0) (v := .int .i64 a) rfl; have r1 := HZ.out.cell (i := 1) (v := .int .i64 b) rfl; have r2 := HZ.out.cell (i := 2) (v := .int .i64 c) rfl; have r3 := HZ.out.cell (i := 3) (v := .int .i64 d) rfl
 go_wp2_with fail
 exact bodyPost_ret (v := .agg #[.int .i64 a, .int .i64 b, .int .i64 c, .int .i64 d]) (by simp [results, Tryz.results11, go_sem, r0, r1, r2, r3]) rfl ⟨rfl, HB9.out⟩
set_option maxRecDepth 100000 in
set_option maxHeartbeats 32000000 in
theorem plane_rects (y0 y1 y2 y3 y4 y5 y6 y7 y8 y9 y10 y11 : Int) (A : Option Addr) (n c0 : Nat) (z0 z1 : Int) (w : World) (h0 : I64 y0) (h1 : I64 y1) (h2 : I64 y2) (h3 : I64 y3) (h4 : I64 y4) (h5 : I64 y5) (h6 : I64 y6) (h7 : I64 y7) (h8 : I64 y8) (h9 : I64 y9) (h10 : I64 y10) (h11 : I64 y11) (hA : Xz 2 w A n) (hz : n <= 9223372036854775807) (k0 : I64 z0) (k1 : I64 z1) : Yl 4 #[.agg #[.int .i64 y0, .int .i64 y1, .int .i64 y2, .int .i64 y3, .int .i64 y4, .int .i64 y5, .int .i64 y6, .int .i64 y7, .int .i64 y8, .int .i64 y9, .int .i64 y10, .int .i64 y11], .slice A n c0, .agg #[.int .i64 z0, .int .i64 z1]] w (.bool true) := by
 have HSN := Lib.hid sane7_any
 have HRA := Lib.hid (fun W => rrect7_any y0 y1 y2 y3 W h0 h1 h2 h3); have HRB := Lib.hid (fun W => rrect7_any y4 y5 y6 y7 W h4 h5 h6 h7); have HRC := Lib.hid (fun W => rrect7_any y8 y9 y10 y11 W h8 h9 h10 h11)
 have ka := rct7_ok y0 y1 y2 y3; have kb := rct7_ok y4 y5 y6 y7; have kc := rct7_ok y8 y9 y10 y11
 generalize rct7 y0 y1 y2 y3 = a at *
 generalize rct7 y4 y5 y6 y7 = b at *
 generalize rct7 y8 y9 y10 y11 = c at *
 have HPZ := Lib.hid (fun W => rplace7_any z0 z1 W k0 k1)
 have kz := plc7_in z0 z1
 generalize plc7 z0 z1 = z at *
 have HX := Lib.hid hA; have HN := Lib.hid hz; have HKZ := Lib.hid kz
 have HAA := Lib.hid (fun W => inside_any a a W); have HTA := Lib.hid (fun W => touch_any a a W); have HT1 := Lib.hid (fun W => touch_any a b W); have HT2 := Lib.hid (fun W => touch_any b a W)
 have HAB := Lib.hid (fun W => inside_any a b W); have HBC := Lib.hid (fun W => inside_any b c W); have HAC := Lib.hid (fun W => inside_any a c W); have HBA := Lib.hid (fun W => inside_any b a W)
 have HT3 := Lib.hid (fun W => touch_any a c W); have HT4 := Lib.hid (fun W => touch_any b c W)
 rw [in7_refl ka] at HAA; rw [tc7_refl ka] at HTA; rw [tc7_swap ka kb] at HT2
 have f1 : in7 a b = true -> in7 b c = true -> in7 a c = true := in7_trans ka kb kc
 have f2 : in7 a b = true -> in7 b a = true -> a = b := in7_anti ka kb
 have f3 : in7 a b = true -> tc7 a b = true := in7_tc ka kb
 have f4 : in7 a b = true -> tc7 a c = true -> tc7 b c = true := in7_tc2 ka kb kc
 generalize in7 a b = ab at *
 generalize in7 b c = bc at *
 generalize in7 a c = ac at *
 generalize in7 b a = ba at *
 generalize tc7 a b = tab at *
 generalize tc7 a c = tac at *
 generalize tc7 b c = tbc at *
 have F1 := Lib.hid f1; have F2 := Lib.hid f2; have F3 := Lib.hid f3; have F4 := Lib.hid f4
 clear f1 f2 f3 f4 ka kb kc kz hA hz h0 h1 h2 h3 h4 h5 h6 h7 h8 h9 h10 h11 k0 k1
 have Y_0 : Hid (Blk ((w.alloc (.cells #[.int .i64 y0, .int .i64 y1, .int .i64 y2, .int .i64 y3, .int .i64 y4, .int .i64 y5, .int .i64 y6, .int .i64 y7, .int .i64 y8, .int .i64 y9, .int .i64 y10, .int .i64 y11] 36)).alloc (.cells #[.int .i64 z0, .int .i64 z1] 37)) w.heap.size 36 #[.int .i64 y0, .int .i64 y1, .int .i64 y2, .int .i64 y3, .int .i64 y4, .int .i64 y5, .int .i64 y6, .int .i64 y7, .int .i64 y8, .int .i64 y9, .int .i64 y10, .int .i64 y11]) := allocs_blk [(#[.int .i64 y0, .int .i64 y1, .int .i64 y2, .int .i64 y3, .int .i64 y4, .int .i64 y5, .int .i64 y6, .int .i64 y7, .int .i64 y8, .int .i64 y9, .int .i64 y10, .int .i64 y11], 36), (#[.int .i64 z0, .int .i64 z1], 37)] w 0 _ rfl
 have V_0 : Hid (Blk ((w.alloc (.cells #[.int .i64 y0, .int .i64 y1, .int .i64 y2, .int .i64 y3, .int .i64 y4, .int .i64 y5, .int .i64 y6, .int .i64 y7, .int .i64 y8, .int .i64 y9, .int .i64 y10, .int .i64 y11] 36)).alloc (.cells #[.int .i64 z0, .int .i64 z1] 37)) (w.heap.size + 1) 37 #[.int .i64 z0, .int .i64 z1]) := allocs_blk [(#[.int .i64 y0, .int .i64 y1, .int .i64 y2, .int .i64 y3, .int .i64 y4, .int .i64 y5, .int .i64 y6, .int .i64 y7, .int .i64 y8, .int .i64 y9, .int .i64 y10, .int .i64 y11], 36), (#[.int .i64 z0, .int .i64 z1], 37)] w 1 _ rfl
 have HB_0 : Hid (Below w.heap.size w ((w.alloc (.cells #[.int .i64 y0, .int .i64 y1, .int .i64 y2, .int .i64 y3, .int .i64 y4, .int .i64 y5, .int .i64 y6, .int .i64 y7, .int .i64 y8, .int .i64 y9, .int .i64 y10, .int .i64 y11] 36)).alloc (.cells #[.int .i64 z0, .int .i64 z1] 37))) := allocs_below [(#[.int .i64 y0, .int .i64 y1, .int .i64 y2, .int .i64 y3, .int .i64 y4, .int .i64 y5, .int .i64 y6, .int .i64 y7, .int .i64 y8, .int .i64 y9, .int .i64 y10, .int .i64 y11], 36), (#[.int .i64 z0, .int .i64 z1], 37)] w (Below.refl w.heap.size w) (Nat.le_refl _)
 have X_0 : Hid (Xz 2 ((w.alloc (.cells #[.int .i64 y0, .int .i64 y1, .int .i64 y2, .int .i64 y3, .int .i64 y4, .int .i64 y5, .int .i64 y6, .int .i64 y7, .int .i64 y8, .int .i64 y9, .int .i64 y10, .int .i64 y11] 36)).alloc (.cells #[.int .i64 z0, .int .i64 z1] 37)) A n) := Lib.hid (HX.out.below (allocs_below [(#[.int .i64 y0, .int .i64 y1, .int .i64 y2, .int .i64 y3, .int .i64 y4, .int .i64 y5, .int .i64 y6, .int .i64 y7, .int .i64 y8, .int .i64 y9, .int .i64 y10, .int .i64 y11], 36), (#[.int .i64 z0, .int .i64 z1], 37)] w (Below.refl _ _) (Nat.le_refl _)) (Nat.le_refl _))
 clear HX
 go_enter Tryz.func4, Tryz.ntmps4
 go_wp2_with fail
 refine (HSN.out _).mono ?_
 rintro e v0 ⟨rfl, hb⟩
 have X_1 : Hid (Xz 2 v0 A n) := Lib.hid (X_0.out.below hb (Nat.le_refl _))
 clear X_0
 have Y_1 : Hid (Blk v0 w.heap.size 36 #[.int .i64 y0, .int .i64 y1, .int .i64 y2, .int .i64 y3, .int .i64 y4, .int .i64 y5, .int .i64 y6, .int .i64 y7, .int .i64 y8, .int .i64 y9, .int .i64 y10, .int .i64 y11]) := Lib.hid (Y_0.out.below hb Y_0.out.lt)
 have V_1 : Hid (Blk v0 (w.heap.size + 1) 37 #[.int .i64 z0, .int .i64 z1]) := Lib.hid (V_0.out.below hb V_0.out.lt)
 have HB_1 : Hid (Below w.heap.size w v0) := Lib.hid (HB_0.out.trans (hb.mono HB_0.out.size))
 clear hb Y_0 V_0 HB_0
 have yy0 := Y_1.out.cell (i := 0) (v := .int .i64 y0) rfl; have yy1 := Y_1.out.cell (i := 1) (v := .int .i64 y1) rfl; have yy2 := Y_1.out.cell (i := 2) (v := .int .i64 y2) rfl; have yy3 := Y_1.out.cell (i := 3) (v := .int .i64 y3) rfl
 go_wp2_with fail
 refine (HRA.out _).mono ?_
 rintro e v1 ⟨rfl, hb⟩
 clear yy0 yy1 yy2 yy3
 have X_2 : Hid (Xz 2 (v1.alloc (.cells #[.int .i64 a.x, .int .i64 a.y, .int .i64 a.w, .int .i64 a.h] 39)) A n) := Lib.hid (X_1.out.below (allocs_below [(#[.int .i64 a.x, .int .i64 a.y, .int .i64 a.w, .int .i64 a.h], 39)] _ hb hb.size) (Nat.le_refl _))
 clear X_1
 have Y_2 : Hid (Blk (v1.alloc (.cells #[.int .i64 a.x, .int .i64 a.y, .int .i64 a.w, .int .i64 a.h] 39)) w.heap.size 36 #[.int .i64 y0, .int .i64 y1, .int .i64 y2, .int .i64 y3, .int .i64 y4, .int .i64 y5, .int .i64 y6, .int .i64 y7, .int .i64 y8, .int .i64 y9, .int .i64 y10, .int .i64 y11]) := Lib.hid (allocs_keep [(#[.int .i64 a.x, .int .i64 a.y, .int .i64 a.w, .int .i64 a.h], 39)] _ (Y_1.out.below hb Y_1.out.lt))
 have V_2 : Hid (Blk (v1.alloc (.cells #[.int .i64 a.x, .int .i64 a.y, .int .i64 a.w, .int .i64 a.h] 39)) (w.heap.size + 1) 37 #[.int .i64 z0, .int .i64 z1]) := Lib.hid (allocs_keep [(#[.int .i64 a.x, .int .i64 a.y, .int .i64 a.w, .int .i64 a.h], 39)] _ (V_1.out.below hb V_1.out.lt))
 have HB_2 : Hid (Below w.heap.size w (v1.alloc (.cells #[.int .i64 a.x, .int .i64 a.y, .int .i64 a.w, .int .i64 a.h] 39))) := Lib.hid (allocs_below [(#[.int .i64 a.x, .int .i64 a.y, .int .i64 a.w, .int .i64 a.h], 39)] _ (HB_1.out.trans (hb.mono HB_1.out.size)) (HB_1.out.trans (hb.mono HB_1.out.size)).size)
 have A_2 : Hid (Blk (v1.alloc (.cells #[.int .i64 a.x, .int .i64 a.y, .int .i64 a.w, .int .i64 a.h] 39)) v1.heap.size 39 #[.int .i64 a.x, .int .i64 a.y, .int .i64 a.w, .int .i64 a.h]) := Lib.hid (allocs_blk [(#[.int .i64 a.x, .int .i64 a.y, .int .i64 a.w, .int .i64 a.h], 39)] v1 0 _ rfl)
 clear hb Y_1 V_1 HB_1
 have yy0 := Y_2.out.cell (i := 4) (v := .int .i64 y4) rfl; have yy1 := Y_2.out.cell (i := 5) (v := .int .i64 y5) rfl; have yy2 := Y_2.out.cell (i := 6) (v := .int .i64 y6) rfl; have yy3 := Y_2.out.cell (i := 7) (v := .int .i64 y7) rfl
 go_wp2_with fail
 refine (HRB.out _).mono ?_
 rintro e v2 ⟨rfl, hb⟩
 clear yy0 yy1 yy2 yy3
 have X_3 : Hid (Xz 2 (v2.alloc (.cells #[.int .i64 b.x, .int .i64 b.y, .int .i64 b.w, .int .i64 b.h] 39)) A n) := Lib.hid (X_2.out.below (allocs_below [(#[.int .i64 b.x, .int .i64 b.y, .int .i64 b.w, .int .i64 b.h], 39)] _ hb hb.size) (Nat.le_refl _))
 clear X_2
 have Y_3 : Hid (Blk (v2.alloc (.cells #[.int .i64 b.x, .int .i64 b.y, .int .i64 b.w, .int .i64 b.h] 39)) w.heap.size 36 #[.int .i64 y0, .int .i64 y1, .int .i64 y2, .int .i64 y3, .int .i64 y4, .int .i64 y5, .int .i64 y6, .int .i64 y7, .int .i64 y8, .int .i64 y9, .int .i64 y10, .int .i64 y11]) := Lib.hid (allocs_keep [(#[.int .i64 b.x, .int .i64 b.y, .int .i64 b.w, .int .i64 b.h], 39)] _ (Y_2.out.below hb Y_2.out.lt))
 have V_3 : Hid (Blk (v2.alloc (.cells #[.int .i64 b.x, .int .i64 b.y, .int .i64 b.w, .int .i64 b.h] 39)) (w.heap.size + 1) 37 #[.int .i64 z0, .int .i64 z1]) := Lib.hid (allocs_keep [(#[.int .i64 b.x, .int .i64 b.y, .int .i64 b.w, .int .i64 b.h], 39)] _ (V_2.out.below hb V_2.out.lt))
 have A_3 : Hid (Blk (v2.alloc (.cells #[.int .i64 b.x, .int .i64 b.y, .int .i64 b.w, .int .i64 b.h] 39)) v1.heap.size 39 #[.int .i64 a.x, .int .i64 a.y, .int .i64 a.w, .int .i64 a.h]) := Lib.hid (allocs_keep [(#[.int .i64 b.x, .int .i64 b.y, .int .i64 b.w, .int .i64 b.h], 39)] _ (A_2.out.below hb A_2.out.lt))
 have HB_3 : Hid (Below w.heap.size w (v2.alloc (.cells #[.int .i64 b.x, .int .i64 b.y, .int .i64 b.w, .int .i64 b.h] 39))) := Lib.hid (allocs_below [(#[.int .i64 b.x, .int .i64 b.y, .int .i64 b.w, .int .i64 b.h], 39)] _ (HB_2.out.trans (hb.mono HB_2.out.size)) (HB_2.out.trans (hb.mono HB_2.out.size)).size)
 have B_3 : Hid (Blk (v2.alloc (.cells #[.int .i64 b.x, .int .i64 b.y, .int .i64 b.w, .int .i64 b.h] 39)) v2.heap.size 39 #[.int .i64 b.x, .int .i64 b.y, .int .i64 b.w, .int .i64 b.h]) := Lib.hid (allocs_blk [(#[.int .i64 b.x, .int .i64 b.y, .int .i64 b.w, .int .i64 b.h], 39)] v2 0 _ rfl)
 clear hb Y_2 V_2 A_2 HB_2
 have yy0 := Y_3.out.cell (i := 8) (v := .int .i64 y8) rfl; have yy1 := Y_3.out.cell (i := 9) (v := .int .i64 y9) rfl; have yy2 := Y_3.out.cell (i := 10) (v := .int .i64 y10) rfl; have yy3 := Y_3.out.cell (i := 11) (v := .int .i64 y11) rfl
 go_wp2_with fail
 refine (HRC.out _).mono ?_
 rintro e v3 ⟨rfl, hb⟩
 clear yy0 yy1 yy2 yy3
 have X_4 : Hid (Xz 2 (v3.alloc (.cells #[.int .i64 c.x, .int .i64 c.y, .int .i64 c.w, .int .i64 c.h] 39)) A n) := Lib.hid (X_3.out.below (allocs_below [(#[.int .i64 c.x, .int .i64 c.y, .int .i64 c.w, .int .i64 c.h], 39)] _ hb hb.size) (Nat.le_refl _))
 clear X_3
 have Y_4 : Hid (Blk (v3.alloc (.cells #[.int .i64 c.x, .int .i64 c.y, .int .i64 c.w, .int .i64 c.h] 39)) w.heap.size 36 #[.int .i64 y0, .int .i64 y1, .int .i64 y2, .int .i64 y3, .int .i64 y4, .int .i64 y5, .int .i64 y6, .int .i64 y7, .int .i64 y8, .int .i64 y9, .int .i64 y10, .int .i64 y11]) := Lib.hid (allocs_keep [(#[.int .i64 c.x, .int .i64 c.y, .int .i64 c.w, .int .i64 c.h], 39)] _ (Y_3.out.below hb Y_3.out.lt))
 have V_4 : Hid (Blk (v3.alloc (.cells #[.int .i64 c.x, .int .i64 c.y, .int .i64 c.w, .int .i64 c.h] 39)) (w.heap.size + 1) 37 #[.int .i64 z0, .int .i64 z1]) := Lib.hid (allocs_keep [(#[.int .i64 c.x, .int .i64 c.y, .int .i64 c.w, .int .i64 c.h], 39)] _ (V_3.out.below hb V_3.out.lt))
 have A_4 : Hid (Blk (v3.alloc (.cells #[.int .i64 c.x, .int .i64 c.y, .int .i64 c.w, .int .i64 c.h] 39)) v1.heap.size 39 #[.int .i64 a.x, .int .i64 a.y, .int .i64 a.w, .int .i64 a.h]) := Lib.hid (allocs_keep [(#[.int .i64 c.x, .int .i64 c.y, .int .i64 c.w, .int .i64 c.h], 39)] _ (A_3.out.below hb A_3.out.lt))
 have B_4 : Hid (Blk (v3.alloc (.cells #[.int .i64 c.x, .int .i64 c.y, .int .i64 c.w, .int .i64 c.h] 39)) v2.heap.size 39 #[.int .i64 b.x, .int .i64 b.y, .int .i64 b.w, .int .i64 b.h]) := Lib.hid (allocs_keep [(#[.int .i64 c.x, .int .i64 c.y, .int .i64 c.w, .int .i64 c.h], 39)] _ (B_3.out.below hb B_3.out.lt))
 have HB_4 : Hid (Below w.heap.size w (v3.alloc (.cells #[.int .i64 c.x, .int .i64 c.y, .int .i64 c.w, .int .i64 c.h] 39))) := Lib.hid (allocs_below [(#[.int .i64 c.x, .int .i64 c.y, .int .i64 c.w, .int .i64 c.h], 39)] _ (HB_3.out.trans (hb.mono HB_3.out.size)) (HB_3.out.trans (hb.mono HB_3.out.size)).size)
 have C_4 : Hid (Blk (v3.alloc (.cells #[.int .i64 c.x, .int .i64 c.y, .int .i64 c.w, .int .i64 c.h] 39)) v3.heap.size 39 #[.int .i64 c.x, .int .i64 c.y, .int .i64 c.w, .int .i64 c.h]) := Lib.hid (allocs_blk [(#[.int .i64 c.x, .int .i64 c.y, .int .i64 c.w, .int .i64 c.h], 39)] v3 0 _ rfl)
 clear hb Y_3 V_3 A_3 B_3 HB_3
 go_upto_region 6 with fail
 go_cut [78] from 29 to 78 (fun b wx => b = .bool false /\ Below (v3.alloc (.cells #[.int .i64 c.x, .int .i64 c.y, .int .i64 c.w, .int .i64 c.h] 39)).heap.size (v3.alloc (.cells #[.int .i64 c.x, .int .i64 c.y, .int .i64 c.w, .int .i64 c.h] 39)) wx)
 case first =>
   refine wp_region_grow (S := (fun w' => w'.cell? ⟨v1.heap.size, 0, none⟩ = some (.int .i64 a.x) /\ w'.cell? ⟨v1.heap.size, 1, none⟩ = some (.int .i64 a.y) /\ w'.cell? ⟨v1.heap.size, 2, none⟩ = some (.int .i64 a.w) /\ w'.cell? ⟨v1.heap.size, 3, none⟩ = some (.int .i64 a.h) /\ w'.cell? ⟨v2.heap.size, 0, none⟩ = some (.int .i64 b.x) /\ w'.cell? ⟨v2.heap.size, 1, none⟩ = some (.int .i64 b.y) /\ w'.cell? ⟨v2.heap.size, 2, none⟩ = some (.int .i64 b.w) /\ w'.cell? ⟨v2.heap.size, 3, none⟩ = some (.int .i64 b.h) /\ w'.cell? ⟨v3.heap.size, 0, none⟩ = some (.int .i64 c.x) /\ w'.cell? ⟨v3.heap.size, 1, none⟩ = some (.int .i64 c.y) /\ w'.cell? ⟨v3.heap.size, 2, none⟩ = some (.int .i64 c.w) /\ w'.cell? ⟨v3.heap.size, 3, none⟩ = some (.int .i64 c.h))) ((fun w' => Below (v3.alloc (.cells #[.int .i64 c.x, .int .i64 c.y, .int .i64 c.w, .int .i64 c.h] 39)).heap.size (v3.alloc (.cells #[.int .i64 c.x, .int .i64 c.y, .int .i64 c.w, .int .i64 c.h] 39)) w')) (by kernel_rfl) (⟨fun w2 h2 => ⟨(A_4.out.below h2 A_4.out.lt).cell (i := 0) (v := .int .i64 a.x) rfl, (A_4.out.below h2 A_4.out.lt).cell (i := 1) (v := .int .i64 a.y) rfl, (A_4.out.below h2 A_4.out.lt).cell (i := 2) (v := .int .i64 a.w) rfl, (A_4.out.below h2 A_4.out.lt).cell (i := 3) (v := .int .i64 a.h) rfl, (B_4.out.below h2 B_4.out.lt).cell (i := 0) (v := .int .i64 b.x) rfl, (B_4.out.below h2 B_4.out.lt).cell (i := 1) (v := .int .i64 b.y) rfl, (B_4.out.below h2 B_4.out.lt).cell (i := 2) (v := .int .i64 b.w) rfl, (B_4.out.below h2 B_4.out.lt).cell (i := 3) (v := .int .i64 b.h) rfl, (C_4.out.below h2 C_4.out.lt).cell (i := 0) (v := .int .i64 c.x) rfl, (C_4.out.below h2 C_4.out.lt).cell (i := 1) (v := .int .i64 c.y) rfl, (C_4.out.below h2 C_4.out.lt).cell (i := 2) (v := .int .i64 c.w) rfl, (C_4.out.below h2 C_4.out.lt).cell (i := 3) (v := .int .i64 c.h) rfl⟩, fun w2 w3 h2 hb2 => h2.trans (hb2.mono h2.size)⟩) ((Below.refl (v3.alloc (.cells #[.int .i64 c.x, .int .i64 c.y, .int .i64 c.w, .int .i64 c.h] 39)).heap.size (v3.alloc (.cells #[.int .i64 c.x, .int .i64 c.y, .int .i64 c.w, .int .i64 c.h] 39))).drew) (fun hCalm => ?_)
   refine grow_take 0 (some 29) ?_ rfl rfl (by kernel_rfl) (fun _ _ _ h => h) (by kernel_rfl) hCalm ?_ ?_
   rotate_left
   · intro wS hS; (try dsimp only at hS); go_simp <;> with_reducible rfl
   try simp only [Act.put, q8a, q8b, q8c]
   refine grow_take 1 (some 30) ?_ rfl rfl (by kernel_rfl) (fun _ _ _ h => h) (by kernel_rfl) hCalm ?_ ?_
   rotate_left
   · intro wS hS; (try dsimp only at hS); go_simp <;> with_reducible rfl
   try simp only [Act.put, q8a, q8b, q8c]
   refine grow_call 2 (some 31) (.bool true) 12 [.tmp 29, .tmp 30] #[39, 39] rfl rfl (by kernel_rfl) (fun _ _ _ h => h) (by kernel_rfl) hCalm rfl (enters_of Tryz.func12 (by kernel_rfl) rfl) (fun wz _ => HAA.out wz) (by kernel_rfl) ?_
   try simp only [Act.put, q8a, q8b, q8c]
   refine grow_take 3 (some 32) ?_ rfl rfl (by kernel_rfl) (fun _ _ _ h => h) (by kernel_rfl) hCalm ?_ ?_
   rotate_left
   · intro wS hS; (try dsimp only at hS); go_simp <;> with_reducible rfl
   try simp only [Act.put, q8a, q8b, q8c]
   refine grow_take 4 (some 33) ?_ rfl rfl (by kernel_rfl) (fun _ _ _ h => h) (by kernel_rfl) hCalm ?_ ?_
   rotate_left
   · intro wS hS; (try dsimp only at hS); go_simp <;> with_reducible rfl
   try simp only [Act.put, q8a, q8b, q8c]
   refine grow_take 5 (some 34) ?_ rfl rfl (by kernel_rfl) (fun _ _ _ h => h) (by kernel_rfl) hCalm ?_ ?_
   rotate_left
   · intro wS hS; (try dsimp only at hS); go_simp <;> with_reducible rfl
   try simp only [Act.put, q8a, q8b, q8c]
   refine grow_take 6 (some 35) ?_ rfl rfl (by kernel_rfl) (fun _ _ _ h => h) (by kernel_rfl) hCalm ?_ ?_
   rotate_left
   · intro wS hS; (try dsimp only at hS); go_simp <;> with_reducible rfl
   try simp only [Act.put, q8a, q8b, q8c]
   refine grow_call 7 (some 36) (.bool true) 13 [.tmp 34, .tmp 35] #[39, 39] rfl rfl (by kernel_rfl) (fun _ _ _ h => h) (by kernel_rfl) hCalm rfl (enters_of Tryz.func13 (by kernel_rfl) rfl) (fun wz _ => HTA.out wz) (by kernel_rfl) ?_
   try simp only [Act.put, q8a, q8b, q8c]
   refine grow_take 8 (some 37) ?_ rfl rfl (by kernel_rfl) (fun _ _ _ h => h) (by kernel_rfl) hCalm ?_ ?_
   rotate_left
   · intro wS hS; (try dsimp only at hS); go_simp <;> with_reducible rfl
   try simp only [Act.put, q8a, q8b, q8c]
   refine grow_take 9 (some 38) ?_ rfl rfl (by kernel_rfl) (fun _ _ _ h => h) (by kernel_rfl) hCalm ?_ ?_
   rotate_left
   · intro wS hS; (try dsimp only at hS); go_simp <;> with_reducible rfl
   try simp only [Act.put, q8a, q8b, q8c]
   refine grow_take 10 (some 39) ?_ rfl rfl (by kernel_rfl) (fun _ _ _ h => h) (by kernel_rfl) hCalm ?_ ?_
   rotate_left
   · intro wS hS; (try dsimp only at hS); go_simp <;> with_reducible rfl
   try simp only [Act.put, q8a, q8b, q8c]
   refine grow_take 11 (some 40) ?_ rfl rfl (by kernel_rfl) (fun _ _ _ h => h) (by kernel_rfl) hCalm ?_ ?_
   rotate_left
   · intro wS hS; (try dsimp only at hS); go_simp <;> with_reducible rfl
   try simp only [Act.put, q8a, q8b, q8c]
   refine grow_take 12 (some 41) ?_ rfl rfl (by kernel_rfl) (fun _ _ _ h => h) (by kernel_rfl) hCalm ?_ ?_
   rotate_left
   · intro wS hS; (try dsimp only at hS); go_simp <;> with_reducible rfl
   try simp only [Act.put, q8a, q8b, q8c]
   refine grow_take 14 (some 43) ?_ rfl rfl (by kernel_rfl) (fun _ _ _ h => h) (by kernel_rfl) hCalm ?_ ?_
   rotate_left
   · intro wS hS; (try dsimp only at hS); go_simp <;> with_reducible rfl
   try simp only [Act.put, q8a, q8b, q8c]
   refine grow_take 15 (some 44) ?_ rfl rfl (by kernel_rfl) (fun _ _ _ h => h) (by kernel_rfl) hCalm ?_ ?_
   rotate_left
   · intro wS hS; (try dsimp only at hS); go_simp <;> with_reducible rfl
   try simp only [Act.put, q8a, q8b, q8c]
   refine grow_call 13 (some 42) (.bool tab) 13 [.tmp 40, .tmp 41] #[39, 39] rfl rfl (by kernel_rfl) (fun _ _ _ h => h) (by kernel_rfl) hCalm rfl (enters_of Tryz.func13 (by kernel_rfl) rfl) (fun wz _ => HT1.out wz) (by kernel_rfl) ?_
   try simp only [Act.put, q8a, q8b, q8c]
   refine grow_call 16 (some 45) (.bool tab) 13 [.tmp 43, .tmp 44] #[39, 39] rfl rfl (by kernel_rfl) (fun _ _ _ h => h) (by kernel_rfl) hCalm rfl (enters_of Tryz.func13 (by kernel_rfl) rfl) (fun wz _ => HT2.out wz) (by kernel_rfl) ?_
   try simp only [Act.put, q8a, q8b, q8c]
   refine grow_take 17 (some 46) (.bool false) rfl rfl (by kernel_rfl) (fun _ _ _ h => h) (by kernel_rfl) hCalm ?_ ?_
   · intro wS hS; (try dsimp only at hS); go_simp
     all_goals simp
   try simp only [Act.put, q8a, q8b, q8c]
   refine grow_take 18 (some 47) ?_ rfl rfl (by kernel_rfl) (fun _ _ _ h => h) (by kernel_rfl) hCalm ?_ ?_
   rotate_left
   · intro wS hS; (try dsimp only at hS); go_simp <;> with_reducible rfl
   try simp only [Act.put, q8a, q8b, q8c]
   refine grow_take 19 (some 48) ?_ rfl rfl (by kernel_rfl) (fun _ _ _ h => h) (by kernel_rfl) hCalm ?_ ?_
   rotate_left
   · intro wS hS; (try dsimp only at hS); go_simp <;> with_reducible rfl
   try simp only [Act.put, q8a, q8b, q8c]
   refine grow_take 20 (some 49) ?_ rfl rfl (by kernel_rfl) (fun _ _ _ h => h) (by kernel_rfl) hCalm ?_ ?_
   rotate_left
   · intro wS hS; (try dsimp only at hS); go_simp <;> with_reducible rfl
   try simp only [Act.put, q8a, q8b, q8c]
   refine grow_take 21 (some 50) ?_ rfl rfl (by kernel_rfl) (fun _ _ _ h => h) (by kernel_rfl) hCalm ?_ ?_
   rotate_left
   · intro wS hS; (try dsimp only at hS); go_simp <;> with_reducible rfl
   try simp only [Act.put, q8a, q8b, q8c]
   cases ab
   case false =>
     refine grow_call 22 (some 51) (.bool false) 12 [.tmp 49, .tmp 50] #[39, 39] rfl rfl (by kernel_rfl) (fun _ _ _ h => h) (by kernel_rfl) hCalm rfl (enters_of Tryz.func12 (by kernel_rfl) rfl) (fun wz _ => HAB.out wz) (by kernel_rfl) ?_
     try simp only [Act.put, q8a, q8b, q8c]
     refine grow_take 23 (some 52) ?_ rfl rfl (by kernel_rfl) (fun _ _ _ h => h) (by kernel_rfl) hCalm ?_ ?_
     rotate_left
     · intro wS hS; (try dsimp only at hS); go_simp <;> with_reducible rfl
     try simp only [Act.put, q8a, q8b, q8c]
     refine grow_skip 24 (some 53) rfl rfl (by kernel_rfl) (fun _ _ _ h => h) (by kernel_rfl) hCalm ?_
     try simp only [Act.put, q8a, q8b, q8c]
     refine grow_skip 25 (some 54) rfl rfl (by kernel_rfl) (fun _ _ _ h => h) (by kernel_rfl) hCalm ?_
     try simp only [Act.put, q8a, q8b, q8c]
     refine grow_skip 26 (some 55) rfl rfl (by kernel_rfl) (fun _ _ _ h => h) (by kernel_rfl) hCalm ?_
     try simp only [Act.put, q8a, q8b, q8c]
     refine grow_take 27 (some 56) ?_ rfl rfl (by kernel_rfl) (fun _ _ _ h => h) (by kernel_rfl) hCalm ?_ ?_
     rotate_left
     · intro wS hS; (try dsimp only at hS); go_simp <;> with_reducible rfl
     try simp only [Act.put, q8a, q8b, q8c]
     refine grow_take 28 (some 57) ?_ rfl rfl (by kernel_rfl) (fun _ _ _ h => h) (by kernel_rfl) hCalm ?_ ?_
     rotate_left
     · intro wS hS; (try dsimp only at hS); go_simp <;> with_reducible rfl
     try simp only [Act.put, q8a, q8b, q8c]
     refine grow_skip 29 (some 58) rfl rfl (by kernel_rfl) (fun _ _ _ h => h) (by kernel_rfl) hCalm ?_
     try simp only [Act.put, q8a, q8b, q8c]
     refine grow_skip 30 (some 59) rfl rfl (by kernel_rfl) (fun _ _ _ h => h) (by kernel_rfl) hCalm ?_
     try simp only [Act.put, q8a, q8b, q8c]
     refine grow_skip 31 (some 60) rfl rfl (by kernel_rfl) (fun _ _ _ h => h) (by kernel_rfl) hCalm ?_
     try simp only [Act.put, q8a, q8b, q8c]
     refine grow_skip 32 (some 61) rfl rfl (by kernel_rfl) (fun _ _ _ h => h) (by kernel_rfl) hCalm ?_
     try simp only [Act.put, q8a, q8b, q8c]
     refine grow_take 33 (some 62) ?_ rfl rfl (by kernel_rfl) (fun _ _ _ h => h) (by kernel_rfl) hCalm ?_ ?_
     rotate_left
     · intro wS hS; (try dsimp only at hS); go_simp <;> with_reducible rfl
     try simp only [Act.put, q8a, q8b, q8c]
     refine grow_take 34 (some 63) ?_ rfl rfl (by kernel_rfl) (fun _ _ _ h => h) (by kernel_rfl) hCalm ?_ ?_
     rotate_left
     · intro wS hS; (try dsimp only at hS); go_simp <;> with_reducible rfl
     try simp only [Act.put, q8a, q8b, q8c]
     refine grow_take 35 (some 64) ?_ rfl rfl (by kernel_rfl) (fun _ _ _ h => h) (by kernel_rfl) hCalm ?_ ?_
     rotate_left
     · intro wS hS; (try dsimp only at hS); go_simp <;> with_reducible rfl
     try simp only [Act.put, q8a, q8b, q8c]
     refine grow_take 36 (some 65) ?_ rfl rfl (by kernel_rfl) (fun _ _ _ h => h) (by kernel_rfl) hCalm ?_ ?_
     rotate_left
     · intro wS hS; (try dsimp only at hS); go_simp <;> with_reducible rfl
     try simp only [Act.put, q8a, q8b, q8c]
     refine grow_take 37 (some 66) ?_ rfl rfl (by kernel_rfl) (fun _ _ _ h => h) (by kernel_rfl) hCalm ?_ ?_
     rotate_left
     · intro wS hS; (try dsimp only at hS); go_simp <;> with_reducible rfl
     try simp only [Act.put, q8a, q8b, q8c]
     refine grow_call 38 (some 67) (.bool false) 12 [.tmp 65, .tmp 66] #[39, 39] rfl rfl (by kernel_rfl) (fun _ _ _ h => h) (by kernel_rfl) hCalm rfl (enters_of Tryz.func12 (by kernel_rfl) rfl) (fun wz _ => HAB.out wz) (by kernel_rfl) ?_
     try simp only [Act.put, q8a, q8b, q8c]
     refine grow_take 39 (some 68) ?_ rfl rfl (by kernel_rfl) (fun _ _ _ h => h) (by kernel_rfl) hCalm ?_ ?_
     rotate_left
     · intro wS hS; (try dsimp only at hS); go_simp <;> with_reducible rfl
     try simp only [Act.put, q8a, q8b, q8c]
     refine grow_skip 40 (some 69) rfl rfl (by kernel_rfl) (fun _ _ _ h => h) (by kernel_rfl) hCalm ?_
     try simp only [Act.put, q8a, q8b, q8c]
     refine grow_skip 41 (some 70) rfl rfl (by kernel_rfl) (fun _ _ _ h => h) (by kernel_rfl) hCalm ?_
     try simp only [Act.put, q8a, q8b, q8c]
     refine grow_skip 42 (some 71) rfl rfl (by kernel_rfl) (fun _ _ _ h => h) (by kernel_rfl) hCalm ?_
     try simp only [Act.put, q8a, q8b, q8c]
     refine grow_take 43 (some 72) ?_ rfl rfl (by kernel_rfl) (fun _ _ _ h => h) (by kernel_rfl) hCalm ?_ ?_
     rotate_left
     · intro wS hS; (try dsimp only at hS); go_simp <;> with_reducible rfl
     try simp only [Act.put, q8a, q8b, q8c]
     refine grow_take 44 (some 73) ?_ rfl rfl (by kernel_rfl) (fun _ _ _ h => h) (by kernel_rfl) hCalm ?_ ?_
     rotate_left
     · intro wS hS; (try dsimp only at hS); go_simp <;> with_reducible rfl
     try simp only [Act.put, q8a, q8b, q8c]
     refine grow_skip 45 (some 74) rfl rfl (by kernel_rfl) (fun _ _ _ h => h) (by kernel_rfl) hCalm ?_
     try simp only [Act.put, q8a, q8b, q8c]
     refine grow_skip 46 (some 75) rfl rfl (by kernel_rfl) (fun _ _ _ h => h) (by kernel_rfl) hCalm ?_
     try simp only [Act.put, q8a, q8b, q8c]
     refine grow_skip 47 (some 76) rfl rfl (by kernel_rfl) (fun _ _ _ h => h) (by kernel_rfl) hCalm ?_
     try simp only [Act.put, q8a, q8b, q8c]
     refine grow_take 48 (some 77) ?_ rfl rfl (by kernel_rfl) (fun _ _ _ h => h) (by kernel_rfl) hCalm ?_ ?_
     rotate_left
     · intro wS hS; (try dsimp only at hS); go_simp <;> with_reducible rfl
     try simp only [Act.put, q8a, q8b, q8c]
     refine grow_take 49 (some 78) ?_ rfl rfl (by kernel_rfl) (fun _ _ _ h => h) (by kernel_rfl) hCalm ?_ ?_
     rotate_left
     · intro wS hS; (try dsimp only at hS); go_simp <;> with_reducible rfl
     try simp only [Act.put, q8a, q8b, q8c]
     refine grow_done (by kernel_rfl) (fun wA hA => ?_) _
     have hfin := hA
     clear hA hCalm
     go_wp2_with fail
     go_meet
     exact ⟨rfl, hfin⟩
   case true =>
     refine grow_call 22 (some 51) (.bool true) 12 [.tmp 49, .tmp 50] #[39, 39] rfl rfl (by kernel_rfl) (fun _ _ _ h => h) (by kernel_rfl) hCalm rfl (enters_of Tryz.func12 (by kernel_rfl) rfl) (fun wz _ => HAB.out wz) (by kernel_rfl) ?_
     try simp only [Act.put, q8a, q8b, q8c]
     refine grow_take 23 (some 52) ?_ rfl rfl (by kernel_rfl) (fun _ _ _ h => h) (by kernel_rfl) hCalm ?_ ?_
     rotate_left
     · intro wS hS; (try dsimp only at hS); go_simp <;> with_reducible rfl
     try simp only [Act.put, q8a, q8b, q8c]
     refine grow_take 24 (some 53) ?_ rfl rfl (by kernel_rfl) (fun _ _ _ h => h) (by kernel_rfl) hCalm ?_ ?_
     rotate_left
     · intro wS hS; (try dsimp only at hS); go_simp <;> with_reducible rfl
     try simp only [Act.put, q8a, q8b, q8c]
     refine grow_take 25 (some 54) ?_ rfl rfl (by kernel_rfl) (fun _ _ _ h => h) (by kernel_rfl) hCalm ?_ ?_
     rotate_left
     · intro wS hS; (try dsimp only at hS); go_simp <;> with_reducible rfl
     try simp only [Act.put, q8a, q8b, q8c]
     cases bc
     case false =>
       refine grow_call 26 (some 55) (.bool false) 12 [.tmp 53, .tmp 54] #[39, 39] rfl rfl (by kernel_rfl) (fun _ _ _ h => h) (by kernel_rfl) hCalm rfl (enters_of Tryz.func12 (by kernel_rfl) rfl) (fun wz _ => HBC.out wz) (by kernel_rfl) ?_
       try simp only [Act.put, q8a, q8b, q8c]
       refine grow_take 27 (some 56) ?_ rfl rfl (by kernel_rfl) (fun _ _ _ h => h) (by kernel_rfl) hCalm ?_ ?_
       rotate_left
       · intro wS hS; (try dsimp only at hS); go_simp <;> with_reducible rfl
       try simp only [Act.put, q8a, q8b, q8c]
       refine grow_take 28 (some 57) ?_ rfl rfl (by kernel_rfl) (fun _ _ _ h => h) (by kernel_rfl) hCalm ?_ ?_
       rotate_left
       · intro wS hS; (try dsimp only at hS); go_simp <;> with_reducible rfl
       try simp only [Act.put, q8a, q8b, q8c]
       refine grow_skip 29 (some 58) rfl rfl (by kernel_rfl) (fun _ _ _ h => h) (by kernel_rfl) hCalm ?_
       try simp only [Act.put, q8a, q8b, q8c]
       refine grow_skip 30 (some 59) rfl rfl (by kernel_rfl) (fun _ _ _ h => h) (by kernel_rfl) hCalm ?_
       try simp only [Act.put, q8a, q8b, q8c]
       refine grow_skip 31 (some 60) rfl rfl (by kernel_rfl) (fun _ _ _ h => h) (by kernel_rfl) hCalm ?_
       try simp only [Act.put, q8a, q8b, q8c]
       refine grow_skip 32 (some 61) rfl rfl (by kernel_rfl) (fun _ _ _ h => h) (by kernel_rfl) hCalm ?_
       try simp only [Act.put, q8a, q8b, q8c]
       refine grow_take 33 (some 62) ?_ rfl rfl (by kernel_rfl) (fun _ _ _ h => h) (by kernel_rfl) hCalm ?_ ?_
       rotate_left
       · intro wS hS; (try dsimp only at hS); go_simp <;> with_reducible rfl
       try simp only [Act.put, q8a, q8b, q8c]
       refine grow_take 34 (some 63) ?_ rfl rfl (by kernel_rfl) (fun _ _ _ h => h) (by kernel_rfl) hCalm ?_ ?_
       rotate_left
       · intro wS hS; (try dsimp only at hS); go_simp <;> with_reducible rfl
       try simp only [Act.put, q8a, q8b, q8c]
       refine grow_take 35 (some 64) ?_ rfl rfl (by kernel_rfl) (fun _ _ _ h => h) (by kernel_rfl) hCalm ?_ ?_
       rotate_left
       · intro wS hS; (try dsimp only at hS); go_simp <;> with_reducible rfl
       try simp only [Act.put, q8a, q8b, q8c]
       refine grow_take 36 (some 65) ?_ rfl rfl (by kernel_rfl) (fun _ _ _ h => h) (by kernel_rfl) hCalm ?_ ?_
       rotate_left
       · intro wS hS; (try dsimp only at hS); go_simp <;> with_reducible rfl
       try simp only [Act.put, q8a, q8b, q8c]
       refine grow_take 37 (some 66) ?_ rfl rfl (by kernel_rfl) (fun _ _ _ h => h) (by kernel_rfl) hCalm ?_ ?_
       rotate_left
       · intro wS hS; (try dsimp only at hS); go_simp <;> with_reducible rfl
       try simp only [Act.put, q8a, q8b, q8c]
       refine grow_call 38 (some 67) (.bool true) 12 [.tmp 65, .tmp 66] #[39, 39] rfl rfl (by kernel_rfl) (fun _ _ _ h => h) (by kernel_rfl) hCalm rfl (enters_of Tryz.func12 (by kernel_rfl) rfl) (fun wz _ => HAB.out wz) (by kernel_rfl) ?_
       try simp only [Act.put, q8a, q8b, q8c]
       refine grow_take 39 (some 68) ?_ rfl rfl (by kernel_rfl) (fun _ _ _ h => h) (by kernel_rfl) hCalm ?_ ?_
       rotate_left
       · intro wS hS; (try dsimp only at hS); go_simp <;> with_reducible rfl
       try simp only [Act.put, q8a, q8b, q8c]
       refine grow_take 40 (some 69) ?_ rfl rfl (by kernel_rfl) (fun _ _ _ h => h) (by kernel_rfl) hCalm ?_ ?_
       rotate_left
       · intro wS hS; (try dsimp only at hS); go_simp <;> with_reducible rfl
       try simp only [Act.put, q8a, q8b, q8c]
       refine grow_take 41 (some 70) ?_ rfl rfl (by kernel_rfl) (fun _ _ _ h => h) (by kernel_rfl) hCalm ?_ ?_
       rotate_left
       · intro wS hS; (try dsimp only at hS); go_simp <;> with_reducible rfl
       try simp only [Act.put, q8a, q8b, q8c]
       cases ba
       case false =>
         refine grow_call 42 (some 71) (.bool false) 12 [.tmp 69, .tmp 70] #[39, 39] rfl rfl (by kernel_rfl) (fun _ _ _ h => h) (by kernel_rfl) hCalm rfl (enters_of Tryz.func12 (by kernel_rfl) rfl) (fun wz _ => HBA.out wz) (by kernel_rfl) ?_
         try simp only [Act.put, q8a, q8b, q8c]
         refine grow_take 43 (some 72) ?_ rfl rfl (by kernel_rfl) (fun _ _ _ h => h) (by kernel_rfl) hCalm ?_ ?_
         rotate_left
         · intro wS hS; (try dsimp only at hS); go_simp <;> with_reducible rfl
         try simp only [Act.put, q8a, q8b, q8c]
         refine grow_take 44 (some 73) ?_ rfl rfl (by kernel_rfl) (fun _ _ _ h => h) (by kernel_rfl) hCalm ?_ ?_
         rotate_left
         · intro wS hS; (try dsimp only at hS); go_simp <;> with_reducible rfl
         try simp only [Act.put, q8a, q8b, q8c]
         refine grow_skip 45 (some 74) rfl rfl (by kernel_rfl) (fun _ _ _ h => h) (by kernel_rfl) hCalm ?_
         try simp only [Act.put, q8a, q8b, q8c]
         refine grow_skip 46 (some 75) rfl rfl (by kernel_rfl) (fun _ _ _ h => h) (by kernel_rfl) hCalm ?_
         try simp only [Act.put, q8a, q8b, q8c]
         refine grow_skip 47 (some 76) rfl rfl (by kernel_rfl) (fun _ _ _ h => h) (by kernel_rfl) hCalm ?_
         try simp only [Act.put, q8a, q8b, q8c]
         refine grow_take 48 (some 77) ?_ rfl rfl (by kernel_rfl) (fun _ _ _ h => h) (by kernel_rfl) hCalm ?_ ?_
         rotate_left
         · intro wS hS; (try dsimp only at hS); go_simp <;> with_reducible rfl
         try simp only [Act.put, q8a, q8b, q8c]
         refine grow_take 49 (some 78) ?_ rfl rfl (by kernel_rfl) (fun _ _ _ h => h) (by kernel_rfl) hCalm ?_ ?_
         rotate_left
         · intro wS hS; (try dsimp only at hS); go_simp <;> with_reducible rfl
         try simp only [Act.put, q8a, q8b, q8c]
         refine grow_done (by kernel_rfl) (fun wA hA => ?_) _
         have hfin := hA
         clear hA hCalm
         go_wp2_with fail
         go_meet
         exact ⟨rfl, hfin⟩
       case true =>
         obtain rfl := F2.out rfl rfl
         refine grow_call 42 (some 71) (.bool true) 12 [.tmp 69, .tmp 70] #[39, 39] rfl rfl (by kernel_rfl) (fun _ _ _ h => h) (by kernel_rfl) hCalm rfl (enters_of Tryz.func12 (by kernel_rfl) rfl) (fun wz _ => HBA.out wz) (by kernel_rfl) ?_
         try simp only [Act.put, q8a, q8b, q8c]
         refine grow_take 43 (some 72) ?_ rfl rfl (by kernel_rfl) (fun _ _ _ h => h) (by kernel_rfl) hCalm ?_ ?_
         rotate_left
         · intro wS hS; (try dsimp only at hS); go_simp <;> with_reducible rfl
         try simp only [Act.put, q8a, q8b, q8c]
         refine grow_take 44 (some 73) ?_ rfl rfl (by kernel_rfl) (fun _ _ _ h => h) (by kernel_rfl) hCalm ?_ ?_
         rotate_left
         · intro wS hS; (try dsimp only at hS); go_simp <;> with_reducible rfl
         try simp only [Act.put, q8a, q8b, q8c]
         refine grow_take 45 (some 74) ?_ rfl rfl (by kernel_rfl) (fun _ _ _ h => h) (by kernel_rfl) hCalm ?_ ?_
         rotate_left
         · intro wS hS; (try dsimp only at hS); go_simp <;> with_reducible rfl
         try simp only [Act.put, q8a, q8b, q8c]
         refine grow_take 46 (some 75) ?_ rfl rfl (by kernel_rfl) (fun _ _ _ h => h) (by kernel_rfl) hCalm ?_ ?_
         rotate_left
         · intro wS hS; (try dsimp only at hS); go_simp <;> with_reducible rfl
         try simp only [Act.put, q8a, q8b, q8c]
         refine grow_take 47 (some 76) (.bool false) rfl rfl (by kernel_rfl) (fun _ _ _ h => h) (by kernel_rfl) hCalm ?_ ?_
         · intro wS hS; (try dsimp only at hS); go_simp
           all_goals simp
         try simp only [Act.put, q8a, q8b, q8c]
         refine grow_take 48 (some 77) ?_ rfl rfl (by kernel_rfl) (fun _ _ _ h => h) (by kernel_rfl) hCalm ?_ ?_
         rotate_left
         · intro wS hS; (try dsimp only at hS); go_simp <;> with_reducible rfl
         try simp only [Act.put, q8a, q8b, q8c]
         refine grow_take 49 (some 78) ?_ rfl rfl (by kernel_rfl) (fun _ _ _ h => h) (by kernel_rfl) hCalm ?_ ?_
         rotate_left
         · intro wS hS; (try dsimp only at hS); go_simp <;> with_reducible rfl
         try simp only [Act.put, q8a, q8b, q8c]
         refine grow_done (by kernel_rfl) (fun wA hA => ?_) _
         have hfin := hA
         clear hA hCalm
         go_wp2_with fail
         go_meet
         exact ⟨rfl, hfin⟩
     case true =>
       obtain rfl := F1.out rfl rfl
       refine grow_call 26 (some 55) (.bool true) 12 [.tmp 53, .tmp 54] #[39, 39] rfl rfl (by kernel_rfl) (fun _ _ _ h => h) (by kernel_rfl) hCalm rfl (enters_of Tryz.func12 (by kernel_rfl) rfl) (fun wz _ => HBC.out wz) (by kernel_rfl) ?_
       try simp only [Act.put, q8a, q8b, q8c]
       refine grow_take 27 (some 56) ?_ rfl rfl (by kernel_rfl) (fun _ _ _ h => h) (by kernel_rfl) hCalm ?_ ?_
       rotate_left
       · intro wS hS; (try dsimp only at hS); go_simp <;> with_reducible rfl
       try simp only [Act.put, q8a, q8b, q8c]
       refine grow_take 28 (some 57) ?_ rfl rfl (by kernel_rfl) (fun _ _ _ h => h) (by kernel_rfl) hCalm ?_ ?_
       rotate_left
       · intro wS hS; (try dsimp only at hS); go_simp <;> with_reducible rfl
       try simp only [Act.put, q8a, q8b, q8c]
       refine grow_take 29 (some 58) ?_ rfl rfl (by kernel_rfl) (fun _ _ _ h => h) (by kernel_rfl) hCalm ?_ ?_
       rotate_left
       · intro wS hS; (try dsimp only at hS); go_simp <;> with_reducible rfl
       try simp only [Act.put, q8a, q8b, q8c]
       refine grow_take 30 (some 59) ?_ rfl rfl (by kernel_rfl) (fun _ _ _ h => h) (by kernel_rfl) hCalm ?_ ?_
       rotate_left
       · intro wS hS; (try dsimp only at hS); go_simp <;> with_reducible rfl
       try simp only [Act.put, q8a, q8b, q8c]
       refine grow_call 31 (some 60) (.bool true) 12 [.tmp 58, .tmp 59] #[39, 39] rfl rfl (by kernel_rfl) (fun _ _ _ h => h) (by kernel_rfl) hCalm rfl (enters_of Tryz.func12 (by kernel_rfl) rfl) (fun wz _ => HAC.out wz) (by kernel_rfl) ?_
       try simp only [Act.put, q8a, q8b, q8c]
       refine grow_take 32 (some 61) ?_ rfl rfl (by kernel_rfl) (fun _ _ _ h => h) (by kernel_rfl) hCalm ?_ ?_
       rotate_left
       · intro wS hS; (try dsimp only at hS); go_simp <;> with_reducible rfl
       try simp only [Act.put, q8a, q8b, q8c]
       refine grow_take 33 (some 62) ?_ rfl rfl (by kernel_rfl) (fun _ _ _ h => h) (by kernel_rfl) hCalm ?_ ?_
       rotate_left
       · intro wS hS; (try dsimp only at hS); go_simp <;> with_reducible rfl
       try simp only [Act.put, q8a, q8b, q8c]
       refine grow_take 34 (some 63) ?_ rfl rfl (by kernel_rfl) (fun _ _ _ h => h) (by kernel_rfl) hCalm ?_ ?_
       rotate_left
       · intro wS hS; (try dsimp only at hS); go_simp <;> with_reducible rfl
       try simp only [Act.put, q8a, q8b, q8c]
       refine grow_take 35 (some 64) ?_ rfl rfl (by kernel_rfl) (fun _ _ _ h => h) (by kernel_rfl) hCalm ?_ ?_
       rotate_left
       · intro wS hS; (try dsimp only at hS); go_simp <;> with_reducible rfl
       try simp only [Act.put, q8a, q8b, q8c]
       refine grow_take 36 (some 65) ?_ rfl rfl (by kernel_rfl) (fun _ _ _ h => h) (by kernel_rfl) hCalm ?_ ?_
       rotate_left
       · intro wS hS; (try dsimp only at hS); go_simp <;> with_reducible rfl
       try simp only [Act.put, q8a, q8b, q8c]
       refine grow_take 37 (some 66) ?_ rfl rfl (by kernel_rfl) (fun _ _ _ h => h) (by kernel_rfl) hCalm ?_ ?_
       rotate_left
       · intro wS hS; (try dsimp only at hS); go_simp <;> with_reducible rfl
       try simp only [Act.put, q8a, q8b, q8c]
       refine grow_call 38 (some 67) (.bool true) 12 [.tmp 65, .tmp 66] #[39, 39] rfl rfl (by kernel_rfl) (fun _ _ _ h => h) (by kernel_rfl) hCalm rfl (enters_of Tryz.func12 (by kernel_rfl) rfl) (fun wz _ => HAB.out wz) (by kernel_rfl) ?_
       try simp only [Act.put, q8a, q8b, q8c]
       refine grow_take 39 (some 68) ?_ rfl rfl (by kernel_rfl) (fun _ _ _ h => h) (by kernel_rfl) hCalm ?_ ?_
       rotate_left
       · intro wS hS; (try dsimp only at hS); go_simp <;> with_reducible rfl
       try simp only [Act.put, q8a, q8b, q8c]
       refine grow_take 40 (some 69) ?_ rfl rfl (by kernel_rfl) (fun _ _ _ h => h) (by kernel_rfl) hCalm ?_ ?_
       rotate_left
       · intro wS hS; (try dsimp only at hS); go_simp <;> with_reducible rfl
       try simp only [Act.put, q8a, q8b, q8c]
       refine grow_take 41 (some 70) ?_ rfl rfl (by kernel_rfl) (fun _ _ _ h => h) (by kernel_rfl) hCalm ?_ ?_
       rotate_left
       · intro wS hS; (try dsimp only at hS); go_simp <;> with_reducible rfl
       try simp only [Act.put, q8a, q8b, q8c]
       cases ba
       case false =>
         refine grow_call 42 (some 71) (.bool false) 12 [.tmp 69, .tmp 70] #[39, 39] rfl rfl (by kernel_rfl) (fun _ _ _ h => h) (by kernel_rfl) hCalm rfl (enters_of Tryz.func12 (by kernel_rfl) rfl) (fun wz _ => HBA.out wz) (by kernel_rfl) ?_
         try simp only [Act.put, q8a, q8b, q8c]
         refine grow_take 43 (some 72) ?_ rfl rfl (by kernel_rfl) (fun _ _ _ h => h) (by kernel_rfl) hCalm ?_ ?_
         rotate_left
         · intro wS hS; (try dsimp only at hS); go_simp <;> with_reducible rfl
         try simp only [Act.put, q8a, q8b, q8c]
         refine grow_take 44 (some 73) ?_ rfl rfl (by kernel_rfl) (fun _ _ _ h => h) (by kernel_rfl) hCalm ?_ ?_
         rotate_left
         · intro wS hS; (try dsimp only at hS); go_simp <;> with_reducible rfl
         try simp only [Act.put, q8a, q8b, q8c]
         refine grow_skip 45 (some 74) rfl rfl (by kernel_rfl) (fun _ _ _ h => h) (by kernel_rfl) hCalm ?_
         try simp only [Act.put, q8a, q8b, q8c]
         refine grow_skip 46 (some 75) rfl rfl (by kernel_rfl) (fun _ _ _ h => h) (by kernel_rfl) hCalm ?_
         try simp only [Act.put, q8a, q8b, q8c]
         refine grow_skip 47 (some 76) rfl rfl (by kernel_rfl) (fun _ _ _ h => h) (by kernel_rfl) hCalm ?_
         try simp only [Act.put, q8a, q8b, q8c]
         refine grow_take 48 (some 77) ?_ rfl rfl (by kernel_rfl) (fun _ _ _ h => h) (by kernel_rfl) hCalm ?_ ?_
         rotate_left
         · intro wS hS; (try dsimp only at hS); go_simp <;> with_reducible rfl
         try simp only [Act.put, q8a, q8b, q8c]
         refine grow_take 49 (some 78) ?_ rfl rfl (by kernel_rfl) (fun _ _ _ h => h) (by kernel_rfl) hCalm ?_ ?_
         rotate_left
         · intro wS hS; (try dsimp only at hS); go_simp <;> with_reducible rfl
         try simp only [Act.put, q8a, q8b, q8c]
         refine grow_done (by kernel_rfl) (fun wA hA => ?_) _
         have hfin := hA
         clear hA hCalm
         go_wp2_with fail
         go_meet
         exact ⟨rfl, hfin⟩
       case true =>
         obtain rfl := F2.out rfl rfl
         refine grow_call 42 (some 71) (.bool true) 12 [.tmp 69, .tmp 70] #[39, 39] rfl rfl (by kernel_rfl) (fun _ _ _ h => h) (by kernel_rfl) hCalm rfl (enters_of Tryz.func12 (by kernel_rfl) rfl) (fun wz _ => HBA.out wz) (by kernel_rfl) ?_
         try simp only [Act.put, q8a, q8b, q8c]
         refine grow_take 43 (some 72) ?_ rfl rfl (by kernel_rfl) (fun _ _ _ h => h) (by kernel_rfl) hCalm ?_ ?_
         rotate_left
         · intro wS hS; (try dsimp only at hS); go_simp <;> with_reducible rfl
         try simp only [Act.put, q8a, q8b, q8c]
         refine grow_take 44 (some 73) ?_ rfl rfl (by kernel_rfl) (fun _ _ _ h => h) (by kernel_rfl) hCalm ?_ ?_
         rotate_left
         · intro wS hS; (try dsimp only at hS); go_simp <;> with_reducible rfl
         try simp only [Act.put, q8a, q8b, q8c]
         refine grow_take 45 (some 74) ?_ rfl rfl (by kernel_rfl) (fun _ _ _ h => h) (by kernel_rfl) hCalm ?_ ?_
         rotate_left
         · intro wS hS; (try dsimp only at hS); go_simp <;> with_reducible rfl
         try simp only [Act.put, q8a, q8b, q8c]
         refine grow_take 46 (some 75) ?_ rfl rfl (by kernel_rfl) (fun _ _ _ h => h) (by kernel_rfl) hCalm ?_ ?_
         rotate_left
         · intro wS hS; (try dsimp only at hS); go_simp <;> with_reducible rfl
         try simp only [Act.put, q8a, q8b, q8c]
         refine grow_take 47 (some 76) (.bool false) rfl rfl (by kernel_rfl) (fun _ _ _ h => h) (by kernel_rfl) hCalm ?_ ?_
         · intro wS hS; (try dsimp only at hS); go_simp
           all_goals simp
         try simp only [Act.put, q8a, q8b, q8c]
         refine grow_take 48 (some 77) ?_ rfl rfl (by kernel_rfl) (fun _ _ _ h => h) (by kernel_rfl) hCalm ?_ ?_
         rotate_left
         · intro wS hS; (try dsimp only at hS); go_simp <;> with_reducible rfl
         try simp only [Act.put, q8a, q8b, q8c]
         refine grow_take 49 (some 78) ?_ rfl rfl (by kernel_rfl) (fun _ _ _ h => h) (by kernel_rfl) hCalm ?_ ?_
         rotate_left
         · intro wS hS; (try dsimp only at hS); go_simp <;> with_reducible rfl
         try simp only [Act.put, q8a, q8b, q8c]
         refine grow_done (by kernel_rfl) (fun wA hA => ?_) _
         have hfin := hA
         clear hA hCalm
         go_wp2_with fail
         go_meet
         exact ⟨rfl, hfin⟩
 case rest =>
   obtain ⟨rfl, hb⟩ := hcut
   rename World => wc6
   have X_5 : Hid (Xz 2 wc6 A n) := Lib.hid (X_4.out.below hb (Nat.le_refl _))
   clear X_4
   have Y_5 : Hid (Blk wc6 w.heap.size 36 #[.int .i64 y0, .int .i64 y1, .int .i64 y2, .int .i64 y3, .int .i64 y4, .int .i64 y5, .int .i64 y6, .int .i64 y7, .int .i64 y8, .int .i64 y9, .int .i64 y10, .int .i64 y11]) := Lib.hid (Y_4.out.below hb Y_4.out.lt)
   have V_5 : Hid (Blk wc6 (w.heap.size + 1) 37 #[.int .i64 z0, .int .i64 z1]) := Lib.hid (V_4.out.below hb V_4.out.lt)
   have A_5 : Hid (Blk wc6 v1.heap.size 39 #[.int .i64 a.x, .int .i64 a.y, .int .i64 a.w, .int .i64 a.h]) := Lib.hid (A_4.out.below hb A_4.out.lt)
   have B_5 : Hid (Blk wc6 v2.heap.size 39 #[.int .i64 b.x, .int .i64 b.y, .int .i64 b.w, .int .i64 b.h]) := Lib.hid (B_4.out.below hb B_4.out.lt)
   have C_5 : Hid (Blk wc6 v3.heap.size 39 #[.int .i64 c.x, .int .i64 c.y, .int .i64 c.w, .int .i64 c.h]) := Lib.hid (C_4.out.below hb C_4.out.lt)
   have HB_5 : Hid (Below w.heap.size w wc6) := Lib.hid (HB_4.out.trans (hb.mono HB_4.out.size))
   clear hb Y_4 V_4 A_4 B_4 C_4 HB_4
   clear F1 F2 HAA HTA HT2 HBC HAC HBA
   go_upto_region 8 with fail
   go_cut [98] from 79 to 98 (fun b wx => b = .bool false /\ Below wc6.heap.size wc6 wx)
   case first =>
     have hundef := un_none
     cases ab
     case false =>
       have yy0 := A_5.out.cell (i := 0) (v := .int .i64 a.x) rfl; have yy1 := A_5.out.cell (i := 1) (v := .int .i64 a.y) rfl; have yy2 := A_5.out.cell (i := 2) (v := .int .i64 a.w) rfl; have yy3 := A_5.out.cell (i := 3) (v := .int .i64 a.h) rfl
       have yy4 := B_5.out.cell (i := 0) (v := .int .i64 b.x) rfl; have yy5 := B_5.out.cell (i := 1) (v := .int .i64 b.y) rfl; have yy6 := B_5.out.cell (i := 2) (v := .int .i64 b.w) rfl; have yy7 := B_5.out.cell (i := 3) (v := .int .i64 b.h) rfl
       go_wp2_with fail
       refine (HAB.out _).mono ?_
       rintro e v5 ⟨rfl, hb⟩
       have hq0 := hb
       clear yy0 yy1 yy2 yy3 yy4 yy5 yy6 yy7
       have X_6 : Hid (Xz 2 v5 A n) := Lib.hid (X_5.out.below hb (Nat.le_refl _))
       clear X_5
       have Y_6 : Hid (Blk v5 w.heap.size 36 #[.int .i64 y0, .int .i64 y1, .int .i64 y2, .int .i64 y3, .int .i64 y4, .int .i64 y5, .int .i64 y6, .int .i64 y7, .int .i64 y8, .int .i64 y9, .int .i64 y10, .int .i64 y11]) := Lib.hid (Y_5.out.below hb Y_5.out.lt)
       have V_6 : Hid (Blk v5 (w.heap.size + 1) 37 #[.int .i64 z0, .int .i64 z1]) := Lib.hid (V_5.out.below hb V_5.out.lt)
       have A_6 : Hid (Blk v5 v1.heap.size 39 #[.int .i64 a.x, .int .i64 a.y, .int .i64 a.w, .int .i64 a.h]) := Lib.hid (A_5.out.below hb A_5.out.lt)
       have B_6 : Hid (Blk v5 v2.heap.size 39 #[.int .i64 b.x, .int .i64 b.y, .int .i64 b.w, .int .i64 b.h]) := Lib.hid (B_5.out.below hb B_5.out.lt)
       have C_6 : Hid (Blk v5 v3.heap.size 39 #[.int .i64 c.x, .int .i64 c.y, .int .i64 c.w, .int .i64 c.h]) := Lib.hid (C_5.out.below hb C_5.out.lt)
       have HB_6 : Hid (Below w.heap.size w v5) := Lib.hid (HB_5.out.trans (hb.mono HB_5.out.size))
       clear hb Y_5 V_5 A_5 B_5 C_5 HB_5
       go_wp2_with fail
       go_meet
       exact ⟨rfl, hq0⟩
     case true =>
       obtain rfl := F3.out rfl
       have yy0 := A_5.out.cell (i := 0) (v := .int .i64 a.x) rfl; have yy1 := A_5.out.cell (i := 1) (v := .int .i64 a.y) rfl; have yy2 := A_5.out.cell (i := 2) (v := .int .i64 a.w) rfl; have yy3 := A_5.out.cell (i := 3) (v := .int .i64 a.h) rfl
       have yy4 := B_5.out.cell (i := 0) (v := .int .i64 b.x) rfl; have yy5 := B_5.out.cell (i := 1) (v := .int .i64 b.y) rfl; have yy6 := B_5.out.cell (i := 2) (v := .int .i64 b.w) rfl; have yy7 := B_5.out.cell (i := 3) (v := .int .i64 b.h) rfl
       go_wp2_with fail
       refine (HAB.out _).mono ?_
       rintro e v5 ⟨rfl, hb⟩
       have hq0 := hb
       clear yy0 yy1 yy2 yy3 yy4 yy5 yy6 yy7
       have X_6 : Hid (Xz 2 v5 A n) := Lib.hid (X_5.out.below hb (Nat.le_refl _))
       clear X_5
       have Y_6 : Hid (Blk v5 w.heap.size 36 #[.int .i64 y0, .int .i64 y1, .int .i64 y2, .int .i64 y3, .int .i64 y4, .int .i64 y5, .int .i64 y6, .int .i64 y7, .int .i64 y8, .int .i64 y9, .int .i64 y10, .int .i64 y11]) := Lib.hid (Y_5.out.below hb Y_5.out.lt)
       have V_6 : Hid (Blk v5 (w.heap.size + 1) 37 #[.int .i64 z0, .int .i64 z1]) := Lib.hid (V_5.out.below hb V_5.out.lt)
       have A_6 : Hid (Blk v5 v1.heap.size 39 #[.int .i64 a.x, .int .i64 a.y, .int .i64 a.w, .int .i64 a.h]) := Lib.hid (A_5.out.below hb A_5.out.lt)
       have B_6 : Hid (Blk v5 v2.heap.size 39 #[.int .i64 b.x, .int .i64 b.y, .int .i64 b.w, .int .i64 b.h]) := Lib.hid (B_5.out.below hb B_5.out.lt)
       have C_6 : Hid (Blk v5 v3.heap.size 39 #[.int .i64 c.x, .int .i64 c.y, .int .i64 c.w, .int .i64 c.h]) := Lib.hid (C_5.out.below hb C_5.out.lt)
       have HB_6 : Hid (Below w.heap.size w v5) := Lib.hid (HB_5.out.trans (hb.mono HB_5.out.size))
       clear hb Y_5 V_5 A_5 B_5 C_5 HB_5
       have yy0 := A_6.out.cell (i := 0) (v := .int .i64 a.x) rfl; have yy1 := A_6.out.cell (i := 1) (v := .int .i64 a.y) rfl; have yy2 := A_6.out.cell (i := 2) (v := .int .i64 a.w) rfl; have yy3 := A_6.out.cell (i := 3) (v := .int .i64 a.h) rfl
       have yy4 := B_6.out.cell (i := 0) (v := .int .i64 b.x) rfl; have yy5 := B_6.out.cell (i := 1) (v := .int .i64 b.y) rfl; have yy6 := B_6.out.cell (i := 2) (v := .int .i64 b.w) rfl; have yy7 := B_6.out.cell (i := 3) (v := .int .i64 b.h) rfl
       go_wp2_with fail
       refine (HT1.out _).mono ?_
       rintro e v6 ⟨rfl, hb⟩
       have hq1 := hb
       clear yy0 yy1 yy2 yy3 yy4 yy5 yy6 yy7
       have X_7 : Hid (Xz 2 v6 A n) := Lib.hid (X_6.out.below hb (Nat.le_refl _))
       clear X_6
       have Y_7 : Hid (Blk v6 w.heap.size 36 #[.int .i64 y0, .int .i64 y1, .int .i64 y2, .int .i64 y3, .int .i64 y4, .int .i64 y5, .int .i64 y6, .int .i64 y7, .int .i64 y8, .int .i64 y9, .int .i64 y10, .int .i64 y11]) := Lib.hid (Y_6.out.below hb Y_6.out.lt)
       have V_7 : Hid (Blk v6 (w.heap.size + 1) 37 #[.int .i64 z0, .int .i64 z1]) := Lib.hid (V_6.out.below hb V_6.out.lt)
       have A_7 : Hid (Blk v6 v1.heap.size 39 #[.int .i64 a.x, .int .i64 a.y, .int .i64 a.w, .int .i64 a.h]) := Lib.hid (A_6.out.below hb A_6.out.lt)
       have B_7 : Hid (Blk v6 v2.heap.size 39 #[.int .i64 b.x, .int .i64 b.y, .int .i64 b.w, .int .i64 b.h]) := Lib.hid (B_6.out.below hb B_6.out.lt)
       have C_7 : Hid (Blk v6 v3.heap.size 39 #[.int .i64 c.x, .int .i64 c.y, .int .i64 c.w, .int .i64 c.h]) := Lib.hid (C_6.out.below hb C_6.out.lt)
       have HB_7 : Hid (Below w.heap.size w v6) := Lib.hid (HB_6.out.trans (hb.mono HB_6.out.size))
       clear hb Y_6 V_6 A_6 B_6 C_6 HB_6
       cases tac
       case false =>
         have yy0 := A_7.out.cell (i := 0) (v := .int .i64 a.x) rfl; have yy1 := A_7.out.cell (i := 1) (v := .int .i64 a.y) rfl; have yy2 := A_7.out.cell (i := 2) (v := .int .i64 a.w) rfl; have yy3 := A_7.out.cell (i := 3) (v := .int .i64 a.h) rfl
         have yy4 := C_7.out.cell (i := 0) (v := .int .i64 c.x) rfl; have yy5 := C_7.out.cell (i := 1) (v := .int .i64 c.y) rfl; have yy6 := C_7.out.cell (i := 2) (v := .int .i64 c.w) rfl; have yy7 := C_7.out.cell (i := 3) (v := .int .i64 c.h) rfl
         go_wp2_with fail
         refine (HT3.out _).mono ?_
         rintro e v7 ⟨rfl, hb⟩
         have hq2 := hb
         clear yy0 yy1 yy2 yy3 yy4 yy5 yy6 yy7
         have X_8 : Hid (Xz 2 v7 A n) := Lib.hid (X_7.out.below hb (Nat.le_refl _))
         clear X_7
         have Y_8 : Hid (Blk v7 w.heap.size 36 #[.int .i64 y0, .int .i64 y1, .int .i64 y2, .int .i64 y3, .int .i64 y4, .int .i64 y5, .int .i64 y6, .int .i64 y7, .int .i64 y8, .int .i64 y9, .int .i64 y10, .int .i64 y11]) := Lib.hid (Y_7.out.below hb Y_7.out.lt)
         have V_8 : Hid (Blk v7 (w.heap.size + 1) 37 #[.int .i64 z0, .int .i64 z1]) := Lib.hid (V_7.out.below hb V_7.out.lt)
         have A_8 : Hid (Blk v7 v1.heap.size 39 #[.int .i64 a.x, .int .i64 a.y, .int .i64 a.w, .int .i64 a.h]) := Lib.hid (A_7.out.below hb A_7.out.lt)
         have B_8 : Hid (Blk v7 v2.heap.size 39 #[.int .i64 b.x, .int .i64 b.y, .int .i64 b.w, .int .i64 b.h]) := Lib.hid (B_7.out.below hb B_7.out.lt)
         have C_8 : Hid (Blk v7 v3.heap.size 39 #[.int .i64 c.x, .int .i64 c.y, .int .i64 c.w, .int .i64 c.h]) := Lib.hid (C_7.out.below hb C_7.out.lt)
         have HB_8 : Hid (Below w.heap.size w v7) := Lib.hid (HB_7.out.trans (hb.mono HB_7.out.size))
         clear hb Y_7 V_7 A_7 B_7 C_7 HB_7
         go_wp2_with fail
         go_meet
         exact ⟨rfl, ((hq0.trans (hq1.mono hq0.size)).trans (hq2.mono (hq0.trans (hq1.mono hq0.size)).size))⟩
       case true =>
         have hz : tbc = true := by have h := F4.out; simpa using h
         subst hz
         have yy0 := A_7.out.cell (i := 0) (v := .int .i64 a.x) rfl; have yy1 := A_7.out.cell (i := 1) (v := .int .i64 a.y) rfl; have yy2 := A_7.out.cell (i := 2) (v := .int .i64 a.w) rfl; have yy3 := A_7.out.cell (i := 3) (v := .int .i64 a.h) rfl
         have yy4 := C_7.out.cell (i := 0) (v := .int .i64 c.x) rfl; have yy5 := C_7.out.cell (i := 1) (v := .int .i64 c.y) rfl; have yy6 := C_7.out.cell (i := 2) (v := .int .i64 c.w) rfl; have yy7 := C_7.out.cell (i := 3) (v := .int .i64 c.h) rfl
         go_wp2_with fail
         refine (HT3.out _).mono ?_
         rintro e v7 ⟨rfl, hb⟩
         have hq2 := hb
         clear yy0 yy1 yy2 yy3 yy4 yy5 yy6 yy7
         have X_8 : Hid (Xz 2 v7 A n) := Lib.hid (X_7.out.below hb (Nat.le_refl _))
         clear X_7
         have Y_8 : Hid (Blk v7 w.heap.size 36 #[.int .i64 y0, .int .i64 y1, .int .i64 y2, .int .i64 y3, .int .i64 y4, .int .i64 y5, .int .i64 y6, .int .i64 y7, .int .i64 y8, .int .i64 y9, .int .i64 y10, .int .i64 y11]) := Lib.hid (Y_7.out.below hb Y_7.out.lt)
         have V_8 : Hid (Blk v7 (w.heap.size + 1) 37 #[.int .i64 z0, .int .i64 z1]) := Lib.hid (V_7.out.below hb V_7.out.lt)
         have A_8 : Hid (Blk v7 v1.heap.size 39 #[.int .i64 a.x, .int .i64 a.y, .int .i64 a.w, .int .i64 a.h]) := Lib.hid (A_7.out.below hb A_7.out.lt)
         have B_8 : Hid (Blk v7 v2.heap.size 39 #[.int .i64 b.x, .int .i64 b.y, .int .i64 b.w, .int .i64 b.h]) := Lib.hid (B_7.out.below hb B_7.out.lt)
         have C_8 : Hid (Blk v7 v3.heap.size 39 #[.int .i64 c.x, .int .i64 c.y, .int .i64 c.w, .int .i64 c.h]) := Lib.hid (C_7.out.below hb C_7.out.lt)
         have HB_8 : Hid (Below w.heap.size w v7) := Lib.hid (HB_7.out.trans (hb.mono HB_7.out.size))
         clear hb Y_7 V_7 A_7 B_7 C_7 HB_7
         have yy0 := B_8.out.cell (i := 0) (v := .int .i64 b.x) rfl; have yy1 := B_8.out.cell (i := 1) (v := .int .i64 b.y) rfl; have yy2 := B_8.out.cell (i := 2) (v := .int .i64 b.w) rfl; have yy3 := B_8.out.cell (i := 3) (v := .int .i64 b.h) rfl
         have yy4 := C_8.out.cell (i := 0) (v := .int .i64 c.x) rfl; have yy5 := C_8.out.cell (i := 1) (v := .int .i64 c.y) rfl; have yy6 := C_8.out.cell (i := 2) (v := .int .i64 c.w) rfl; have yy7 := C_8.out.cell (i := 3) (v := .int .i64 c.h) rfl
         go_wp2_with fail
         refine (HT4.out _).mono ?_
         rintro e v8 ⟨rfl, hb⟩
         have hq3 := hb
         clear yy0 yy1 yy2 yy3 yy4 yy5 yy6 yy7
         have X_9 : Hid (Xz 2 v8 A n) := Lib.hid (X_8.out.below hb (Nat.le_refl _))
         clear X_8
         have Y_9 : Hid (Blk v8 w.heap.size 36 #[.int .i64 y0, .int .i64 y1, .int .i64 y2, .int .i64 y3, .int .i64 y4, .int .i64 y5, .int .i64 y6, .int .i64 y7, .int .i64 y8, .int .i64 y9, .int .i64 y10, .int .i64 y11]) := Lib.hid (Y_8.out.below hb Y_8.out.lt)
         have V_9 : Hid (Blk v8 (w.heap.size + 1) 37 #[.int .i64 z0, .int .i64 z1]) := Lib.hid (V_8.out.below hb V_8.out.lt)
         have A_9 : Hid (Blk v8 v1.heap.size 39 #[.int .i64 a.x, .int .i64 a.y, .int .i64 a.w, .int .i64 a.h]) := Lib.hid (A_8.out.below hb A_8.out.lt)
         have B_9 : Hid (Blk v8 v2.heap.size 39 #[.int .i64 b.x, .int .i64 b.y, .int .i64 b.w, .int .i64 b.h]) := Lib.hid (B_8.out.below hb B_8.out.lt)
         have C_9 : Hid (Blk v8 v3.heap.size 39 #[.int .i64 c.x, .int .i64 c.y, .int .i64 c.w, .int .i64 c.h]) := Lib.hid (C_8.out.below hb C_8.out.lt)
         have HB_9 : Hid (Below w.heap.size w v8) := Lib.hid (HB_8.out.trans (hb.mono HB_8.out.size))
         clear hb Y_8 V_8 A_8 B_8 C_8 HB_8
         go_wp2_with fail
         go_meet
         exact ⟨rfl, (((hq0.trans (hq1.mono hq0.size)).trans (hq2.mono (hq0.trans (hq1.mono hq0.size)).size)).trans (hq3.mono ((hq0.trans (hq1.mono hq0.size)).trans (hq2.mono (hq0.trans (hq1.mono hq0.size)).size)).size))⟩
   case rest =>
     obtain ⟨rfl, hb⟩ := hcut
     rename World => wc8
     have X_6 : Hid (Xz 2 wc8 A n) := Lib.hid (X_5.out.below hb (Nat.le_refl _))
     clear X_5
     have Y_6 : Hid (Blk wc8 w.heap.size 36 #[.int .i64 y0, .int .i64 y1, .int .i64 y2, .int .i64 y3, .int .i64 y4, .int .i64 y5, .int .i64 y6, .int .i64 y7, .int .i64 y8, .int .i64 y9, .int .i64 y10, .int .i64 y11]) := Lib.hid (Y_5.out.below hb Y_5.out.lt)
     have V_6 : Hid (Blk wc8 (w.heap.size + 1) 37 #[.int .i64 z0, .int .i64 z1]) := Lib.hid (V_5.out.below hb V_5.out.lt)
     have A_6 : Hid (Blk wc8 v1.heap.size 39 #[.int .i64 a.x, .int .i64 a.y, .int .i64 a.w, .int .i64 a.h]) := Lib.hid (A_5.out.below hb A_5.out.lt)
     have B_6 : Hid (Blk wc8 v2.heap.size 39 #[.int .i64 b.x, .int .i64 b.y, .int .i64 b.w, .int .i64 b.h]) := Lib.hid (B_5.out.below hb B_5.out.lt)
     have C_6 : Hid (Blk wc8 v3.heap.size 39 #[.int .i64 c.x, .int .i64 c.y, .int .i64 c.w, .int .i64 c.h]) := Lib.hid (C_5.out.below hb C_5.out.lt)
     have HB_6 : Hid (Below w.heap.size w wc8) := Lib.hid (HB_5.out.trans (hb.mono HB_5.out.size))
     clear hb Y_5 V_5 A_5 B_5 C_5 HB_5
     clear F3 F4 HAB HT1 HT3 HT4
     have HPL := Lib.hid (rplaces_any A n c0 wc8 X_6.out HN.out)
     go_wp2_with fail
     refine HPL.out.mono ?_
     rintro e vl ⟨⟨l, vl0, rfl, hf, hol⟩, hb⟩
     obtain ⟨A1, c1, rfl, hz1, hc1, hn1, hm1⟩ := OwnL.read apP hol
     have hlen := hf.1
     obtain ⟨b1, o1, rfl⟩ := hz1.some (by omega)
     have hl0 : 0 < l.length := by omega
     obtain ⟨p0, hp0⟩ : ∃ p, p = l[0] := ⟨_, rfl⟩
     have h00 : l[0]? = some p0 := by rw [List.getElem?_eq_getElem hl0, hp0]
     have hmem0 : p0 ∈ l := hp0 ▸ List.getElem_mem hl0
     have HF := Lib.hid hf; have HM0 := Lib.hid hmem0; have HE0 := Lib.hid h00; have HL := Lib.hid hlen; have HP0 := Lib.hid hp0
     clear hol hc1 hn1 hm1 hlen hf hmem0 h00 hp0 HPL
     have L_6 := Lib.hid hz1
     have X_7 : Hid (Xz 2 vl A n) := Lib.hid (X_6.out.below hb (Nat.le_refl _))
     have L_7 : Hid (Pz vl (some ⟨b1, o1, none⟩) l) := Lib.hid L_6.out
     clear X_6 L_6
     have Y_7 : Hid (Blk vl w.heap.size 36 #[.int .i64 y0, .int .i64 y1, .int .i64 y2, .int .i64 y3, .int .i64 y4, .int .i64 y5, .int .i64 y6, .int .i64 y7, .int .i64 y8, .int .i64 y9, .int .i64 y10, .int .i64 y11]) := Lib.hid (Y_6.out.below hb Y_6.out.lt)
     have V_7 : Hid (Blk vl (w.heap.size + 1) 37 #[.int .i64 z0, .int .i64 z1]) := Lib.hid (V_6.out.below hb V_6.out.lt)
     have A_7 : Hid (Blk vl v1.heap.size 39 #[.int .i64 a.x, .int .i64 a.y, .int .i64 a.w, .int .i64 a.h]) := Lib.hid (A_6.out.below hb A_6.out.lt)
     have B_7 : Hid (Blk vl v2.heap.size 39 #[.int .i64 b.x, .int .i64 b.y, .int .i64 b.w, .int .i64 b.h]) := Lib.hid (B_6.out.below hb B_6.out.lt)
     have C_7 : Hid (Blk vl v3.heap.size 39 #[.int .i64 c.x, .int .i64 c.y, .int .i64 c.w, .int .i64 c.h]) := Lib.hid (C_6.out.below hb C_6.out.lt)
     have HB_7 : Hid (Below w.heap.size w vl) := Lib.hid (HB_6.out.trans (hb.mono HB_6.out.size))
     clear hb Y_6 V_6 A_6 B_6 C_6 HB_6
     clear hz1
     have HAR := Lib.hid (pAround_yes p0 l _ c1 vl L_7.out HF.out.ls HE0.out)
     have hrok := ar7_ok HF.out HM0.out
     obtain ⟨rr, hrr⟩ : ∃ r, r = ar7 p0 l := ⟨_, rfl⟩
     rw [<- hrr] at HAR
     have HRR := Lib.hid hrr
     clear hrr hrok
     go_wp2_with fail
     refine (HAR.out).mono ?_
     rintro e v7 ⟨rfl, hb⟩
     have X_8 : Hid (Xz 2 (v7.alloc (.cells #[.int .i64 rr.x, .int .i64 rr.y, .int .i64 rr.w, .int .i64 rr.h] 39)) A n) := Lib.hid (X_7.out.below (allocs_below [(#[.int .i64 rr.x, .int .i64 rr.y, .int .i64 rr.w, .int .i64 rr.h], 39)] _ hb hb.size) (Nat.le_refl _))
     have L_8 : Hid (Pz (v7.alloc (.cells #[.int .i64 rr.x, .int .i64 rr.y, .int .i64 rr.w, .int .i64 rr.h] 39)) (some ⟨b1, o1, none⟩) l) := Lib.hid (L_7.out.below (allocs_below [(#[.int .i64 rr.x, .int .i64 rr.y, .int .i64 rr.w, .int .i64 rr.h], 39)] _ hb hb.size) (Nat.le_refl _))
     clear X_7 L_7
     have Y_8 : Hid (Blk (v7.alloc (.cells #[.int .i64 rr.x, .int .i64 rr.y, .int .i64 rr.w, .int .i64 rr.h] 39)) w.heap.size 36 #[.int .i64 y0, .int .i64 y1, .int .i64 y2, .int .i64 y3, .int .i64 y4, .int .i64 y5, .int .i64 y6, .int .i64 y7, .int .i64 y8, .int .i64 y9, .int .i64 y10, .int .i64 y11]) := Lib.hid (allocs_keep [(#[.int .i64 rr.x, .int .i64 rr.y, .int .i64 rr.w, .int .i64 rr.h], 39)] _ (Y_7.out.below hb Y_7.out.lt))
     have V_8 : Hid (Blk (v7.alloc (.cells #[.int .i64 rr.x, .int .i64 rr.y, .int .i64 rr.w, .int .i64 rr.h] 39)) (w.heap.size + 1) 37 #[.int .i64 z0, .int .i64 z1]) := Lib.hid (allocs_keep [(#[.int .i64 rr.x, .int .i64 rr.y, .int .i64 rr.w, .int .i64 rr.h], 39)] _ (V_7.out.below hb V_7.out.lt))
     have A_8 : Hid (Blk (v7.alloc (.cells #[.int .i64 rr.x, .int .i64 rr.y, .int .i64 rr.w, .int .i64 rr.h] 39)) v1.heap.size 39 #[.int .i64 a.x, .int .i64 a.y, .int .i64 a.w, .int .i64 a.h]) := Lib.hid (allocs_keep [(#[.int .i64 rr.x, .int .i64 rr.y, .int .i64 rr.w, .int .i64 rr.h], 39)] _ (A_7.out.below hb A_7.out.lt))
     have B_8 : Hid (Blk (v7.alloc (.cells #[.int .i64 rr.x, .int .i64 rr.y, .int .i64 rr.w, .int .i64 rr.h] 39)) v2.heap.size 39 #[.int .i64 b.x, .int .i64 b.y, .int .i64 b.w, .int .i64 b.h]) := Lib.hid (allocs_keep [(#[.int .i64 rr.x, .int .i64 rr.y, .int .i64 rr.w, .int .i64 rr.h], 39)] _ (B_7.out.below hb B_7.out.lt))
     have C_8 : Hid (Blk (v7.alloc (.cells #[.int .i64 rr.x, .int .i64 rr.y, .int .i64 rr.w, .int .i64 rr.h] 39)) v3.heap.size 39 #[.int .i64 c.x, .int .i64 c.y, .int .i64 c.w, .int .i64 c.h]) := Lib.hid (allocs_keep [(#[.int .i64 rr.x, .int .i64 rr.y, .int .i64 rr.w, .int .i64 rr.h], 39)] _ (C_7.out.below hb C_7.out.lt))
     have HB_8 : Hid (Below w.heap.size w (v7.alloc (.cells #[.int .i64 rr.x, .int .i64 rr.y, .int .i64 rr.w, .int .i64 rr.h] 39))) := Lib.hid (allocs_below [(#[.int .i64 rr.x, .int .i64 rr.y, .int .i64 rr.w, .int .i64 rr.h], 39)] _ (HB_7.out.trans (hb.mono HB_7.out.size)) (HB_7.out.trans (hb.mono HB_7.out.size)).size)
     have R_8 : Hid (Blk (v7.alloc (.cells #[.int .i64 rr.x, .int .i64 rr.y, .int .i64 rr.w, .int .i64 rr.h] 39)) v7.heap.size 39 #[.int .i64 rr.x, .int .i64 rr.y, .int .i64 rr.w, .int .i64 rr.h]) := Lib.hid (allocs_blk [(#[.int .i64 rr.x, .int .i64 rr.y, .int .i64 rr.w, .int .i64 rr.h], 39)] v7 0 _ rfl)
     clear hb Y_7 V_7 A_7 B_7 C_7 HB_7
     clear HAR
     have yy0 := V_8.out.cell (i := 0) (v := .int .i64 z0) rfl; have yy1 := V_8.out.cell (i := 1) (v := .int .i64 z1) rfl
     go_wp2_with fail
     refine (HPZ.out _).mono ?_
     rintro e v8 ⟨rfl, hb⟩
     clear yy0 yy1
     have X_9 : Hid (Xz 2 (v8.alloc (.cells #[.int .i64 z.x, .int .i64 z.y] 31)) A n) := Lib.hid (X_8.out.below (allocs_below [(#[.int .i64 z.x, .int .i64 z.y], 31)] _ hb hb.size) (Nat.le_refl _))
     have L_9 : Hid (Pz (v8.alloc (.cells #[.int .i64 z.x, .int .i64 z.y] 31)) (some ⟨b1, o1, none⟩) l) := Lib.hid (L_8.out.below (allocs_below [(#[.int .i64 z.x, .int .i64 z.y], 31)] _ hb hb.size) (Nat.le_refl _))
     clear X_8 L_8
     have Y_9 : Hid (Blk (v8.alloc (.cells #[.int .i64 z.x, .int .i64 z.y] 31)) w.heap.size 36 #[.int .i64 y0, .int .i64 y1, .int .i64 y2, .int .i64 y3, .int .i64 y4, .int .i64 y5, .int .i64 y6, .int .i64 y7, .int .i64 y8, .int .i64 y9, .int .i64 y10, .int .i64 y11]) := Lib.hid (allocs_keep [(#[.int .i64 z.x, .int .i64 z.y], 31)] _ (Y_8.out.below hb Y_8.out.lt))
     have V_9 : Hid (Blk (v8.alloc (.cells #[.int .i64 z.x, .int .i64 z.y] 31)) (w.heap.size + 1) 37 #[.int .i64 z0, .int .i64 z1]) := Lib.hid (allocs_keep [(#[.int .i64 z.x, .int .i64 z.y], 31)] _ (V_8.out.below hb V_8.out.lt))
     have A_9 : Hid (Blk (v8.alloc (.cells #[.int .i64 z.x, .int .i64 z.y] 31)) v1.heap.size 39 #[.int .i64 a.x, .int .i64 a.y, .int .i64 a.w, .int .i64 a.h]) := Lib.hid (allocs_keep [(#[.int .i64 z.x, .int .i64 z.y], 31)] _ (A_8.out.below hb A_8.out.lt))
     have B_9 : Hid (Blk (v8.alloc (.cells #[.int .i64 z.x, .int .i64 z.y] 31)) v2.heap.size 39 #[.int .i64 b.x, .int .i64 b.y, .int .i64 b.w, .int .i64 b.h]) := Lib.hid (allocs_keep [(#[.int .i64 z.x, .int .i64 z.y], 31)] _ (B_8.out.below hb B_8.out.lt))
     have C_9 : Hid (Blk (v8.alloc (.cells #[.int .i64 z.x, .int .i64 z.y] 31)) v3.heap.size 39 #[.int .i64 c.x, .int .i64 c.y, .int .i64 c.w, .int .i64 c.h]) := Lib.hid (allocs_keep [(#[.int .i64 z.x, .int .i64 z.y], 31)] _ (C_8.out.below hb C_8.out.lt))
     have R_9 : Hid (Blk (v8.alloc (.cells #[.int .i64 z.x, .int .i64 z.y] 31)) v7.heap.size 39 #[.int .i64 rr.x, .int .i64 rr.y, .int .i64 rr.w, .int .i64 rr.h]) := Lib.hid (allocs_keep [(#[.int .i64 z.x, .int .i64 z.y], 31)] _ (R_8.out.below hb R_8.out.lt))
     have HB_9 : Hid (Below w.heap.size w (v8.alloc (.cells #[.int .i64 z.x, .int .i64 z.y] 31))) := Lib.hid (allocs_below [(#[.int .i64 z.x, .int .i64 z.y], 31)] _ (HB_8.out.trans (hb.mono HB_8.out.size)) (HB_8.out.trans (hb.mono HB_8.out.size)).size)
     have P_9 : Hid (Blk (v8.alloc (.cells #[.int .i64 z.x, .int .i64 z.y] 31)) v8.heap.size 31 #[.int .i64 z.x, .int .i64 z.y]) := Lib.hid (allocs_blk [(#[.int .i64 z.x, .int .i64 z.y], 31)] v8 0 _ rfl)
     clear hb Y_8 V_8 A_8 B_8 C_8 R_8 HB_8
     have q0 : (0 : Int) < (l.length : Int) := by omega
     have hce := Pz.cell L_9.out (Below.refl (v8.alloc (.cells #[.int .i64 z.x, .int .i64 z.y] 31)).heap.size (v8.alloc (.cells #[.int .i64 z.x, .int .i64 z.y] 31))) (Nat.le_refl _) hl0
     rw [<- HP0.out, Nat.zero_mul, Nat.add_zero] at hce
     obtain ⟨k0, k1⟩ := hce
     have hce2 := Pz.cell L_9.out (allocs_below [(#[.int .i64 p0.x, .int .i64 p0.y], 31)] _ (Below.refl (v8.alloc (.cells #[.int .i64 z.x, .int .i64 z.y] 31)).heap.size (v8.alloc (.cells #[.int .i64 z.x, .int .i64 z.y] 31))) (Nat.le_refl _)) (Nat.le_refl _) hl0
     rw [<- HP0.out, Nat.zero_mul, Nat.add_zero] at hce2
     obtain ⟨k2, k3⟩ := hce2
     simp only [allocs] at k2 k3
     go_upto_region 15 with fail
     clear k0 k1 k2 k3
     have hsz2 : (v8.alloc (.cells #[.int .i64 z.x, .int .i64 z.y] 31)).heap.size = v8.heap.size + 1 := by simp
     have HWS := Lib.hid hsz2
     have HB1 := allocs_blk [(#[.int .i64 p0.x, .int .i64 p0.y], 31), (#[.int .i64 p0.x, .int .i64 p0.y], 31)] (v8.alloc (.cells #[.int .i64 z.x, .int .i64 z.y] 31)) 0 _ rfl; have HB2 := allocs_blk [(#[.int .i64 p0.x, .int .i64 p0.y], 31), (#[.int .i64 p0.x, .int .i64 p0.y], 31)] (v8.alloc (.cells #[.int .i64 z.x, .int .i64 z.y] 31)) 1 _ rfl
     rw [hsz2] at HB1 HB2
     have HB1 : Hid (Blk _ (v8.heap.size + 1) 31 #[.int .i64 p0.x, .int .i64 p0.y]) := Lib.hid HB1; have HB2 : Hid (Blk _ (v8.heap.size + 2) 31 #[.int .i64 p0.x, .int .i64 p0.y]) := Lib.hid HB2
     have HLB := Lib.hid (allocs_below [(#[.int .i64 p0.x, .int .i64 p0.y], 31), (#[.int .i64 p0.x, .int .i64 p0.y], 31)] _ (Below.refl (v8.alloc (.cells #[.int .i64 z.x, .int .i64 z.y] 31)).heap.size (v8.alloc (.cells #[.int .i64 z.x, .int .i64 z.y] 31))) (Nat.le_refl _))
     clear hsz2
     go_wp2_with fail
     go_loopw [16] (fun ii wx => ∃ i : Nat, ii = .int .i64 i /\ i <= l.length /\ Blk wx (v8.heap.size + 1) 31 #[.int .i64 (((l.take i).foldl lo7 p0).x), .int .i64 (((l.take i).foldl lo7 p0).y)] /\ Blk wx (v8.heap.size + 2) 31 #[.int .i64 (((l.take i).foldl hi7 p0).x), .int .i64 (((l.take i).foldl hi7 p0).y)] /\ Below (v8.alloc (.cells #[.int .i64 z.x, .int .i64 z.y] 31)).heap.size (v8.alloc (.cells #[.int .i64 z.x, .int .i64 z.y] 31)) wx) (fun ii _ => l.length - (intOf ii).toNat)
     case atStart => exact ⟨0, rfl, Nat.zero_le _, HB1.out, HB2.out, HLB.out⟩
     case round =>
       clear HB1 HB2 HLB
       obtain ⟨i, rfl, hi, h1, h2, hB⟩ := hrel
       have HB1 := Lib.hid h1; have HB2 := Lib.hid h2; have HB := Lib.hid hB; clear h1 h2 hB
       by_cases hlt : i < l.length
       case neg =>
         obtain rfl : i = l.length := by omega
         rw [List.take_length] at HB1 HB2
         have s1 : ¬ (l.length : Int) < (l.length : Int) := by omega
         have htc := ar7_tc HF.out HM0.out HKZ.out
         rw [<- HRR.out] at htc
         have HTZ := Lib.hid (fun W => touch_any ⟨z.x, z.y, 0, 0⟩ rr W)
         rw [htc] at HTZ
         obtain ⟨lo, hlo⟩ : ∃ lo, lo = l.foldl lo7 p0 := ⟨_, rfl⟩
         obtain ⟨hi2, hhi⟩ : ∃ hi2, hi2 = l.foldl hi7 p0 := ⟨_, rfl⟩
         rw [<- hlo, <- hhi] at HTZ
         rw [<- hlo] at HB1
         rw [<- hhi] at HB2
         obtain ⟨bb, hbb⟩ : ∃ bb, bb = (((decide (lo.x <= z.x) && decide (z.x <= hi2.x)) && decide (lo.y <= z.y)) && decide (z.y <= hi2.y)) := ⟨_, rfl⟩
         rw [<- hbb] at HTZ
         have HBB := Lib.hid hbb
         clear hlt hi hlo hhi htc hbb
         have LO_0 := HB1; have HI_0 := HB2; have RR_0 := Lib.hid (R_9.out.below HB.out R_9.out.lt); have PP_0 := Lib.hid (P_9.out.below HB.out P_9.out.lt); have HB_0 := Lib.hid (HB_9.out.trans (HB.out.mono HB_9.out.size)); clear HB1 HB2 HB
         go_upto_region 22 with fail
         go_cut [17] from 168 to 193 (fun b wx => b = .bool bb /\ Below wr.heap.size wr wx)
         case first =>
           have hundef := un_none
           have yy0 := LO_0.out.cell (i := 0) (v := .int .i64 lo.x) rfl; have yy1 := LO_0.out.cell (i := 1) (v := .int .i64 lo.y) rfl
           have yy2 := HI_0.out.cell (i := 0) (v := .int .i64 hi2.x) rfl; have yy3 := HI_0.out.cell (i := 1) (v := .int .i64 hi2.y) rfl
           have yy4 := PP_0.out.cell (i := 0) (v := .int .i64 z.x) rfl; have yy5 := PP_0.out.cell (i := 1) (v := .int .i64 z.y) rfl
           by_cases g0 : lo.x <= z.x
           case pos =>
             by_cases g1 : z.x <= hi2.x
             case pos =>
               by_cases g2 : lo.y <= z.y
               case pos =>
                 by_cases g3 : z.y <= hi2.y
                 case pos =>
                   go_wp2_with fail
                   go_meet
                   exact ⟨by rw [HBB.out]; first | (simp; done) | (simp; intros; omega) | simp [g0, g1, g2, g3], Below.refl _ _⟩
                 case neg =>
                   go_wp2_with fail
                   go_meet
                   exact ⟨by rw [HBB.out]; first | (simp; done) | (simp; intros; omega) | simp [g0, g1, g2, g3], Below.refl _ _⟩
               case neg =>
                 go_wp2_with fail
                 go_meet
                 exact ⟨by rw [HBB.out]; first | (simp; done) | (simp; intros; omega) | simp [g0, g1, g2], Below.refl _ _⟩
             case neg =>
               go_wp2_with fail
               go_meet
               exact ⟨by rw [HBB.out]; first | (simp; done) | (simp; intros; omega) | simp [g0, g1], Below.refl _ _⟩
           case neg =>
             go_wp2_with fail
             go_meet
             exact ⟨by rw [HBB.out]; first | (simp; done) | (simp; intros; omega) | simp [g0], Below.refl _ _⟩
         case rest =>
           obtain ⟨rfl, hb⟩ := hcut
           rename World => wz22
           have LO_1 : Hid (Blk wz22 (v8.heap.size + 1) 31 #[.int .i64 lo.x, .int .i64 lo.y]) := Lib.hid (LO_0.out.below hb LO_0.out.lt)
           have HI_1 : Hid (Blk wz22 (v8.heap.size + 2) 31 #[.int .i64 hi2.x, .int .i64 hi2.y]) := Lib.hid (HI_0.out.below hb HI_0.out.lt)
           have RR_1 : Hid (Blk wz22 v7.heap.size 39 #[.int .i64 rr.x, .int .i64 rr.y, .int .i64 rr.w, .int .i64 rr.h]) := Lib.hid (RR_0.out.below hb RR_0.out.lt)
           have PP_1 : Hid (Blk wz22 v8.heap.size 31 #[.int .i64 z.x, .int .i64 z.y]) := Lib.hid (PP_0.out.below hb PP_0.out.lt)
           have HB_1 : Hid (Below w.heap.size w wz22) := Lib.hid (HB_0.out.trans (hb.mono HB_0.out.size))
           clear hb LO_0 HI_0 RR_0 PP_0 HB_0
           have yy0 := RR_1.out.cell (i := 0) (v := .int .i64 rr.x) rfl; have yy1 := RR_1.out.cell (i := 1) (v := .int .i64 rr.y) rfl; have yy2 := RR_1.out.cell (i := 2) (v := .int .i64 rr.w) rfl; have yy3 := RR_1.out.cell (i := 3) (v := .int .i64 rr.h) rfl
           have yy4 := PP_1.out.cell (i := 0) (v := .int .i64 z.x) rfl; have yy5 := PP_1.out.cell (i := 1) (v := .int .i64 z.y) rfl
           go_wp2_with fail
           refine (HTZ.out _).mono ?_
           rintro e v1 ⟨rfl, hb⟩
           clear yy0 yy1 yy2 yy3 yy4 yy5
           have LO_2 : Hid (Blk v1 (v8.heap.size + 1) 31 #[.int .i64 lo.x, .int .i64 lo.y]) := Lib.hid (LO_1.out.below hb LO_1.out.lt)
           have HI_2 : Hid (Blk v1 (v8.heap.size + 2) 31 #[.int .i64 hi2.x, .int .i64 hi2.y]) := Lib.hid (HI_1.out.below hb HI_1.out.lt)
           have RR_2 : Hid (Blk v1 v7.heap.size 39 #[.int .i64 rr.x, .int .i64 rr.y, .int .i64 rr.w, .int .i64 rr.h]) := Lib.hid (RR_1.out.below hb RR_1.out.lt)
           have PP_2 : Hid (Blk v1 v8.heap.size 31 #[.int .i64 z.x, .int .i64 z.y]) := Lib.hid (PP_1.out.below hb PP_1.out.lt)
           have HB_2 : Hid (Below w.heap.size w v1) := Lib.hid (HB_1.out.trans (hb.mono HB_1.out.size))
           clear hb LO_1 HI_1 RR_1 PP_1 HB_1
           have hbb2 : (bb == bb) = true := by simp
           go_wp2_with fail
           go_ret
           exact ⟨rfl, HB_2.out⟩
       case pos =>
         have t1 := fold_take (f := lo7) p0 hlt; have t2 := fold_take (f := hi7) p0 hlt
         have hcell : ∀ W', Below (v8.alloc (.cells #[.int .i64 z.x, .int .i64 z.y] 31)).heap.size (v8.alloc (.cells #[.int .i64 z.x, .int .i64 z.y] 31)) W' -> W'.cell? ⟨b1, o1 + i * 2, none⟩ = some (.int .i64 l[i].x) /\ W'.cell? ⟨b1, o1 + i * 2 + 1, none⟩ = some (.int .i64 l[i].y) := fun W' hW => Pz.cell L_9.out hW (Nat.le_refl _) hlt
         have hins := ar7_in HF.out HM0.out (List.getElem_mem hlt)
         rw [<- HRR.out] at hins
         obtain ⟨d, hd⟩ : ∃ d, d = l[i] := ⟨_, rfl⟩
         obtain ⟨lo, hlo⟩ : ∃ lo, lo = (l.take i).foldl lo7 p0 := ⟨_, rfl⟩
         obtain ⟨hi2, hhi⟩ : ∃ hi2, hi2 = (l.take i).foldl hi7 p0 := ⟨_, rfl⟩
         rw [<- hd] at t1 t2 hins
         simp only [<- hd] at hcell
         rw [<- hlo] at t1 HB1
         rw [<- hhi] at t2 HB2
         have HIN := Lib.hid (fun W => inside_any ⟨d.x, d.y, 0, 0⟩ rr W)
         rw [hins] at HIN
         obtain ⟨mx, hmx⟩ : ∃ m, m = (if d.x < lo.x then d.x else lo.x) := ⟨_, rfl⟩
         obtain ⟨my, hmy⟩ : ∃ m, m = (if d.y < lo.y then d.y else lo.y) := ⟨_, rfl⟩
         obtain ⟨nx, hnx⟩ : ∃ m, m = (if hi2.x < d.x then d.x else hi2.x) := ⟨_, rfl⟩
         obtain ⟨ny, hny⟩ : ∃ m, m = (if hi2.y < d.y then d.y else hi2.y) := ⟨_, rfl⟩
         have HQ1 : Hid ((l.take (i + 1)).foldl lo7 p0 = ⟨mx, my⟩) := Lib.hid (by rw [t1, hmx, hmy]; unfold lo7; simp only [P7.mk.injEq]; omega)
         have HQ2 : Hid ((l.take (i + 1)).foldl hi7 p0 = ⟨nx, ny⟩) := Lib.hid (by rw [t2, hnx, hny]; unfold hi7; simp only [P7.mk.injEq]; omega)
         have q1 : (0 : Int) <= (i : Int) := by omega
         have q2 : (i : Int) < (l.length : Int) := by omega
         have q5 : (i : Int) <= 9223372036854775806 := by have := HL.out; omega
         have HI := Lib.hid hlt; have HCE := Lib.hid hcell
         have HM1 := Lib.hid hmx; have HM2 := Lib.hid hmy; have HM3 := Lib.hid hnx; have HM4 := Lib.hid hny
         have HAT1 := Lib.hid (fun W => at_any mx my W); have HAT2 := Lib.hid (fun W => at_any nx ny W)
         clear hd hlo hhi t1 t2 hlt hi hins hcell hmx hmy hnx hny
         go_upto_region 18 with fail
         refine wp_region_goes (Sp := fun _ => True) (Se := (fun w' => w'.cell? ⟨v8.heap.size + 1, 0, none⟩ = some (.int .i64 lo.x) /\ w'.cell? ⟨v8.heap.size + 1, 1, none⟩ = some (.int .i64 lo.y) /\ w'.cell? ⟨b1, o1 + i * 2, none⟩ = some (.int .i64 d.x) /\ w'.cell? ⟨b1, o1 + i * 2 + 1, none⟩ = some (.int .i64 d.y))) (Z := (([17] : List Nat).contains ·)) (by kernel_rfl) ?_
         have hw : Holds (fun _ => True) (fun w' => w'.cell? ⟨v8.heap.size + 1, 0, none⟩ = some (.int .i64 lo.x) /\ w'.cell? ⟨v8.heap.size + 1, 1, none⟩ = some (.int .i64 lo.y) /\ w'.cell? ⟨b1, o1 + i * 2, none⟩ = some (.int .i64 d.x) /\ w'.cell? ⟨b1, o1 + i * 2 + 1, none⟩ = some (.int .i64 d.y)) (([17] : List Nat).contains ·) (Array.replicate 18 false) wr.drew := ⟨trivial, fun _ => ⟨(HB1.out.below ((Below.refl wr.heap.size wr).drew) HB1.out.lt).cell (i := 0) rfl, (HB1.out.below ((Below.refl wr.heap.size wr).drew) HB1.out.lt).cell (i := 1) rfl, (HCE.out _ (HB.out.trans (((Below.refl wr.heap.size wr).drew).mono HB.out.size))).1, (HCE.out _ (HB.out.trans (((Below.refl wr.heap.size wr).drew).mono HB.out.size))).2⟩⟩
         refine goes_take (t := [(17, [0, 1, 2, 3, 4, 5, 6, 7, 8, 9, 10, 11, 12, 13, 14, 15, 16])]) (es := [1, 6, 9, 14]) (zs := [17]) 0 (some 120) ?_ (by kernel_rfl) rfl rfl (by kernel_rfl) (fun _ _ _ h => h) (by kernel_rfl) ?_ hw (fun hw2 => ?_)
         rotate_left
         · intro wS hS; clear hS; go_simp <;> with_reducible rfl
         clear hw; have hw := hw2; clear hw2
         try simp only [Act.put, q8a, q8b, q8c]
         refine goes_take (t := [(17, [0, 1, 2, 3, 4, 5, 6, 7, 8, 9, 10, 11, 12, 13, 14, 15, 16])]) (es := [1, 6, 9, 14]) (zs := [17]) 1 (some 121) ?_ (by kernel_rfl) rfl rfl (by kernel_rfl) (fun _ _ _ h => h) (by kernel_rfl) ?_ hw (fun hw2 => ?_)
         rotate_left
         · intro wS hS; have hE := hS.2 rfl; clear hS; (try dsimp only at hE); go_simp <;> with_reducible rfl
         clear hw; have hw := hw2; clear hw2
         try simp only [Act.put, q8a, q8b, q8c]
         refine goes_take (t := [(17, [0, 1, 2, 3, 4, 5, 6, 7, 8, 9, 10, 11, 12, 13, 14, 15, 16])]) (es := [1, 6, 9, 14]) (zs := [17]) 2 (some 122) ?_ (by kernel_rfl) rfl rfl (by kernel_rfl) (fun _ _ _ h => h) (by kernel_rfl) ?_ hw (fun hw2 => ?_)
         rotate_left
         · intro wS hS; clear hS; go_simp <;> with_reducible rfl
         clear hw; have hw := hw2; clear hw2
         try simp only [Act.put, q8a, q8b, q8c]
         refine goes_take (t := [(17, [0, 1, 2, 3, 4, 5, 6, 7, 8, 9, 10, 11, 12, 13, 14, 15, 16])]) (es := [1, 6, 9, 14]) (zs := [17]) 3 (some 123) ?_ (by kernel_rfl) rfl rfl (by kernel_rfl) (fun _ _ _ h => h) (by kernel_rfl) ?_ hw (fun hw2 => ?_)
         rotate_left
         · intro wS hS; clear hS; go_simp <;> with_reducible rfl
         clear hw; have hw := hw2; clear hw2
         try simp only [Act.put, q8a, q8b, q8c]
         refine goes_take (t := [(17, [0, 1, 2, 3, 4, 5, 6, 7, 8, 9, 10, 11, 12, 13, 14, 15, 16])]) (es := [1, 6, 9, 14]) (zs := [17]) 4 (some 124) ?_ (by kernel_rfl) rfl rfl (by kernel_rfl) (fun _ _ _ h => h) (by kernel_rfl) ?_ hw (fun hw2 => ?_)
         rotate_left
         · intro wS hS; clear hS; go_simp <;> with_reducible rfl
         clear hw; have hw := hw2; clear hw2
         try simp only [Act.put, q8a, q8b, q8c]
         refine goes_take (t := [(17, [0, 1, 2, 3, 4, 5, 6, 7, 8, 9, 10, 11, 12, 13, 14, 15, 16])]) (es := [1, 6, 9, 14]) (zs := [17]) 5 (some 125) ?_ (by kernel_rfl) rfl rfl (by kernel_rfl) (fun _ _ _ h => h) (by kernel_rfl) ?_ hw (fun hw2 => ?_)
         rotate_left
         · intro wS hS; clear hS; go_simp <;> with_reducible rfl
         clear hw; have hw := hw2; clear hw2
         try simp only [Act.put, q8a, q8b, q8c]
         refine goes_take (t := [(17, [0, 1, 2, 3, 4, 5, 6, 7, 8, 9, 10, 11, 12, 13, 14, 15, 16])]) (es := [1, 6, 9, 14]) (zs := [17]) 6 (some 126) ?_ (by kernel_rfl) rfl rfl (by kernel_rfl) (fun _ _ _ h => h) (by kernel_rfl) ?_ hw (fun hw2 => ?_)
         rotate_left
         · intro wS hS; have hE := hS.2 rfl; clear hS; (try dsimp only at hE); go_simp <;> with_reducible rfl
         clear hw; have hw := hw2; clear hw2
         try simp only [Act.put, q8a, q8b, q8c]
         refine goes_take (t := [(17, [0, 1, 2, 3, 4, 5, 6, 7, 8, 9, 10, 11, 12, 13, 14, 15, 16])]) (es := [1, 6, 9, 14]) (zs := [17]) 7 (some 127) (.int .i64 mx) (by kernel_rfl) rfl rfl (by kernel_rfl) (fun _ _ _ h => h) (by kernel_rfl) ?_ hw (fun hw2 => ?_)
         · intro wS hS; clear hS; go_simp
           all_goals (rw [HM1.out])
         clear hw; have hw := hw2; clear hw2
         try simp only [Act.put, q8a, q8b, q8c]
         refine goes_take (t := [(17, [0, 1, 2, 3, 4, 5, 6, 7, 8, 9, 10, 11, 12, 13, 14, 15, 16])]) (es := [1, 6, 9, 14]) (zs := [17]) 8 (some 128) ?_ (by kernel_rfl) rfl rfl (by kernel_rfl) (fun _ _ _ h => h) (by kernel_rfl) ?_ hw (fun hw2 => ?_)
         rotate_left
         · intro wS hS; clear hS; go_simp <;> with_reducible rfl
         clear hw; have hw := hw2; clear hw2
         try simp only [Act.put, q8a, q8b, q8c]
         refine goes_take (t := [(17, [0, 1, 2, 3, 4, 5, 6, 7, 8, 9, 10, 11, 12, 13, 14, 15, 16])]) (es := [1, 6, 9, 14]) (zs := [17]) 9 (some 129) ?_ (by kernel_rfl) rfl rfl (by kernel_rfl) (fun _ _ _ h => h) (by kernel_rfl) ?_ hw (fun hw2 => ?_)
         rotate_left
         · intro wS hS; have hE := hS.2 rfl; clear hS; (try dsimp only at hE); go_simp <;> with_reducible rfl
         clear hw; have hw := hw2; clear hw2
         try simp only [Act.put, q8a, q8b, q8c]
         refine goes_take (t := [(17, [0, 1, 2, 3, 4, 5, 6, 7, 8, 9, 10, 11, 12, 13, 14, 15, 16])]) (es := [1, 6, 9, 14]) (zs := [17]) 10 (some 130) ?_ (by kernel_rfl) rfl rfl (by kernel_rfl) (fun _ _ _ h => h) (by kernel_rfl) ?_ hw (fun hw2 => ?_)
         rotate_left
         · intro wS hS; clear hS; go_simp <;> with_reducible rfl
         clear hw; have hw := hw2; clear hw2
         try simp only [Act.put, q8a, q8b, q8c]
         refine goes_take (t := [(17, [0, 1, 2, 3, 4, 5, 6, 7, 8, 9, 10, 11, 12, 13, 14, 15, 16])]) (es := [1, 6, 9, 14]) (zs := [17]) 11 (some 131) ?_ (by kernel_rfl) rfl rfl (by kernel_rfl) (fun _ _ _ h => h) (by kernel_rfl) ?_ hw (fun hw2 => ?_)
         rotate_left
         · intro wS hS; clear hS; go_simp <;> with_reducible rfl
         clear hw; have hw := hw2; clear hw2
         try simp only [Act.put, q8a, q8b, q8c]
         refine goes_take (t := [(17, [0, 1, 2, 3, 4, 5, 6, 7, 8, 9, 10, 11, 12, 13, 14, 15, 16])]) (es := [1, 6, 9, 14]) (zs := [17]) 12 (some 132) ?_ (by kernel_rfl) rfl rfl (by kernel_rfl) (fun _ _ _ h => h) (by kernel_rfl) ?_ hw (fun hw2 => ?_)
         rotate_left
         · intro wS hS; clear hS; go_simp <;> with_reducible rfl
         clear hw; have hw := hw2; clear hw2
         try simp only [Act.put, q8a, q8b, q8c]
         refine goes_take (t := [(17, [0, 1, 2, 3, 4, 5, 6, 7, 8, 9, 10, 11, 12, 13, 14, 15, 16])]) (es := [1, 6, 9, 14]) (zs := [17]) 13 (some 133) ?_ (by kernel_rfl) rfl rfl (by kernel_rfl) (fun _ _ _ h => h) (by kernel_rfl) ?_ hw (fun hw2 => ?_)
         rotate_left
         · intro wS hS; clear hS; go_simp <;> with_reducible rfl
         clear hw; have hw := hw2; clear hw2
         try simp only [Act.put, q8a, q8b, q8c]
         refine goes_take (t := [(17, [0, 1, 2, 3, 4, 5, 6, 7, 8, 9, 10, 11, 12, 13, 14, 15, 16])]) (es := [1, 6, 9, 14]) (zs := [17]) 14 (some 134) ?_ (by kernel_rfl) rfl rfl (by kernel_rfl) (fun _ _ _ h => h) (by kernel_rfl) ?_ hw (fun hw2 => ?_)
         rotate_left
         · intro wS hS; have hE := hS.2 rfl; clear hS; (try dsimp only at hE); go_simp <;> with_reducible rfl
         clear hw; have hw := hw2; clear hw2
         try simp only [Act.put, q8a, q8b, q8c]
         refine goes_take (t := [(17, [0, 1, 2, 3, 4, 5, 6, 7, 8, 9, 10, 11, 12, 13, 14, 15, 16])]) (es := [1, 6, 9, 14]) (zs := [17]) 15 (some 135) (.int .i64 my) (by kernel_rfl) rfl rfl (by kernel_rfl) (fun _ _ _ h => h) (by kernel_rfl) ?_ hw (fun hw2 => ?_)
         · intro wS hS; clear hS; go_simp
           all_goals (rw [HM2.out])
         clear hw; have hw := hw2; clear hw2
         try simp only [Act.put, q8a, q8b, q8c]
         refine goes_call 16 (some 136) 16 [.tmp 127, .tmp 135] #[3, 3] rfl rfl (by kernel_rfl) (by kernel_rfl) rfl (enters_of Tryz.func16 (by kernel_rfl) rfl) (HAT1.out _) (by kernel_rfl) ?_
         rintro e wq ⟨rfl, hb⟩
         have hq1 : Below wr.heap.size wr wq := (Below.refl wr.heap.size wr).drew.trans (hb.mono (Nat.le_refl _)); clear hb
         refine ⟨_, rfl, ⟨trivial, fun _ => ⟨(HB1.out.below hq1 HB1.out.lt).cell (i := 0) rfl, (HB1.out.below hq1 HB1.out.lt).cell (i := 1) rfl, (HCE.out _ (HB.out.trans (hq1.mono HB.out.size))).1, (HCE.out _ (HB.out.trans (hq1.mono HB.out.size))).2⟩⟩, fun hw2 => ?_⟩
         clear hw; have hw := hw2; clear hw2
         try simp only [Act.put, q8a, q8b, q8c]
         refine goes_late 17 rfl (by kernel_rfl) (by kernel_rfl) (by kernel_rfl) (fun _ => trivial) (fun K hK => ?_)
         have y0 := (HB1.out.below hq1 HB1.out.lt).cell (i := 0) (v := .int .i64 lo.x) rfl; have y1 := (HB1.out.below hq1 HB1.out.lt).cell (i := 1) (v := .int .i64 lo.y) rfl; have y2 := (HB1.out.below hq1 HB1.out.lt).frozen 0; have y3 := (HB1.out.below hq1 HB1.out.lt).frozen 1
         go_simp
         refine hK.out _ _ ?_
         clear hK K
         try simp only [Act.put]
         refine Goes.done (by kernel_rfl) ?_ _
         clear y0 y1 y2 y3
         have N1 := Lib.hid (((HB1.out.below hq1 HB1.out.lt).set 0 (.int .i64 mx)).set 1 (.int .i64 my))
         have N2 := Lib.hid (((HB2.out.below hq1 HB2.out.lt).far (p := ⟨v8.heap.size + 1, 0, none⟩) (by show v8.heap.size + 2 ≠ v8.heap.size + 1; omega) (.int .i64 mx)).far (p := ⟨v8.heap.size + 1, 1, none⟩) (by show v8.heap.size + 2 ≠ v8.heap.size + 1; omega) (.int .i64 my))
         have NB := Lib.hid ((((HB.out.trans (hq1.mono HB.out.size)).setCell (p := ⟨v8.heap.size + 1, 0, none⟩) (by have := HWS.out; show (v8.alloc (.cells #[.int .i64 z.x, .int .i64 z.y] 31)).heap.size <= v8.heap.size + 1; omega) (.int .i64 mx))).setCell (p := ⟨v8.heap.size + 1, 1, none⟩) (by have := HWS.out; show (v8.alloc (.cells #[.int .i64 z.x, .int .i64 z.y] 31)).heap.size <= v8.heap.size + 1; omega) (.int .i64 my))
         clear HB1 HB2 HB hq1 hw
         skip
         go_upto_region 19 with fail
         refine wp_region_goes (Sp := fun _ => True) (Se := (fun w' => w'.cell? ⟨v8.heap.size + 2, 0, none⟩ = some (.int .i64 hi2.x) /\ w'.cell? ⟨v8.heap.size + 2, 1, none⟩ = some (.int .i64 hi2.y) /\ w'.cell? ⟨b1, o1 + i * 2, none⟩ = some (.int .i64 d.x) /\ w'.cell? ⟨b1, o1 + i * 2 + 1, none⟩ = some (.int .i64 d.y))) (Z := (([17] : List Nat).contains ·)) (by kernel_rfl) ?_
         have hw : Holds (fun _ => True) (fun w' => w'.cell? ⟨v8.heap.size + 2, 0, none⟩ = some (.int .i64 hi2.x) /\ w'.cell? ⟨v8.heap.size + 2, 1, none⟩ = some (.int .i64 hi2.y) /\ w'.cell? ⟨b1, o1 + i * 2, none⟩ = some (.int .i64 d.x) /\ w'.cell? ⟨b1, o1 + i * 2 + 1, none⟩ = some (.int .i64 d.y)) (([17] : List Nat).contains ·) (Array.replicate 18 false) (((wq.setCell ⟨v8.heap.size + 1, 0, none⟩ (.int .i64 mx)).setCell ⟨v8.heap.size + 1, 1, none⟩ (.int .i64 my))).drew := ⟨trivial, fun _ => ⟨(N2.out.below ((Below.refl (((wq.setCell ⟨v8.heap.size + 1, 0, none⟩ (.int .i64 mx)).setCell ⟨v8.heap.size + 1, 1, none⟩ (.int .i64 my))).heap.size (((wq.setCell ⟨v8.heap.size + 1, 0, none⟩ (.int .i64 mx)).setCell ⟨v8.heap.size + 1, 1, none⟩ (.int .i64 my)))).drew) N2.out.lt).cell (i := 0) rfl, (N2.out.below ((Below.refl (((wq.setCell ⟨v8.heap.size + 1, 0, none⟩ (.int .i64 mx)).setCell ⟨v8.heap.size + 1, 1, none⟩ (.int .i64 my))).heap.size (((wq.setCell ⟨v8.heap.size + 1, 0, none⟩ (.int .i64 mx)).setCell ⟨v8.heap.size + 1, 1, none⟩ (.int .i64 my)))).drew) N2.out.lt).cell (i := 1) rfl, (HCE.out _ (NB.out.trans (((Below.refl (((wq.setCell ⟨v8.heap.size + 1, 0, none⟩ (.int .i64 mx)).setCell ⟨v8.heap.size + 1, 1, none⟩ (.int .i64 my))).heap.size (((wq.setCell ⟨v8.heap.size + 1, 0, none⟩ (.int .i64 mx)).setCell ⟨v8.heap.size + 1, 1, none⟩ (.int .i64 my)))).drew).mono NB.out.size))).1, (HCE.out _ (NB.out.trans (((Below.refl (((wq.setCell ⟨v8.heap.size + 1, 0, none⟩ (.int .i64 mx)).setCell ⟨v8.heap.size + 1, 1, none⟩ (.int .i64 my))).heap.size (((wq.setCell ⟨v8.heap.size + 1, 0, none⟩ (.int .i64 mx)).setCell ⟨v8.heap.size + 1, 1, none⟩ (.int .i64 my)))).drew).mono NB.out.size))).2⟩⟩
         refine goes_take (t := [(17, [0, 1, 2, 3, 4, 5, 6, 7, 8, 9, 10, 11, 12, 13, 14, 15, 16])]) (es := [1, 6, 9, 14]) (zs := [17]) 0 (some 137) ?_ (by kernel_rfl) rfl rfl (by kernel_rfl) (fun _ _ _ h => h) (by kernel_rfl) ?_ hw (fun hw2 => ?_)
         rotate_left
         · intro wS hS; clear hS; go_simp <;> with_reducible rfl
         clear hw; have hw := hw2; clear hw2
         try simp only [Act.put, q8a, q8b, q8c]
         refine goes_take (t := [(17, [0, 1, 2, 3, 4, 5, 6, 7, 8, 9, 10, 11, 12, 13, 14, 15, 16])]) (es := [1, 6, 9, 14]) (zs := [17]) 1 (some 138) ?_ (by kernel_rfl) rfl rfl (by kernel_rfl) (fun _ _ _ h => h) (by kernel_rfl) ?_ hw (fun hw2 => ?_)
         rotate_left
         · intro wS hS; have hE := hS.2 rfl; clear hS; (try dsimp only at hE); go_simp <;> with_reducible rfl
         clear hw; have hw := hw2; clear hw2
         try simp only [Act.put, q8a, q8b, q8c]
         refine goes_take (t := [(17, [0, 1, 2, 3, 4, 5, 6, 7, 8, 9, 10, 11, 12, 13, 14, 15, 16])]) (es := [1, 6, 9, 14]) (zs := [17]) 2 (some 139) ?_ (by kernel_rfl) rfl rfl (by kernel_rfl) (fun _ _ _ h => h) (by kernel_rfl) ?_ hw (fun hw2 => ?_)
         rotate_left
         · intro wS hS; clear hS; go_simp <;> with_reducible rfl
         clear hw; have hw := hw2; clear hw2
         try simp only [Act.put, q8a, q8b, q8c]
         refine goes_take (t := [(17, [0, 1, 2, 3, 4, 5, 6, 7, 8, 9, 10, 11, 12, 13, 14, 15, 16])]) (es := [1, 6, 9, 14]) (zs := [17]) 3 (some 140) ?_ (by kernel_rfl) rfl rfl (by kernel_rfl) (fun _ _ _ h => h) (by kernel_rfl) ?_ hw (fun hw2 => ?_)
         rotate_left
         · intro wS hS; clear hS; go_simp <;> with_reducible rfl
         clear hw; have hw := hw2; clear hw2
         try simp only [Act.put, q8a, q8b, q8c]
         refine goes_take (t := [(17, [0, 1, 2, 3, 4, 5, 6, 7, 8, 9, 10, 11, 12, 13, 14, 15, 16])]) (es := [1, 6, 9, 14]) (zs := [17]) 4 (some 141) ?_ (by kernel_rfl) rfl rfl (by kernel_rfl) (fun _ _ _ h => h) (by kernel_rfl) ?_ hw (fun hw2 => ?_)
         rotate_left
         · intro wS hS; clear hS; go_simp <;> with_reducible rfl
         clear hw; have hw := hw2; clear hw2
         try simp only [Act.put, q8a, q8b, q8c]
         refine goes_take (t := [(17, [0, 1, 2, 3, 4, 5, 6, 7, 8, 9, 10, 11, 12, 13, 14, 15, 16])]) (es := [1, 6, 9, 14]) (zs := [17]) 5 (some 142) ?_ (by kernel_rfl) rfl rfl (by kernel_rfl) (fun _ _ _ h => h) (by kernel_rfl) ?_ hw (fun hw2 => ?_)
         rotate_left
         · intro wS hS; clear hS; go_simp <;> with_reducible rfl
         clear hw; have hw := hw2; clear hw2
         try simp only [Act.put, q8a, q8b, q8c]
         refine goes_take (t := [(17, [0, 1, 2, 3, 4, 5, 6, 7, 8, 9, 10, 11, 12, 13, 14, 15, 16])]) (es := [1, 6, 9, 14]) (zs := [17]) 6 (some 143) ?_ (by kernel_rfl) rfl rfl (by kernel_rfl) (fun _ _ _ h => h) (by kernel_rfl) ?_ hw (fun hw2 => ?_)
         rotate_left
         · intro wS hS; have hE := hS.2 rfl; clear hS; (try dsimp only at hE); go_simp <;> with_reducible rfl
         clear hw; have hw := hw2; clear hw2
         try simp only [Act.put, q8a, q8b, q8c]
         refine goes_take (t := [(17, [0, 1, 2, 3, 4, 5, 6, 7, 8, 9, 10, 11, 12, 13, 14, 15, 16])]) (es := [1, 6, 9, 14]) (zs := [17]) 7 (some 144) (.int .i64 nx) (by kernel_rfl) rfl rfl (by kernel_rfl) (fun _ _ _ h => h) (by kernel_rfl) ?_ hw (fun hw2 => ?_)
         · intro wS hS; clear hS; go_simp
           all_goals (rw [HM3.out])
         clear hw; have hw := hw2; clear hw2
         try simp only [Act.put, q8a, q8b, q8c]
         refine goes_take (t := [(17, [0, 1, 2, 3, 4, 5, 6, 7, 8, 9, 10, 11, 12, 13, 14, 15, 16])]) (es := [1, 6, 9, 14]) (zs := [17]) 8 (some 145) ?_ (by kernel_rfl) rfl rfl (by kernel_rfl) (fun _ _ _ h => h) (by kernel_rfl) ?_ hw (fun hw2 => ?_)
         rotate_left
         · intro wS hS; clear hS; go_simp <;> with_reducible rfl
         clear hw; have hw := hw2; clear hw2
         try simp only [Act.put, q8a, q8b, q8c]
         refine goes_take (t := [(17, [0, 1, 2, 3, 4, 5, 6, 7, 8, 9, 10, 11, 12, 13, 14, 15, 16])]) (es := [1, 6, 9, 14]) (zs := [17]) 9 (some 146) ?_ (by kernel_rfl) rfl rfl (by kernel_rfl) (fun _ _ _ h => h) (by kernel_rfl) ?_ hw (fun hw2 => ?_)
         rotate_left
         · intro wS hS; have hE := hS.2 rfl; clear hS; (try dsimp only at hE); go_simp <;> with_reducible rfl
         clear hw; have hw := hw2; clear hw2
         try simp only [Act.put, q8a, q8b, q8c]
         refine goes_take (t := [(17, [0, 1, 2, 3, 4, 5, 6, 7, 8, 9, 10, 11, 12, 13, 14, 15, 16])]) (es := [1, 6, 9, 14]) (zs := [17]) 10 (some 147) ?_ (by kernel_rfl) rfl rfl (by kernel_rfl) (fun _ _ _ h => h) (by kernel_rfl) ?_ hw (fun hw2 => ?_)
         rotate_left
         · intro wS hS; clear hS; go_simp <;> with_reducible rfl
         clear hw; have hw := hw2; clear hw2
         try simp only [Act.put, q8a, q8b, q8c]
         refine goes_take (t := [(17, [0, 1, 2, 3, 4, 5, 6, 7, 8, 9, 10, 11, 12, 13, 14, 15, 16])]) (es := [1, 6, 9, 14]) (zs := [17]) 11 (some 148) ?_ (by kernel_rfl) rfl rfl (by kernel_rfl) (fun _ _ _ h => h) (by kernel_rfl) ?_ hw (fun hw2 => ?_)
         rotate_left
         · intro wS hS; clear hS; go_simp <;> with_reducible rfl
         clear hw; have hw := hw2; clear hw2
         try simp only [Act.put, q8a, q8b, q8c]
         refine goes_take (t := [(17, [0, 1, 2, 3, 4, 5, 6, 7, 8, 9, 10, 11, 12, 13, 14, 15, 16])]) (es := [1, 6, 9, 14]) (zs := [17]) 12 (some 149) ?_ (by kernel_rfl) rfl rfl (by kernel_rfl) (fun _ _ _ h => h) (by kernel_rfl) ?_ hw (fun hw2 => ?_)
         rotate_left
         · intro wS hS; clear hS; go_simp <;> with_reducible rfl
         clear hw; have hw := hw2; clear hw2
         try simp only [Act.put, q8a, q8b, q8c]
         refine goes_take (t := [(17, [0, 1, 2, 3, 4, 5, 6, 7, 8, 9, 10, 11, 12, 13, 14, 15, 16])]) (es := [1, 6, 9, 14]) (zs := [17]) 13 (some 150) ?_ (by kernel_rfl) rfl rfl (by kernel_rfl) (fun _ _ _ h => h) (by kernel_rfl) ?_ hw (fun hw2 => ?_)
         rotate_left
         · intro wS hS; clear hS; go_simp <;> with_reducible rfl
         clear hw; have hw := hw2; clear hw2
         try simp only [Act.put, q8a, q8b, q8c]
         refine goes_take (t := [(17, [0, 1, 2, 3, 4, 5, 6, 7, 8, 9, 10, 11, 12, 13, 14, 15, 16])]) (es := [1, 6, 9, 14]) (zs := [17]) 14 (some 151) ?_ (by kernel_rfl) rfl rfl (by kernel_rfl) (fun _ _ _ h => h) (by kernel_rfl) ?_ hw (fun hw2 => ?_)
         rotate_left
         · intro wS hS; have hE := hS.2 rfl; clear hS; (try dsimp only at hE); go_simp <;> with_reducible rfl
         clear hw; have hw := hw2; clear hw2
         try simp only [Act.put, q8a, q8b, q8c]
         refine goes_take (t := [(17, [0, 1, 2, 3, 4, 5, 6, 7, 8, 9, 10, 11, 12, 13, 14, 15, 16])]) (es := [1, 6, 9, 14]) (zs := [17]) 15 (some 152) (.int .i64 ny) (by kernel_rfl) rfl rfl (by kernel_rfl) (fun _ _ _ h => h) (by kernel_rfl) ?_ hw (fun hw2 => ?_)
         · intro wS hS; clear hS; go_simp
           all_goals (rw [HM4.out])
         clear hw; have hw := hw2; clear hw2
         try simp only [Act.put, q8a, q8b, q8c]
         refine goes_call 16 (some 153) 16 [.tmp 144, .tmp 152] #[3, 3] rfl rfl (by kernel_rfl) (by kernel_rfl) rfl (enters_of Tryz.func16 (by kernel_rfl) rfl) (HAT2.out _) (by kernel_rfl) ?_
         rintro e wq2 ⟨rfl, hb⟩
         have hq2 : Below (((wq.setCell ⟨v8.heap.size + 1, 0, none⟩ (.int .i64 mx)).setCell ⟨v8.heap.size + 1, 1, none⟩ (.int .i64 my))).heap.size (((wq.setCell ⟨v8.heap.size + 1, 0, none⟩ (.int .i64 mx)).setCell ⟨v8.heap.size + 1, 1, none⟩ (.int .i64 my))) wq2 := (Below.refl (((wq.setCell ⟨v8.heap.size + 1, 0, none⟩ (.int .i64 mx)).setCell ⟨v8.heap.size + 1, 1, none⟩ (.int .i64 my))).heap.size (((wq.setCell ⟨v8.heap.size + 1, 0, none⟩ (.int .i64 mx)).setCell ⟨v8.heap.size + 1, 1, none⟩ (.int .i64 my)))).drew.trans (hb.mono (Nat.le_refl _)); clear hb
         refine ⟨_, rfl, ⟨trivial, fun _ => ⟨(N2.out.below hq2 N2.out.lt).cell (i := 0) rfl, (N2.out.below hq2 N2.out.lt).cell (i := 1) rfl, (HCE.out _ (NB.out.trans (hq2.mono NB.out.size))).1, (HCE.out _ (NB.out.trans (hq2.mono NB.out.size))).2⟩⟩, fun hw2 => ?_⟩
         clear hw; have hw := hw2; clear hw2
         try simp only [Act.put, q8a, q8b, q8c]
         refine goes_late 17 rfl (by kernel_rfl) (by kernel_rfl) (by kernel_rfl) (fun _ => trivial) (fun K hK => ?_)
         have y0 := (N2.out.below hq2 N2.out.lt).cell (i := 0) (v := .int .i64 hi2.x) rfl; have y1 := (N2.out.below hq2 N2.out.lt).cell (i := 1) (v := .int .i64 hi2.y) rfl; have y2 := (N2.out.below hq2 N2.out.lt).frozen 0; have y3 := (N2.out.below hq2 N2.out.lt).frozen 1
         go_simp
         refine hK.out _ _ ?_
         clear hK K
         try simp only [Act.put]
         refine Goes.done (by kernel_rfl) ?_ _
         clear y0 y1 y2 y3
         have M2 := Lib.hid (((N2.out.below hq2 N2.out.lt).set 0 (.int .i64 nx)).set 1 (.int .i64 ny))
         have M1 := Lib.hid (((N1.out.below hq2 N1.out.lt).far (p := ⟨v8.heap.size + 2, 0, none⟩) (by show v8.heap.size + 1 ≠ v8.heap.size + 2; omega) (.int .i64 nx)).far (p := ⟨v8.heap.size + 2, 1, none⟩) (by show v8.heap.size + 1 ≠ v8.heap.size + 2; omega) (.int .i64 ny))
         have MB := Lib.hid ((((NB.out.trans (hq2.mono NB.out.size)).setCell (p := ⟨v8.heap.size + 2, 0, none⟩) (by have := HWS.out; show (v8.alloc (.cells #[.int .i64 z.x, .int .i64 z.y] 31)).heap.size <= v8.heap.size + 2; omega) (.int .i64 nx))).setCell (p := ⟨v8.heap.size + 2, 1, none⟩) (by have := HWS.out; show (v8.alloc (.cells #[.int .i64 z.x, .int .i64 z.y] 31)).heap.size <= v8.heap.size + 2; omega) (.int .i64 ny))
         clear N1 N2 NB hq2 hw
         go_wp2_with fail
         refine wp_region_grow (S := (fun w' => w'.cell? ⟨b1, o1 + i * 2, none⟩ = some (.int .i64 d.x) /\ w'.cell? ⟨b1, o1 + i * 2 + 1, none⟩ = some (.int .i64 d.y) /\ w'.cell? ⟨v7.heap.size, 0, none⟩ = some (.int .i64 rr.x) /\ w'.cell? ⟨v7.heap.size, 1, none⟩ = some (.int .i64 rr.y) /\ w'.cell? ⟨v7.heap.size, 2, none⟩ = some (.int .i64 rr.w) /\ w'.cell? ⟨v7.heap.size, 3, none⟩ = some (.int .i64 rr.h))) ((fun w' => Below ((wq2.setCell ⟨v8.heap.size + 2, 0, none⟩ (.int .i64 nx)).setCell ⟨v8.heap.size + 2, 1, none⟩ (.int .i64 ny)).heap.size ((wq2.setCell ⟨v8.heap.size + 2, 0, none⟩ (.int .i64 nx)).setCell ⟨v8.heap.size + 2, 1, none⟩ (.int .i64 ny)) w')) (by kernel_rfl) (⟨fun w2 h2 => ⟨(HCE.out _ (MB.out.trans (h2.mono MB.out.size))).1, (HCE.out _ (MB.out.trans (h2.mono MB.out.size))).2, ((R_9.out.below MB.out R_9.out.lt).below h2 (R_9.out.below MB.out R_9.out.lt).lt).cell (i := 0) (v := .int .i64 rr.x) rfl, ((R_9.out.below MB.out R_9.out.lt).below h2 (R_9.out.below MB.out R_9.out.lt).lt).cell (i := 1) (v := .int .i64 rr.y) rfl, ((R_9.out.below MB.out R_9.out.lt).below h2 (R_9.out.below MB.out R_9.out.lt).lt).cell (i := 2) (v := .int .i64 rr.w) rfl, ((R_9.out.below MB.out R_9.out.lt).below h2 (R_9.out.below MB.out R_9.out.lt).lt).cell (i := 3) (v := .int .i64 rr.h) rfl⟩, fun w2 w3 h2 hb2 => h2.trans (hb2.mono h2.size)⟩) ((Below.refl _ _).drew) (fun hCalm => ?_)
         refine grow_take 0 (some 154) ?_ rfl rfl (by kernel_rfl) (fun _ _ _ h => h) (by kernel_rfl) hCalm ?_ ?_
         rotate_left
         · intro wS hS; (try dsimp only at hS); go_simp <;> with_reducible rfl
         try simp only [Act.put, q8a, q8b, q8c]
         refine grow_take 1 (some 155) ?_ rfl rfl (by kernel_rfl) (fun _ _ _ h => h) (by kernel_rfl) hCalm ?_ ?_
         rotate_left
         · intro wS hS; (try dsimp only at hS); go_simp <;> with_reducible rfl
         try simp only [Act.put, q8a, q8b, q8c]
         refine grow_take 2 (some 156) ?_ rfl rfl (by kernel_rfl) (fun _ _ _ h => h) (by kernel_rfl) hCalm ?_ ?_
         rotate_left
         · intro wS hS; (try dsimp only at hS); go_simp <;> with_reducible rfl
         try simp only [Act.put, q8a, q8b, q8c]
         refine grow_take 3 (some 157) ?_ rfl rfl (by kernel_rfl) (fun _ _ _ h => h) (by kernel_rfl) hCalm ?_ ?_
         rotate_left
         · intro wS hS; (try dsimp only at hS); go_simp <;> with_reducible rfl
         try simp only [Act.put, q8a, q8b, q8c]
         refine grow_take 4 (some 158) ?_ rfl rfl (by kernel_rfl) (fun _ _ _ h => h) (by kernel_rfl) hCalm ?_ ?_
         rotate_left
         · intro wS hS; (try dsimp only at hS); go_simp <;> with_reducible rfl
         try simp only [Act.put, q8a, q8b, q8c]
         refine grow_take 5 (some 159) ?_ rfl rfl (by kernel_rfl) (fun _ _ _ h => h) (by kernel_rfl) hCalm ?_ ?_
         rotate_left
         · intro wS hS; (try dsimp only at hS); go_simp <;> with_reducible rfl
         try simp only [Act.put, q8a, q8b, q8c]
         refine grow_take 6 (some 160) ?_ rfl rfl (by kernel_rfl) (fun _ _ _ h => h) (by kernel_rfl) hCalm ?_ ?_
         rotate_left
         · intro wS hS; (try dsimp only at hS); go_simp <;> with_reducible rfl
         try simp only [Act.put, q8a, q8b, q8c]
         refine grow_take 7 (some 161) ?_ rfl rfl (by kernel_rfl) (fun _ _ _ h => h) (by kernel_rfl) hCalm ?_ ?_
         rotate_left
         · intro wS hS; (try dsimp only at hS); go_simp <;> with_reducible rfl
         try simp only [Act.put, q8a, q8b, q8c]
         refine grow_take 8 (some 162) ?_ rfl rfl (by kernel_rfl) (fun _ _ _ h => h) (by kernel_rfl) hCalm ?_ ?_
         rotate_left
         · intro wS hS; (try dsimp only at hS); go_simp <;> with_reducible rfl
         try simp only [Act.put, q8a, q8b, q8c]
         refine grow_take 9 (some 163) ?_ rfl rfl (by kernel_rfl) (fun _ _ _ h => h) (by kernel_rfl) hCalm ?_ ?_
         rotate_left
         · intro wS hS; (try dsimp only at hS); go_simp <;> with_reducible rfl
         try simp only [Act.put, q8a, q8b, q8c]
         refine grow_take 10 (some 164) ?_ rfl rfl (by kernel_rfl) (fun _ _ _ h => h) (by kernel_rfl) hCalm ?_ ?_
         rotate_left
         · intro wS hS; (try dsimp only at hS); go_simp <;> with_reducible rfl
         try simp only [Act.put, q8a, q8b, q8c]
         refine grow_take 11 (some 165) ?_ rfl rfl (by kernel_rfl) (fun _ _ _ h => h) (by kernel_rfl) hCalm ?_ ?_
         rotate_left
         · intro wS hS; (try dsimp only at hS); go_simp <;> with_reducible rfl
         try simp only [Act.put, q8a, q8b, q8c]
         refine grow_call 12 (some 166) (.bool true) 12 [.tmp 164, .tmp 165] #[39, 39] rfl rfl (by kernel_rfl) (fun _ _ _ h => h) (by kernel_rfl) hCalm rfl (enters_of Tryz.func12 (by kernel_rfl) rfl) (fun wz _ => HIN.out wz) (by kernel_rfl) ?_
         try simp only [Act.put, q8a, q8b, q8c]
         refine grow_take 13 (some 167) ?_ rfl rfl (by kernel_rfl) (fun _ _ _ h => h) (by kernel_rfl) hCalm ?_ ?_
         rotate_left
         · intro wS hS; (try dsimp only at hS); go_simp <;> with_reducible rfl
         try simp only [Act.put, q8a, q8b, q8c]
         refine grow_done (by kernel_rfl) (fun wA hA => ?_) _
         have hb := hA; clear hA hCalm
         have K1 := Lib.hid (M1.out.below hb M1.out.lt); have K2 := Lib.hid (M2.out.below hb M2.out.lt); have KB := Lib.hid (MB.out.trans (hb.mono MB.out.size)); clear hb M1 M2 MB
         go_wp2_with fail
         go_roundw
         case rel => exact ⟨i + 1, by go_num, HI.out, by rw [HQ1.out]; exact K1.out, by rw [HQ2.out]; exact K2.out, KB.out⟩
         case measure => have := HI.out; simp [intOf]; omega
end Go.Proofs.YtpjbihfkedbenaaGreat
