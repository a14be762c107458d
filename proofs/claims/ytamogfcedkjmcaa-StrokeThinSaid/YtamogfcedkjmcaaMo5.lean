
/- The contracts of Moved and Turned, and of what they do to a dot. Conditions: the slices read. -/
import Derived.Test.YtamogfcedkjmcaaRd5
import Derived.Test.YtamogfcedkjmcaaSM5
namespace Go.Proofs.Ytamogfcedkjmcaa
open Go.RowKit Go.Lib Go.Shelf

theorem vd_mov_iff {P N : Int} {ds : List Dt} {x y : Int} (hr : (-4095 ≤ x ∧ x ≤ 4095) ∧ (-4095 ≤ y ∧ y ≤ 4095)) : (Vd P N ds ∧ Vd P N (ds.map (mvd x y))) ↔ MovP P N ds x y :=
  ⟨fun h => ⟨h.1, hr, fun d hd => (h.2.mem _ (List.mem_map.2 ⟨d, hd, rfl⟩)).1⟩, fun h => ⟨h.1, vd_moved h⟩⟩
theorem vd_trn_iff {P N : Int} {ds : List Dt} (k : Nat) : (Vd P N ds ∧ Vd P N (ds.map (trn k))) ↔ Vd P N ds := ⟨fun h => h.1, fun h => ⟨h, vd_turned k h⟩⟩
theorem bits_quart (q : Int) : bits .and .i64 q 3 = ((qrt q : Nat) : Int) := by
  show IntKind.i64.wrap ((BitVec.ofInt 64 q &&& BitVec.ofInt 64 (3 : Int)).toNat : Int) = _
  rw [BitVec.toNat_and, BitVec.toNat_ofInt, show (BitVec.ofInt 64 (3 : Int)).toNat = 2 ^ 2 - 1 from rfl, Nat.and_two_pow_sub_one_eq_mod, IntKind.wrap_i64]
  unfold qrt
  omega
set_option maxRecDepth 100000 in
set_option maxHeartbeats 8000000 in
theorem pmoved1_any (d : Dt) (x y : Int) (bx by_ : Nat) (w : World) (hd : d.ok) (hr : (-4095 ≤ x ∧ x ≤ 4095) ∧ (-4095 ≤ y ∧ y ≤ 4095)) (hbx : bx < w.heap.size) (hby : by_ < w.heap.size)
    (hx : w.cell? ⟨bx, 0, none⟩ = some (.int .i64 x)) (hy : w.cell? ⟨by_, 0, none⟩ = some (.int .i64 y)) :
    Calls Try.prog 57 #[.agg #[.int .i64 d.x, .int .i64 d.y, .int .i64 d.t, .int .i64 d.p], .pointer (some ⟨bx, 0, none⟩), .pointer (some ⟨by_, 0, none⟩)] w fun e w' => e = .returned (.agg #[.int .i64 (mvd x y d).x, .int .i64 (mvd x y d).y, .int .i64 (mvd x y d).t, .int .i64 (mvd x y d).p]) ∧ Below w.heap.size w w' := by
  unfold Dt.ok at hd
  have e1 : IntKind.i64.wrap (d.x + x) = d.x + x := IntWalk.i64_in _ (by omega)
  have e2 : IntKind.i64.wrap (d.y + y) = d.y + y := IntWalk.i64_in _ (by omega)
  clear hd hr
  have D_0 : Hid (Blk ((w.alloc (.cells #[.int .i64 d.x, .int .i64 d.y, .int .i64 d.t, .int .i64 d.p] 24)).alloc (.cells #[.int .i64 0, .int .i64 0, .int .i64 0, .int .i64 0] 24)) w.heap.size 24 #[.int .i64 d.x, .int .i64 d.y, .int .i64 d.t, .int .i64 d.p]) := allocs_blk [(#[.int .i64 d.x, .int .i64 d.y, .int .i64 d.t, .int .i64 d.p], 24), (#[.int .i64 0, .int .i64 0, .int .i64 0, .int .i64 0], 24)] w 0 _ rfl
  have R_0 : Hid (Blk ((w.alloc (.cells #[.int .i64 d.x, .int .i64 d.y, .int .i64 d.t, .int .i64 d.p] 24)).alloc (.cells #[.int .i64 0, .int .i64 0, .int .i64 0, .int .i64 0] 24)) (w.heap.size + 1) 24 #[.int .i64 0, .int .i64 0, .int .i64 0, .int .i64 0]) := allocs_blk [(#[.int .i64 d.x, .int .i64 d.y, .int .i64 d.t, .int .i64 d.p], 24), (#[.int .i64 0, .int .i64 0, .int .i64 0, .int .i64 0], 24)] w 1 _ rfl
  have HB_0 : Hid (Below w.heap.size w ((w.alloc (.cells #[.int .i64 d.x, .int .i64 d.y, .int .i64 d.t, .int .i64 d.p] 24)).alloc (.cells #[.int .i64 0, .int .i64 0, .int .i64 0, .int .i64 0] 24))) := allocs_below [(#[.int .i64 d.x, .int .i64 d.y, .int .i64 d.t, .int .i64 d.p], 24), (#[.int .i64 0, .int .i64 0, .int .i64 0, .int .i64 0], 24)] w (Below.refl w.heap.size w) (Nat.le_refl _)
  have hx1 : ((w.alloc (.cells #[.int .i64 d.x, .int .i64 d.y, .int .i64 d.t, .int .i64 d.p] 24)).alloc (.cells #[.int .i64 0, .int .i64 0, .int .i64 0, .int .i64 0] 24)).cell? ⟨bx, 0, none⟩ = some (.int .i64 x) := (HB_0.out.cell (p := ⟨bx, 0, none⟩) hbx).trans hx
  have yy0 := D_0.out.cell (i := 0) (v := .int .i64 d.x) rfl; have yy1 := D_0.out.cell (i := 1) (v := .int .i64 d.y) rfl; have yy2 := D_0.out.cell (i := 2) (v := .int .i64 d.t) rfl; have yy3 := D_0.out.cell (i := 3) (v := .int .i64 d.p) rfl
  have yy4 := R_0.out.cell (i := 0) (v := .int .i64 0) rfl; have yy5 := R_0.out.cell (i := 1) (v := .int .i64 0) rfl; have yy6 := R_0.out.cell (i := 2) (v := .int .i64 0) rfl; have yy7 := R_0.out.cell (i := 3) (v := .int .i64 0) rfl
  have f0 := D_0.out.frozen 0
  go_enter Try.func57, Try.ntmps57
  go_upto_region 2 with fail
  clear yy0 yy1 yy2 yy3 yy4 yy5 yy6 yy7
  clear hx1 f0
  have hw1 : Hid (Below w.heap.size w ((w.alloc (.cells #[.int .i64 (d.x + x), .int .i64 d.y, .int .i64 d.t, .int .i64 d.p] 24)).alloc (.cells #[.int .i64 0, .int .i64 0, .int .i64 0, .int .i64 0] 24))) := Lib.hid (allocs_below [(#[.int .i64 (d.x + x), .int .i64 d.y, .int .i64 d.t, .int .i64 d.p], 24), (#[.int .i64 0, .int .i64 0, .int .i64 0, .int .i64 0], 24)] w (Below.refl _ _) (Nat.le_refl _))
  have D_1 : Hid (Blk ((w.alloc (.cells #[.int .i64 (d.x + x), .int .i64 d.y, .int .i64 d.t, .int .i64 d.p] 24)).alloc (.cells #[.int .i64 0, .int .i64 0, .int .i64 0, .int .i64 0] 24)) w.heap.size 24 #[.int .i64 (d.x + x), .int .i64 d.y, .int .i64 d.t, .int .i64 d.p]) := Lib.hid (allocs_blk [(#[.int .i64 (d.x + x), .int .i64 d.y, .int .i64 d.t, .int .i64 d.p], 24), (#[.int .i64 0, .int .i64 0, .int .i64 0, .int .i64 0], 24)] w 0 _ rfl); have R_1 : Hid (Blk ((w.alloc (.cells #[.int .i64 (d.x + x), .int .i64 d.y, .int .i64 d.t, .int .i64 d.p] 24)).alloc (.cells #[.int .i64 0, .int .i64 0, .int .i64 0, .int .i64 0] 24)) (w.heap.size + 1) 24 #[.int .i64 0, .int .i64 0, .int .i64 0, .int .i64 0]) := Lib.hid (allocs_blk [(#[.int .i64 (d.x + x), .int .i64 d.y, .int .i64 d.t, .int .i64 d.p], 24), (#[.int .i64 0, .int .i64 0, .int .i64 0, .int .i64 0], 24)] w 1 _ rfl)
  have hy1 : ((w.alloc (.cells #[.int .i64 (d.x + x), .int .i64 d.y, .int .i64 d.t, .int .i64 d.p] 24)).alloc (.cells #[.int .i64 0, .int .i64 0, .int .i64 0, .int .i64 0] 24)).cell? ⟨by_, 0, none⟩ = some (.int .i64 y) := (hw1.out.cell (p := ⟨by_, 0, none⟩) hby).trans hy
  have d1 := D_1.out.cell (i := 1) (v := .int .i64 d.y) rfl; have f1 := D_1.out.frozen 1
  go_upto_region 3 with fail
  clear hy1 d1 f1
  have hw2 : Hid (Below w.heap.size w ((w.alloc (.cells #[.int .i64 (d.x + x), .int .i64 (d.y + y), .int .i64 d.t, .int .i64 d.p] 24)).alloc (.cells #[.int .i64 0, .int .i64 0, .int .i64 0, .int .i64 0] 24))) := Lib.hid (allocs_below [(#[.int .i64 (d.x + x), .int .i64 (d.y + y), .int .i64 d.t, .int .i64 d.p], 24), (#[.int .i64 0, .int .i64 0, .int .i64 0, .int .i64 0], 24)] w (Below.refl _ _) (Nat.le_refl _))
  have D_2 : Hid (Blk ((w.alloc (.cells #[.int .i64 (d.x + x), .int .i64 (d.y + y), .int .i64 d.t, .int .i64 d.p] 24)).alloc (.cells #[.int .i64 0, .int .i64 0, .int .i64 0, .int .i64 0] 24)) w.heap.size 24 #[.int .i64 (d.x + x), .int .i64 (d.y + y), .int .i64 d.t, .int .i64 d.p]) := Lib.hid (allocs_blk [(#[.int .i64 (d.x + x), .int .i64 (d.y + y), .int .i64 d.t, .int .i64 d.p], 24), (#[.int .i64 0, .int .i64 0, .int .i64 0, .int .i64 0], 24)] w 0 _ rfl); have R_2 : Hid (Blk ((w.alloc (.cells #[.int .i64 (d.x + x), .int .i64 (d.y + y), .int .i64 d.t, .int .i64 d.p] 24)).alloc (.cells #[.int .i64 0, .int .i64 0, .int .i64 0, .int .i64 0] 24)) (w.heap.size + 1) 24 #[.int .i64 0, .int .i64 0, .int .i64 0, .int .i64 0]) := Lib.hid (allocs_blk [(#[.int .i64 (d.x + x), .int .i64 (d.y + y), .int .i64 d.t, .int .i64 d.p], 24), (#[.int .i64 0, .int .i64 0, .int .i64 0, .int .i64 0], 24)] w 1 _ rfl)
  have a0 := D_2.out.cell (i := 0) (v := .int .i64 (d.x + x)) rfl; have r0 := R_2.out.cell (i := 0) (v := .int .i64 0) rfl; have f0 := R_2.out.frozen 0
  have a1 := D_2.out.cell (i := 1) (v := .int .i64 (d.y + y)) rfl; have r1 := R_2.out.cell (i := 1) (v := .int .i64 0) rfl; have f1 := R_2.out.frozen 1
  have a2 := D_2.out.cell (i := 2) (v := .int .i64 d.t) rfl; have r2 := R_2.out.cell (i := 2) (v := .int .i64 0) rfl; have f2 := R_2.out.frozen 2
  have a3 := D_2.out.cell (i := 3) (v := .int .i64 d.p) rfl; have r3 := R_2.out.cell (i := 3) (v := .int .i64 0) rfl; have f3 := R_2.out.frozen 3
  go_wp2_with fail
  refine bodyPost_ret (v := .agg #[.int .i64 (d.x + x), .int .i64 (d.y + y), .int .i64 d.t, .int .i64 d.p]) (by simp [results, Try.results57, go_sem]) rfl ⟨rfl, ?_⟩
  exact allocs_below [(#[.int .i64 (d.x + x), .int .i64 (d.y + y), .int .i64 d.t, .int .i64 d.p], 24), (#[.int .i64 (d.x + x), .int .i64 (d.y + y), .int .i64 d.t, .int .i64 d.p], 24)] w (Below.refl _ _) (Nat.le_refl _)
set_option maxRecDepth 100000 in
set_option maxHeartbeats 8000000 in
theorem pturned1_any (d : Dt) (k : Nat) (bl : Nat) (w : World) (hd : d.ok) (hk : k < 4) (hbl : bl < w.heap.size) (hx : w.cell? ⟨bl, 0, none⟩ = some (.int .i64 (k : Nat))) :
    Calls Try.prog 58 #[.agg #[.int .i64 d.x, .int .i64 d.y, .int .i64 d.t, .int .i64 d.p], .pointer (some ⟨bl, 0, none⟩)] w fun e w' => e = .returned (.agg #[.int .i64 (trn k d).x, .int .i64 (trn k d).y, .int .i64 (trn k d).t, .int .i64 (trn k d).p]) ∧ Below w.heap.size w w' := by
  have HOK := Lib.hid (fun j => trn_ok (k := j) hd)
  have HK := Lib.hid hk
  have D_0 : Hid (Blk ((w.alloc (.cells #[.int .i64 d.x, .int .i64 d.y, .int .i64 d.t, .int .i64 d.p] 24)).alloc (.cells #[.int .i64 0, .int .i64 0, .int .i64 0, .int .i64 0] 24)) w.heap.size 24 #[.int .i64 d.x, .int .i64 d.y, .int .i64 d.t, .int .i64 d.p]) := allocs_blk [(#[.int .i64 d.x, .int .i64 d.y, .int .i64 d.t, .int .i64 d.p], 24), (#[.int .i64 0, .int .i64 0, .int .i64 0, .int .i64 0], 24)] w 0 _ rfl
  have R_0 : Hid (Blk ((w.alloc (.cells #[.int .i64 d.x, .int .i64 d.y, .int .i64 d.t, .int .i64 d.p] 24)).alloc (.cells #[.int .i64 0, .int .i64 0, .int .i64 0, .int .i64 0] 24)) (w.heap.size + 1) 24 #[.int .i64 0, .int .i64 0, .int .i64 0, .int .i64 0]) := allocs_blk [(#[.int .i64 d.x, .int .i64 d.y, .int .i64 d.t, .int .i64 d.p], 24), (#[.int .i64 0, .int .i64 0, .int .i64 0, .int .i64 0], 24)] w 1 _ rfl
  have HB_0 : Hid (Below w.heap.size w ((w.alloc (.cells #[.int .i64 d.x, .int .i64 d.y, .int .i64 d.t, .int .i64 d.p] 24)).alloc (.cells #[.int .i64 0, .int .i64 0, .int .i64 0, .int .i64 0] 24))) := allocs_below [(#[.int .i64 d.x, .int .i64 d.y, .int .i64 d.t, .int .i64 d.p], 24), (#[.int .i64 0, .int .i64 0, .int .i64 0, .int .i64 0], 24)] w (Below.refl w.heap.size w) (Nat.le_refl _)
  have hx1 : ((w.alloc (.cells #[.int .i64 d.x, .int .i64 d.y, .int .i64 d.t, .int .i64 d.p] 24)).alloc (.cells #[.int .i64 0, .int .i64 0, .int .i64 0, .int .i64 0] 24)).cell? ⟨bl, 0, none⟩ = some (.int .i64 (k : Nat)) := (HB_0.out.cell (p := ⟨bl, 0, none⟩) hbl).trans hx
  clear hd hk hx
  go_enter Try.func58, Try.ntmps58
  go_wp2_with fail
  clear hx1
  go_loopw [5] (fun ii wr => ∃ j : Nat, ii = .int .i64 j ∧ j ≤ k ∧ Blk wr w.heap.size 24 #[.int .i64 (trn j d).x, .int .i64 (trn j d).y, .int .i64 (trn j d).t, .int .i64 (trn j d).p] ∧ Blk wr (w.heap.size + 1) 24 #[.int .i64 0, .int .i64 0, .int .i64 0, .int .i64 0] ∧ Below w.heap.size w wr) (fun ii _ => k - (intOf ii).toNat)
  case atStart => exact ⟨0, rfl, Nat.zero_le _, by have h := D_0.out; rw [trn_zero]; exact h, R_0.out, HB_0.out⟩
  case round =>
    clear D_0 R_0 HB_0
    obtain ⟨j, rfl, hj, hD, hR, hB⟩ := hrel
    have HD := Lib.hid hD; have HR := Lib.hid hR; have HB := Lib.hid hB; clear hD hR hB
    by_cases hlt : j < k
    case neg =>
      obtain rfl : j = k := by omega
      have hni : ¬ ((j : Int) < (j : Int)) := by omega
      clear hlt hj
      have a0 := HD.out.cell (i := 0) (v := .int .i64 (trn j d).x) rfl; have r0 := HR.out.cell (i := 0) (v := .int .i64 0) rfl; have f0 := HR.out.frozen 0
      have a1 := HD.out.cell (i := 1) (v := .int .i64 (trn j d).y) rfl; have r1 := HR.out.cell (i := 1) (v := .int .i64 0) rfl; have f1 := HR.out.frozen 1
      have a2 := HD.out.cell (i := 2) (v := .int .i64 (trn j d).t) rfl; have r2 := HR.out.cell (i := 2) (v := .int .i64 0) rfl; have f2 := HR.out.frozen 2
      have a3 := HD.out.cell (i := 3) (v := .int .i64 (trn j d).p) rfl; have r3 := HR.out.cell (i := 3) (v := .int .i64 0) rfl; have f3 := HR.out.frozen 3
      go_wp2_with fail
      clear a0 r0 f0 a1 r1 f1 a2 r2 f2 a3 r3 f3
      have HFR := Lib.hid ((((HR.out.set 0 (.int .i64 (trn j d).x)).set 1 (.int .i64 (trn j d).y)).set 2 (.int .i64 (trn j d).t)).set 3 (.int .i64 (trn j d).p))
      have rR0 := HFR.out.cell (i := 0) (v := .int .i64 (trn j d).x) rfl
      have rR1 := HFR.out.cell (i := 1) (v := .int .i64 (trn j d).y) rfl
      have rR2 := HFR.out.cell (i := 2) (v := .int .i64 (trn j d).t) rfl
      have rR3 := HFR.out.cell (i := 3) (v := .int .i64 (trn j d).p) rfl
      exact bodyPost_ret (v := .agg #[.int .i64 (trn j d).x, .int .i64 (trn j d).y, .int .i64 (trn j d).t, .int .i64 (trn j d).p]) (by simp [results, Try.results58, go_sem, rR0, rR1, rR2, rR3]) rfl ⟨rfl, ((((HB.out.setCell (p := ⟨(w.heap.size + 1), 0, none⟩) (by show w.heap.size ≤ (w.heap.size + 1); omega) (.int .i64 (trn j d).x)).setCell (p := ⟨(w.heap.size + 1), 1, none⟩) (by show w.heap.size ≤ (w.heap.size + 1); omega) (.int .i64 (trn j d).y)).setCell (p := ⟨(w.heap.size + 1), 2, none⟩) (by show w.heap.size ≤ (w.heap.size + 1); omega) (.int .i64 (trn j d).t)).setCell (p := ⟨(w.heap.size + 1), 3, none⟩) (by show w.heap.size ≤ (w.heap.size + 1); omega) (.int .i64 (trn j d).p))⟩
    case pos =>
      have hok := HOK.out j
      have hsucc : trn (j + 1) d = ⟨4095 - (trn j d).y, (trn j d).x, (trn j d).t, (trn j d).p⟩ := by
        have h := trn_succ j d (by have := HK.out; omega)
        rw [show (j + 1) % 4 = j + 1 from by have := HK.out; omega, trn_one] at h
        exact h.symm
      obtain ⟨r, hr⟩ : ∃ r, r = trn j d := ⟨_, rfl⟩
      rw [← hr] at HD hok hsucc
      have HSC := Lib.hid hsucc
      unfold Dt.ok at hok
      have e1 : IntKind.i64.wrap (4095 - r.y) = 4095 - r.y := IntWalk.i64_in _ (by omega)
      have q5 : (j : Int) + 1 ≤ 9223372036854775807 := by have := HK.out; omega
      have hlti : (j : Int) < (k : Int) := by omega
      have HLT := Lib.hid hlt
      clear hr hok hsucc hlt hj
      have a0 := HD.out.cell (i := 0) (v := .int .i64 r.x) rfl; have a1 := HD.out.cell (i := 1) (v := .int .i64 r.y) rfl; have f0 := HD.out.frozen 0; have f1 := HD.out.frozen 1
      go_wp2_with fail
      clear a0 a1 f0 f1
      go_roundw
      case rel => exact ⟨j + 1, by go_num, HLT.out, by rw [HSC.out]; exact (HD.out.set 0 (.int .i64 (4095 - r.y))).set 1 (.int .i64 r.x), (HR.out.far (p := ⟨w.heap.size, 0, none⟩) (by show w.heap.size + 1 ≠ w.heap.size; omega) _).far (p := ⟨w.heap.size, 1, none⟩) (by show w.heap.size + 1 ≠ w.heap.size; omega) _, (HB.out.setCell (p := ⟨w.heap.size, 0, none⟩) (Nat.le_refl _) _).setCell (p := ⟨w.heap.size, 1, none⟩) (Nat.le_refl _) _⟩
      case measure => have := HLT.out; simp [intOf]; omega
theorem predrawnD_any (P N : Int) (ds : List Dt) (A : Option Addr) (c : Nat) (L : List Dt) (A2 : Option Addr) (c2 : Nat) (F : FuncId) (cs : List Value) (f : Dt → Dt) (w : World) (hA : Dz w A ds) (hz : ds.length ≤ 9000000000000000000) (hL : Dz w A2 L) (hn : Vd P N ds → L.length ≤ 200)
    (hcf : ∀ args w, (callFunc F args).run Try.prog w = .ok (.enter F args) w)
    (hF : Vd P N ds → ∀ W, Below w.heap.size w W → ∀ d ∈ L, Calls Try.prog F (.agg #[.int .i64 d.x, .int .i64 d.y, .int .i64 d.t, .int .i64 d.p] :: cs).toArray W fun e W' => e = .returned (.agg #[.int .i64 (f d).x, .int .i64 (f d).y, .int .i64 (f d).t, .int .i64 (f d).p]) ∧ Below W.heap.size W W') :
    Calls Try.prog 56 #[.agg #[.int .i64 P, .int .i64 N, .slice A ds.length c], .slice A2 L.length c2, .func (.func F) #[] cs.toArray] w (OutT (Vd P N ds ∧ Vd P N (L.map f)) P N (L.map f) w) := by
  by_cases hv : Vd P N ds
  · exact predrawnD_go P N ds A c L A2 c2 F cs f w hA hz hL hv (hn hv) hcf (hF hv)
  · exact predrawnD_no P N ds A c L A2 c2 F cs f w hA hz hL hv
theorem predrawnI_any (P N : Int) (ds : List Dt) (A : Option Addr) (c : Nat) (L : List Int) (A2 : Option Addr) (c2 : Nat) (F : FuncId) (cs : List Value) (f : Int → Dt) (w : World) (hA : Dz w A ds) (hz : ds.length ≤ 9000000000000000000) (hL : Iz w A2 L) (hn : Vd P N ds → L.length ≤ 200)
    (hcf : ∀ args w, (callFunc F args).run Try.prog w = .ok (.enter F args) w)
    (hF : Vd P N ds → ∀ W, Below w.heap.size w W → ∀ d ∈ L, Calls Try.prog F (.int .i64 d :: cs).toArray W fun e W' => e = .returned (.agg #[.int .i64 (f d).x, .int .i64 (f d).y, .int .i64 (f d).t, .int .i64 (f d).p]) ∧ Below W.heap.size W W') :
    Calls Try.prog 50 #[.agg #[.int .i64 P, .int .i64 N, .slice A ds.length c], .slice A2 L.length c2, .func (.func F) #[] cs.toArray] w (OutT (Vd P N ds ∧ Vd P N (L.map f)) P N (L.map f) w) := by
  by_cases hv : Vd P N ds
  · exact predrawnI_go P N ds A c L A2 c2 F cs f w hA hz hL hv (hn hv) hcf (hF hv)
  · exact predrawnI_no P N ds A c L A2 c2 F cs f w hA hz hL hv
set_option maxRecDepth 100000 in
set_option maxHeartbeats 8000000 in
theorem pmoved_any (P N : Int) (ds : List Dt) (A : Option Addr) (c : Nat) (x y : Int) (w : World) (hA : Dz w A ds) (hz : ds.length ≤ 9000000000000000000) :
    Calls Try.prog 33 #[.agg #[.int .i64 P, .int .i64 N, .slice A ds.length c], .int .i64 x, .int .i64 y] w (OutT (MovP P N ds x y) P N (ds.map (mvd x y)) w) := by
  obtain ⟨es, hes⟩ : ∃ es, es = ds.map (mvd x y) := ⟨_, rfl⟩
  by_cases hx : -4095 ≤ x ∧ x ≤ 4095
  case neg =>
    have HNO : Hid (¬ MovP P N ds x y) := Lib.hid (fun h => hx h.2.1.1); have HC := Lib.hid (fun W => pfrom_not x (-4095) 4095 W hx); clear hx hA hz hes
    have S_0 : Hid (Blk ((((w.alloc (.cells #[.int .i64 P, .int .i64 N, .slice A ds.length c] 27)).alloc (.cells #[.int .i64 x] 3)).alloc (.cells #[.int .i64 y] 3)).alloc (.cells #[.int .i64 0, .int .i64 0, .slice none 0 0] 27)) w.heap.size 27 #[.int .i64 P, .int .i64 N, .slice A ds.length c]) := allocs_blk [(#[.int .i64 P, .int .i64 N, .slice A ds.length c], 27), (#[.int .i64 x], 3), (#[.int .i64 y], 3), (#[.int .i64 0, .int .i64 0, .slice none 0 0], 27)] w 0 _ rfl
    have X_0 : Hid (Blk ((((w.alloc (.cells #[.int .i64 P, .int .i64 N, .slice A ds.length c] 27)).alloc (.cells #[.int .i64 x] 3)).alloc (.cells #[.int .i64 y] 3)).alloc (.cells #[.int .i64 0, .int .i64 0, .slice none 0 0] 27)) (w.heap.size + 1) 3 #[.int .i64 x]) := allocs_blk [(#[.int .i64 P, .int .i64 N, .slice A ds.length c], 27), (#[.int .i64 x], 3), (#[.int .i64 y], 3), (#[.int .i64 0, .int .i64 0, .slice none 0 0], 27)] w 1 _ rfl
    have Y_0 : Hid (Blk ((((w.alloc (.cells #[.int .i64 P, .int .i64 N, .slice A ds.length c] 27)).alloc (.cells #[.int .i64 x] 3)).alloc (.cells #[.int .i64 y] 3)).alloc (.cells #[.int .i64 0, .int .i64 0, .slice none 0 0] 27)) (w.heap.size + 2) 3 #[.int .i64 y]) := allocs_blk [(#[.int .i64 P, .int .i64 N, .slice A ds.length c], 27), (#[.int .i64 x], 3), (#[.int .i64 y], 3), (#[.int .i64 0, .int .i64 0, .slice none 0 0], 27)] w 2 _ rfl
    have U_0 : Hid (Blk ((((w.alloc (.cells #[.int .i64 P, .int .i64 N, .slice A ds.length c] 27)).alloc (.cells #[.int .i64 x] 3)).alloc (.cells #[.int .i64 y] 3)).alloc (.cells #[.int .i64 0, .int .i64 0, .slice none 0 0] 27)) (w.heap.size + 3) 27 #[.int .i64 0, .int .i64 0, .slice none 0 0]) := allocs_blk [(#[.int .i64 P, .int .i64 N, .slice A ds.length c], 27), (#[.int .i64 x], 3), (#[.int .i64 y], 3), (#[.int .i64 0, .int .i64 0, .slice none 0 0], 27)] w 3 _ rfl
    have HB_0 : Hid (Below w.heap.size w ((((w.alloc (.cells #[.int .i64 P, .int .i64 N, .slice A ds.length c] 27)).alloc (.cells #[.int .i64 x] 3)).alloc (.cells #[.int .i64 y] 3)).alloc (.cells #[.int .i64 0, .int .i64 0, .slice none 0 0] 27))) := allocs_below [(#[.int .i64 P, .int .i64 N, .slice A ds.length c], 27), (#[.int .i64 x], 3), (#[.int .i64 y], 3), (#[.int .i64 0, .int .i64 0, .slice none 0 0], 27)] w (Below.refl w.heap.size w) (Nat.le_refl _)
    go_enter Try.func33, Try.ntmps33
    have yy0 := X_0.out.cell (i := 0) (v := .int .i64 x) rfl
    go_wp2_with fail
    refine (HC.out _).mono ?_
    rintro e v0 ⟨rfl, hb⟩
    clear yy0
    have S_1 : Hid (Blk v0 w.heap.size 27 #[.int .i64 P, .int .i64 N, .slice A ds.length c]) := Lib.hid (S_0.out.below hb S_0.out.lt)
    have X_1 : Hid (Blk v0 (w.heap.size + 1) 3 #[.int .i64 x]) := Lib.hid (X_0.out.below hb X_0.out.lt)
    have Y_1 : Hid (Blk v0 (w.heap.size + 2) 3 #[.int .i64 y]) := Lib.hid (Y_0.out.below hb Y_0.out.lt)
    have U_1 : Hid (Blk v0 (w.heap.size + 3) 27 #[.int .i64 0, .int .i64 0, .slice none 0 0]) := Lib.hid (U_0.out.below hb U_0.out.lt)
    have HB_1 : Hid (Below w.heap.size w v0) := Lib.hid (HB_0.out.trans (hb.mono HB_0.out.size))
    clear hb S_0 X_0 Y_0 U_0 HB_0
    have hundef := un_none
    have yy0 := U_1.out.cell (i := 0) (v := .int .i64 0) rfl; have yy1 := U_1.out.cell (i := 1) (v := .int .i64 0) rfl; have yy2 := U_1.out.cell (i := 2) (v := .slice none 0 0) rfl
    have f0 := U_1.out.frozen 0; have f1 := U_1.out.frozen 1; have f2 := U_1.out.frozen 2
    go_wp2_with fail
    clear yy0 yy1 yy2
    have HFU := Lib.hid (((U_1.out.set 0 (.int .i64 0)).set 1 (.int .i64 0)).set 2 (.slice none 0 0))
    have rU0 := HFU.out.cell (i := 0) (v := .int .i64 0) rfl
    have rU1 := HFU.out.cell (i := 1) (v := .int .i64 0) rfl
    have rU2 := HFU.out.cell (i := 2) (v := .slice none 0 0) rfl
    exact bodyPost_ret (v := .tuple #[.agg #[.int .i64 0, .int .i64 0, .slice none 0 0], .int .i64 50]) (by simp [results, Try.results33, go_sem, rU0, rU1, rU2]) rfl ⟨.inr ⟨HNO.out, rfl⟩, (((HB_1.out.setCell (p := ⟨(w.heap.size + 3), 0, none⟩) (by show w.heap.size ≤ (w.heap.size + 3); omega) (.int .i64 0)).setCell (p := ⟨(w.heap.size + 3), 1, none⟩) (by show w.heap.size ≤ (w.heap.size + 3); omega) (.int .i64 0)).setCell (p := ⟨(w.heap.size + 3), 2, none⟩) (by show w.heap.size ≤ (w.heap.size + 3); omega) (.slice none 0 0))⟩
  case pos =>
    have HCX := Lib.hid (fun W => pfrom_yes x (-4095) 4095 W hx)
    by_cases hy : -4095 ≤ y ∧ y ≤ 4095
    case neg =>
      have HNO : Hid (¬ MovP P N ds x y) := Lib.hid (fun h => hy h.2.1.2); have HC := Lib.hid (fun W => pfrom_not y (-4095) 4095 W hy); clear hx hy hA hz hes
      have S_0 : Hid (Blk ((((w.alloc (.cells #[.int .i64 P, .int .i64 N, .slice A ds.length c] 27)).alloc (.cells #[.int .i64 x] 3)).alloc (.cells #[.int .i64 y] 3)).alloc (.cells #[.int .i64 0, .int .i64 0, .slice none 0 0] 27)) w.heap.size 27 #[.int .i64 P, .int .i64 N, .slice A ds.length c]) := allocs_blk [(#[.int .i64 P, .int .i64 N, .slice A ds.length c], 27), (#[.int .i64 x], 3), (#[.int .i64 y], 3), (#[.int .i64 0, .int .i64 0, .slice none 0 0], 27)] w 0 _ rfl
      have X_0 : Hid (Blk ((((w.alloc (.cells #[.int .i64 P, .int .i64 N, .slice A ds.length c] 27)).alloc (.cells #[.int .i64 x] 3)).alloc (.cells #[.int .i64 y] 3)).alloc (.cells #[.int .i64 0, .int .i64 0, .slice none 0 0] 27)) (w.heap.size + 1) 3 #[.int .i64 x]) := allocs_blk [(#[.int .i64 P, .int .i64 N, .slice A ds.length c], 27), (#[.int .i64 x], 3), (#[.int .i64 y], 3), (#[.int .i64 0, .int .i64 0, .slice none 0 0], 27)] w 1 _ rfl
      have Y_0 : Hid (Blk ((((w.alloc (.cells #[.int .i64 P, .int .i64 N, .slice A ds.length c] 27)).alloc (.cells #[.int .i64 x] 3)).alloc (.cells #[.int .i64 y] 3)).alloc (.cells #[.int .i64 0, .int .i64 0, .slice none 0 0] 27)) (w.heap.size + 2) 3 #[.int .i64 y]) := allocs_blk [(#[.int .i64 P, .int .i64 N, .slice A ds.length c], 27), (#[.int .i64 x], 3), (#[.int .i64 y], 3), (#[.int .i64 0, .int .i64 0, .slice none 0 0], 27)] w 2 _ rfl
      have U_0 : Hid (Blk ((((w.alloc (.cells #[.int .i64 P, .int .i64 N, .slice A ds.length c] 27)).alloc (.cells #[.int .i64 x] 3)).alloc (.cells #[.int .i64 y] 3)).alloc (.cells #[.int .i64 0, .int .i64 0, .slice none 0 0] 27)) (w.heap.size + 3) 27 #[.int .i64 0, .int .i64 0, .slice none 0 0]) := allocs_blk [(#[.int .i64 P, .int .i64 N, .slice A ds.length c], 27), (#[.int .i64 x], 3), (#[.int .i64 y], 3), (#[.int .i64 0, .int .i64 0, .slice none 0 0], 27)] w 3 _ rfl
      have HB_0 : Hid (Below w.heap.size w ((((w.alloc (.cells #[.int .i64 P, .int .i64 N, .slice A ds.length c] 27)).alloc (.cells #[.int .i64 x] 3)).alloc (.cells #[.int .i64 y] 3)).alloc (.cells #[.int .i64 0, .int .i64 0, .slice none 0 0] 27))) := allocs_below [(#[.int .i64 P, .int .i64 N, .slice A ds.length c], 27), (#[.int .i64 x], 3), (#[.int .i64 y], 3), (#[.int .i64 0, .int .i64 0, .slice none 0 0], 27)] w (Below.refl w.heap.size w) (Nat.le_refl _)
      go_enter Try.func33, Try.ntmps33
      have yy0 := X_0.out.cell (i := 0) (v := .int .i64 x) rfl
      go_wp2_with fail
      refine (HCX.out _).mono ?_
      rintro e v0 ⟨rfl, hb⟩
      clear yy0
      have S_1 : Hid (Blk v0 w.heap.size 27 #[.int .i64 P, .int .i64 N, .slice A ds.length c]) := Lib.hid (S_0.out.below hb S_0.out.lt)
      have X_1 : Hid (Blk v0 (w.heap.size + 1) 3 #[.int .i64 x]) := Lib.hid (X_0.out.below hb X_0.out.lt)
      have Y_1 : Hid (Blk v0 (w.heap.size + 2) 3 #[.int .i64 y]) := Lib.hid (Y_0.out.below hb Y_0.out.lt)
      have U_1 : Hid (Blk v0 (w.heap.size + 3) 27 #[.int .i64 0, .int .i64 0, .slice none 0 0]) := Lib.hid (U_0.out.below hb U_0.out.lt)
      have HB_1 : Hid (Below w.heap.size w v0) := Lib.hid (HB_0.out.trans (hb.mono HB_0.out.size))
      clear hb S_0 X_0 Y_0 U_0 HB_0
      have yy0 := Y_1.out.cell (i := 0) (v := .int .i64 y) rfl
      go_wp2_with fail
      refine (HC.out _).mono ?_
      rintro e v1 ⟨rfl, hb⟩
      clear yy0
      have S_2 : Hid (Blk v1 w.heap.size 27 #[.int .i64 P, .int .i64 N, .slice A ds.length c]) := Lib.hid (S_1.out.below hb S_1.out.lt)
      have X_2 : Hid (Blk v1 (w.heap.size + 1) 3 #[.int .i64 x]) := Lib.hid (X_1.out.below hb X_1.out.lt)
      have Y_2 : Hid (Blk v1 (w.heap.size + 2) 3 #[.int .i64 y]) := Lib.hid (Y_1.out.below hb Y_1.out.lt)
      have U_2 : Hid (Blk v1 (w.heap.size + 3) 27 #[.int .i64 0, .int .i64 0, .slice none 0 0]) := Lib.hid (U_1.out.below hb U_1.out.lt)
      have HB_2 : Hid (Below w.heap.size w v1) := Lib.hid (HB_1.out.trans (hb.mono HB_1.out.size))
      clear hb S_1 X_1 Y_1 U_1 HB_1
      have yy0 := U_2.out.cell (i := 0) (v := .int .i64 0) rfl; have yy1 := U_2.out.cell (i := 1) (v := .int .i64 0) rfl; have yy2 := U_2.out.cell (i := 2) (v := .slice none 0 0) rfl
      have f0 := U_2.out.frozen 0; have f1 := U_2.out.frozen 1; have f2 := U_2.out.frozen 2
      go_wp2_with fail
      clear yy0 yy1 yy2
      have HFU := Lib.hid (((U_2.out.set 0 (.int .i64 0)).set 1 (.int .i64 0)).set 2 (.slice none 0 0))
      have rU0 := HFU.out.cell (i := 0) (v := .int .i64 0) rfl
      have rU1 := HFU.out.cell (i := 1) (v := .int .i64 0) rfl
      have rU2 := HFU.out.cell (i := 2) (v := .slice none 0 0) rfl
      exact bodyPost_ret (v := .tuple #[.agg #[.int .i64 0, .int .i64 0, .slice none 0 0], .int .i64 50]) (by simp [results, Try.results33, go_sem, rU0, rU1, rU2]) rfl ⟨.inr ⟨HNO.out, rfl⟩, (((HB_2.out.setCell (p := ⟨(w.heap.size + 3), 0, none⟩) (by show w.heap.size ≤ (w.heap.size + 3); omega) (.int .i64 0)).setCell (p := ⟨(w.heap.size + 3), 1, none⟩) (by show w.heap.size ≤ (w.heap.size + 3); omega) (.int .i64 0)).setCell (p := ⟨(w.heap.size + 3), 2, none⟩) (by show w.heap.size ≤ (w.heap.size + 3); omega) (.slice none 0 0))⟩
    case pos =>
      have HCY := Lib.hid (fun W => pfrom_yes y (-4095) 4095 W hy)
      have HCALL : Hid (∀ W bx by_, Below w.heap.size w W → Blk W bx 3 #[.int .i64 x] → Blk W by_ 3 #[.int .i64 y] → Calls Try.prog 56 #[.agg #[.int .i64 P, .int .i64 N, .slice A ds.length c], .slice A ds.length c, .func (.func 57) #[] #[.pointer (some ⟨bx, 0, none⟩), .pointer (some ⟨by_, 0, none⟩)]] W (OutT (MovP P N ds x y) P N es W)) := Lib.hid (fun W bx by_ hb h1 h2 => by
        rw [hes]
        refine (predrawnD_any P N ds A c ds A c 57 [.pointer (some ⟨bx, 0, none⟩), .pointer (some ⟨by_, 0, none⟩)] (mvd x y) W (hA.below hb (Nat.le_refl _)) hz (hA.below hb (Nat.le_refl _)) (fun hv => hv.2.2.1.2) (enters_of Try.func57 (by kernel_rfl) rfl) (fun hv W2 hb2 d hd => ?_)).mono fun e w' h => h.iff (vd_mov_iff ⟨hx, hy⟩)
        exact pmoved1_any d x y bx by_ W2 (hv.mem d hd) ⟨hx, hy⟩ (Nat.lt_of_lt_of_le h1.lt hb2.size) (Nat.lt_of_lt_of_le h2.lt hb2.size) ((hb2.cell (p := ⟨bx, 0, none⟩) h1.lt).trans (h1.cell (i := 0) rfl)) ((hb2.cell (p := ⟨by_, 0, none⟩) h2.lt).trans (h2.cell (i := 0) rfl)))
      rw [← hes]
      clear hx hy hA hz hes
      have S_0 : Hid (Blk ((((w.alloc (.cells #[.int .i64 P, .int .i64 N, .slice A ds.length c] 27)).alloc (.cells #[.int .i64 x] 3)).alloc (.cells #[.int .i64 y] 3)).alloc (.cells #[.int .i64 0, .int .i64 0, .slice none 0 0] 27)) w.heap.size 27 #[.int .i64 P, .int .i64 N, .slice A ds.length c]) := allocs_blk [(#[.int .i64 P, .int .i64 N, .slice A ds.length c], 27), (#[.int .i64 x], 3), (#[.int .i64 y], 3), (#[.int .i64 0, .int .i64 0, .slice none 0 0], 27)] w 0 _ rfl
      have X_0 : Hid (Blk ((((w.alloc (.cells #[.int .i64 P, .int .i64 N, .slice A ds.length c] 27)).alloc (.cells #[.int .i64 x] 3)).alloc (.cells #[.int .i64 y] 3)).alloc (.cells #[.int .i64 0, .int .i64 0, .slice none 0 0] 27)) (w.heap.size + 1) 3 #[.int .i64 x]) := allocs_blk [(#[.int .i64 P, .int .i64 N, .slice A ds.length c], 27), (#[.int .i64 x], 3), (#[.int .i64 y], 3), (#[.int .i64 0, .int .i64 0, .slice none 0 0], 27)] w 1 _ rfl
      have Y_0 : Hid (Blk ((((w.alloc (.cells #[.int .i64 P, .int .i64 N, .slice A ds.length c] 27)).alloc (.cells #[.int .i64 x] 3)).alloc (.cells #[.int .i64 y] 3)).alloc (.cells #[.int .i64 0, .int .i64 0, .slice none 0 0] 27)) (w.heap.size + 2) 3 #[.int .i64 y]) := allocs_blk [(#[.int .i64 P, .int .i64 N, .slice A ds.length c], 27), (#[.int .i64 x], 3), (#[.int .i64 y], 3), (#[.int .i64 0, .int .i64 0, .slice none 0 0], 27)] w 2 _ rfl
      have U_0 : Hid (Blk ((((w.alloc (.cells #[.int .i64 P, .int .i64 N, .slice A ds.length c] 27)).alloc (.cells #[.int .i64 x] 3)).alloc (.cells #[.int .i64 y] 3)).alloc (.cells #[.int .i64 0, .int .i64 0, .slice none 0 0] 27)) (w.heap.size + 3) 27 #[.int .i64 0, .int .i64 0, .slice none 0 0]) := allocs_blk [(#[.int .i64 P, .int .i64 N, .slice A ds.length c], 27), (#[.int .i64 x], 3), (#[.int .i64 y], 3), (#[.int .i64 0, .int .i64 0, .slice none 0 0], 27)] w 3 _ rfl
      have HB_0 : Hid (Below w.heap.size w ((((w.alloc (.cells #[.int .i64 P, .int .i64 N, .slice A ds.length c] 27)).alloc (.cells #[.int .i64 x] 3)).alloc (.cells #[.int .i64 y] 3)).alloc (.cells #[.int .i64 0, .int .i64 0, .slice none 0 0] 27))) := allocs_below [(#[.int .i64 P, .int .i64 N, .slice A ds.length c], 27), (#[.int .i64 x], 3), (#[.int .i64 y], 3), (#[.int .i64 0, .int .i64 0, .slice none 0 0], 27)] w (Below.refl w.heap.size w) (Nat.le_refl _)
      go_enter Try.func33, Try.ntmps33
      have yy0 := X_0.out.cell (i := 0) (v := .int .i64 x) rfl
      go_wp2_with fail
      refine (HCX.out _).mono ?_
      rintro e v0 ⟨rfl, hb⟩
      clear yy0
      have S_1 : Hid (Blk v0 w.heap.size 27 #[.int .i64 P, .int .i64 N, .slice A ds.length c]) := Lib.hid (S_0.out.below hb S_0.out.lt)
      have X_1 : Hid (Blk v0 (w.heap.size + 1) 3 #[.int .i64 x]) := Lib.hid (X_0.out.below hb X_0.out.lt)
      have Y_1 : Hid (Blk v0 (w.heap.size + 2) 3 #[.int .i64 y]) := Lib.hid (Y_0.out.below hb Y_0.out.lt)
      have U_1 : Hid (Blk v0 (w.heap.size + 3) 27 #[.int .i64 0, .int .i64 0, .slice none 0 0]) := Lib.hid (U_0.out.below hb U_0.out.lt)
      have HB_1 : Hid (Below w.heap.size w v0) := Lib.hid (HB_0.out.trans (hb.mono HB_0.out.size))
      clear hb S_0 X_0 Y_0 U_0 HB_0
      have yy0 := Y_1.out.cell (i := 0) (v := .int .i64 y) rfl
      go_wp2_with fail
      refine (HCY.out _).mono ?_
      rintro e v1 ⟨rfl, hb⟩
      clear yy0
      have S_2 : Hid (Blk v1 w.heap.size 27 #[.int .i64 P, .int .i64 N, .slice A ds.length c]) := Lib.hid (S_1.out.below hb S_1.out.lt)
      have X_2 : Hid (Blk v1 (w.heap.size + 1) 3 #[.int .i64 x]) := Lib.hid (X_1.out.below hb X_1.out.lt)
      have Y_2 : Hid (Blk v1 (w.heap.size + 2) 3 #[.int .i64 y]) := Lib.hid (Y_1.out.below hb Y_1.out.lt)
      have U_2 : Hid (Blk v1 (w.heap.size + 3) 27 #[.int .i64 0, .int .i64 0, .slice none 0 0]) := Lib.hid (U_1.out.below hb U_1.out.lt)
      have HB_2 : Hid (Below w.heap.size w v1) := Lib.hid (HB_1.out.trans (hb.mono HB_1.out.size))
      clear hb S_1 X_1 Y_1 U_1 HB_1
      have yy0 := S_2.out.cell (i := 0) (v := .int .i64 P) rfl; have yy1 := S_2.out.cell (i := 1) (v := .int .i64 N) rfl; have yy2 := S_2.out.cell (i := 2) (v := .slice A ds.length c) rfl
      have LU : Hid (w.heap.size + 3 < v1.heap.size) := Lib.hid U_2.out.lt
      go_wp2_with fail
      refine (HCALL.out _ _ _ HB_2.out X_2.out Y_2.out).mono ?_
      rintro e v9 ⟨h, hb⟩
      clear yy0 yy1 yy2
      have S_3 : Hid (Blk v9 w.heap.size 27 #[.int .i64 P, .int .i64 N, .slice A ds.length c]) := Lib.hid (S_2.out.below hb S_2.out.lt)
      have X_3 : Hid (Blk v9 (w.heap.size + 1) 3 #[.int .i64 x]) := Lib.hid (X_2.out.below hb X_2.out.lt)
      have Y_3 : Hid (Blk v9 (w.heap.size + 2) 3 #[.int .i64 y]) := Lib.hid (Y_2.out.below hb Y_2.out.lt)
      have U_3 : Hid (Blk v9 (w.heap.size + 3) 27 #[.int .i64 0, .int .i64 0, .slice none 0 0]) := Lib.hid (U_2.out.below hb U_2.out.lt)
      have HB_3 : Hid (Below w.heap.size w v9) := Lib.hid (HB_2.out.trans (hb.mono HB_2.out.size))
      clear  S_2 X_2 Y_2 U_2 HB_2
      rcases h with ⟨hok, A3, c3, rfl, hdz, hfr, hcp⟩ | ⟨hno, rfl⟩
      · have HFR := Lib.hid hfr; have HDZ := Lib.hid hdz; have HOK := Lib.hid hok; have HCP := Lib.hid hcp; clear hfr hdz hok hcp hb
        have yy0 := U_3.out.cell (i := 0) (v := .int .i64 0) rfl; have yy1 := U_3.out.cell (i := 1) (v := .int .i64 0) rfl; have yy2 := U_3.out.cell (i := 2) (v := .slice none 0 0) rfl
        have f0 := U_3.out.frozen 0; have f1 := U_3.out.frozen 1; have f2 := U_3.out.frozen 2
        go_wp2_with fail
        clear yy0 yy1 yy2
        have HFU := Lib.hid (((U_3.out.set 0 (.int .i64 P)).set 1 (.int .i64 N)).set 2 (.slice A3 es.length c3))
        have rU0 := HFU.out.cell (i := 0) (v := .int .i64 P) rfl
        have rU1 := HFU.out.cell (i := 1) (v := .int .i64 N) rfl
        have rU2 := HFU.out.cell (i := 2) (v := .slice A3 es.length c3) rfl
        exact bodyPost_ret (v := .tuple #[.agg #[.int .i64 P, .int .i64 N, .slice A3 es.length c3], .int .i64 0]) (by simp [results, Try.results33, go_sem, rU0, rU1, rU2]) rfl ⟨.inl ⟨HOK.out, A3, c3, rfl, dz_far (dz_far (dz_far HDZ.out (p := ⟨(w.heap.size + 3), 0, none⟩) (fun b o he => by have := HFR.out b o he; have := LU.out; show b ≠ (w.heap.size + 3); omega) _) (p := ⟨(w.heap.size + 3), 1, none⟩) (fun b o he => by have := HFR.out b o he; have := LU.out; show b ≠ (w.heap.size + 3); omega) _) (p := ⟨(w.heap.size + 3), 2, none⟩) (fun b o he => by have := HFR.out b o he; have := LU.out; show b ≠ (w.heap.size + 3); omega) _, fun b o he => by have := HFR.out b o he; have := LU.out; omega, HCP.out⟩, (((HB_3.out.setCell (p := ⟨(w.heap.size + 3), 0, none⟩) (by show w.heap.size ≤ (w.heap.size + 3); omega) (.int .i64 P)).setCell (p := ⟨(w.heap.size + 3), 1, none⟩) (by show w.heap.size ≤ (w.heap.size + 3); omega) (.int .i64 N)).setCell (p := ⟨(w.heap.size + 3), 2, none⟩) (by show w.heap.size ≤ (w.heap.size + 3); omega) (.slice A3 es.length c3))⟩
      · have HNO := Lib.hid hno; clear hno hb
        have yy0 := U_3.out.cell (i := 0) (v := .int .i64 0) rfl; have yy1 := U_3.out.cell (i := 1) (v := .int .i64 0) rfl; have yy2 := U_3.out.cell (i := 2) (v := .slice none 0 0) rfl
        have f0 := U_3.out.frozen 0; have f1 := U_3.out.frozen 1; have f2 := U_3.out.frozen 2
        go_wp2_with fail
        clear yy0 yy1 yy2
        have HFU := Lib.hid (((U_3.out.set 0 (.int .i64 0)).set 1 (.int .i64 0)).set 2 (.slice none 0 0))
        have rU0 := HFU.out.cell (i := 0) (v := .int .i64 0) rfl
        have rU1 := HFU.out.cell (i := 1) (v := .int .i64 0) rfl
        have rU2 := HFU.out.cell (i := 2) (v := .slice none 0 0) rfl
        exact bodyPost_ret (v := .tuple #[.agg #[.int .i64 0, .int .i64 0, .slice none 0 0], .int .i64 50]) (by simp [results, Try.results33, go_sem, rU0, rU1, rU2]) rfl ⟨.inr ⟨HNO.out, rfl⟩, (((HB_3.out.setCell (p := ⟨(w.heap.size + 3), 0, none⟩) (by show w.heap.size ≤ (w.heap.size + 3); omega) (.int .i64 0)).setCell (p := ⟨(w.heap.size + 3), 1, none⟩) (by show w.heap.size ≤ (w.heap.size + 3); omega) (.int .i64 0)).setCell (p := ⟨(w.heap.size + 3), 2, none⟩) (by show w.heap.size ≤ (w.heap.size + 3); omega) (.slice none 0 0))⟩
set_option maxRecDepth 100000 in
set_option maxHeartbeats 8000000 in
theorem pturned_any (P N : Int) (ds : List Dt) (A : Option Addr) (c : Nat) (q : Int) (w : World) (hA : Dz w A ds) (hz : ds.length ≤ 9000000000000000000) (_hq : -9223372036854775808 ≤ q ∧ q ≤ 9223372036854775807) :
    Calls Try.prog 35 #[.agg #[.int .i64 P, .int .i64 N, .slice A ds.length c], .int .i64 q] w (OutT (Vd P N ds) P N (ds.map (trn (qrt q))) w) := by
  obtain ⟨es, hes⟩ : ∃ es, es = ds.map (trn (qrt q)) := ⟨_, rfl⟩
  have HCALL : Hid (∀ W bl, Below w.heap.size w W → Blk W bl 3 #[.int .i64 (qrt q : Nat)] → Calls Try.prog 56 #[.agg #[.int .i64 P, .int .i64 N, .slice A ds.length c], .slice A ds.length c, .func (.func 58) #[] #[.pointer (some ⟨bl, 0, none⟩)]] W (OutT (Vd P N ds) P N es W)) := Lib.hid (fun W bl hb h1 => by
    rw [hes]
    refine (predrawnD_any P N ds A c ds A c 58 [.pointer (some ⟨bl, 0, none⟩)] (trn (qrt q)) W (hA.below hb (Nat.le_refl _)) hz (hA.below hb (Nat.le_refl _)) (fun hv => hv.2.2.1.2) (enters_of Try.func58 (by kernel_rfl) rfl) (fun hv W2 hb2 d hd => ?_)).mono fun e w' h => h.iff (vd_trn_iff _)
    exact pturned1_any d (qrt q) bl W2 (hv.mem d hd) (qrt_lt q) (Nat.lt_of_lt_of_le h1.lt hb2.size) ((hb2.cell (p := ⟨bl, 0, none⟩) h1.lt).trans (h1.cell (i := 0) rfl)))
  rw [← hes]
  clear hA hz hes
  have eb := bits_quart q
  have S_0 : Hid (Blk (((w.alloc (.cells #[.int .i64 P, .int .i64 N, .slice A ds.length c] 27)).alloc (.cells #[.int .i64 0, .int .i64 0, .slice none 0 0] 27)).alloc (.cells #[.int .i64 (qrt q : Nat)] 3)) w.heap.size 27 #[.int .i64 P, .int .i64 N, .slice A ds.length c]) := allocs_blk [(#[.int .i64 P, .int .i64 N, .slice A ds.length c], 27), (#[.int .i64 0, .int .i64 0, .slice none 0 0], 27), (#[.int .i64 (qrt q : Nat)], 3)] w 0 _ rfl
  have U_0 : Hid (Blk (((w.alloc (.cells #[.int .i64 P, .int .i64 N, .slice A ds.length c] 27)).alloc (.cells #[.int .i64 0, .int .i64 0, .slice none 0 0] 27)).alloc (.cells #[.int .i64 (qrt q : Nat)] 3)) (w.heap.size + 1) 27 #[.int .i64 0, .int .i64 0, .slice none 0 0]) := allocs_blk [(#[.int .i64 P, .int .i64 N, .slice A ds.length c], 27), (#[.int .i64 0, .int .i64 0, .slice none 0 0], 27), (#[.int .i64 (qrt q : Nat)], 3)] w 1 _ rfl
  have L_0 : Hid (Blk (((w.alloc (.cells #[.int .i64 P, .int .i64 N, .slice A ds.length c] 27)).alloc (.cells #[.int .i64 0, .int .i64 0, .slice none 0 0] 27)).alloc (.cells #[.int .i64 (qrt q : Nat)] 3)) (w.heap.size + 2) 3 #[.int .i64 (qrt q : Nat)]) := allocs_blk [(#[.int .i64 P, .int .i64 N, .slice A ds.length c], 27), (#[.int .i64 0, .int .i64 0, .slice none 0 0], 27), (#[.int .i64 (qrt q : Nat)], 3)] w 2 _ rfl
  have HB_0 : Hid (Below w.heap.size w (((w.alloc (.cells #[.int .i64 P, .int .i64 N, .slice A ds.length c] 27)).alloc (.cells #[.int .i64 0, .int .i64 0, .slice none 0 0] 27)).alloc (.cells #[.int .i64 (qrt q : Nat)] 3))) := allocs_below [(#[.int .i64 P, .int .i64 N, .slice A ds.length c], 27), (#[.int .i64 0, .int .i64 0, .slice none 0 0], 27), (#[.int .i64 (qrt q : Nat)], 3)] w (Below.refl w.heap.size w) (Nat.le_refl _)
  have LU : Hid (w.heap.size + 1 < ((((w.alloc (.cells #[.int .i64 P, .int .i64 N, .slice A ds.length c] 27)).alloc (.cells #[.int .i64 0, .int .i64 0, .slice none 0 0] 27)).alloc (.cells #[.int .i64 (qrt q : Nat)] 3))).heap.size) := Lib.hid U_0.out.lt
  have yy0 := S_0.out.cell (i := 0) (v := .int .i64 P) rfl; have yy1 := S_0.out.cell (i := 1) (v := .int .i64 N) rfl; have yy2 := S_0.out.cell (i := 2) (v := .slice A ds.length c) rfl
  go_enter Try.func35, Try.ntmps35
  go_wp2_with fail
  refine (HCALL.out _ _ HB_0.out L_0.out).mono ?_
  rintro e v9 ⟨h, hb⟩
  clear yy0 yy1 yy2
  have S_1 : Hid (Blk v9 w.heap.size 27 #[.int .i64 P, .int .i64 N, .slice A ds.length c]) := Lib.hid (S_0.out.below hb S_0.out.lt)
  have U_1 : Hid (Blk v9 (w.heap.size + 1) 27 #[.int .i64 0, .int .i64 0, .slice none 0 0]) := Lib.hid (U_0.out.below hb U_0.out.lt)
  have L_1 : Hid (Blk v9 (w.heap.size + 2) 3 #[.int .i64 (qrt q : Nat)]) := Lib.hid (L_0.out.below hb L_0.out.lt)
  have HB_1 : Hid (Below w.heap.size w v9) := Lib.hid (HB_0.out.trans (hb.mono HB_0.out.size))
  clear  S_0 U_0 L_0 HB_0
  rcases h with ⟨hok, A3, c3, rfl, hdz, hfr, hcp⟩ | ⟨hno, rfl⟩
  · have HFR := Lib.hid hfr; have HDZ := Lib.hid hdz; have HOK := Lib.hid hok; have HCP := Lib.hid hcp; clear hfr hdz hok hcp hb
    have yy0 := U_1.out.cell (i := 0) (v := .int .i64 0) rfl; have yy1 := U_1.out.cell (i := 1) (v := .int .i64 0) rfl; have yy2 := U_1.out.cell (i := 2) (v := .slice none 0 0) rfl
    have f0 := U_1.out.frozen 0; have f1 := U_1.out.frozen 1; have f2 := U_1.out.frozen 2
    go_wp2_with fail
    clear yy0 yy1 yy2
    have HFU := Lib.hid (((U_1.out.set 0 (.int .i64 P)).set 1 (.int .i64 N)).set 2 (.slice A3 es.length c3))
    have rU0 := HFU.out.cell (i := 0) (v := .int .i64 P) rfl
    have rU1 := HFU.out.cell (i := 1) (v := .int .i64 N) rfl
    have rU2 := HFU.out.cell (i := 2) (v := .slice A3 es.length c3) rfl
    exact bodyPost_ret (v := .tuple #[.agg #[.int .i64 P, .int .i64 N, .slice A3 es.length c3], .int .i64 0]) (by simp [results, Try.results35, go_sem, rU0, rU1, rU2]) rfl ⟨.inl ⟨HOK.out, A3, c3, rfl, dz_far (dz_far (dz_far HDZ.out (p := ⟨(w.heap.size + 1), 0, none⟩) (fun b o he => by have := HFR.out b o he; have := LU.out; show b ≠ (w.heap.size + 1); omega) _) (p := ⟨(w.heap.size + 1), 1, none⟩) (fun b o he => by have := HFR.out b o he; have := LU.out; show b ≠ (w.heap.size + 1); omega) _) (p := ⟨(w.heap.size + 1), 2, none⟩) (fun b o he => by have := HFR.out b o he; have := LU.out; show b ≠ (w.heap.size + 1); omega) _, fun b o he => by have := HFR.out b o he; have := LU.out; omega, HCP.out⟩, (((HB_1.out.setCell (p := ⟨(w.heap.size + 1), 0, none⟩) (by show w.heap.size ≤ (w.heap.size + 1); omega) (.int .i64 P)).setCell (p := ⟨(w.heap.size + 1), 1, none⟩) (by show w.heap.size ≤ (w.heap.size + 1); omega) (.int .i64 N)).setCell (p := ⟨(w.heap.size + 1), 2, none⟩) (by show w.heap.size ≤ (w.heap.size + 1); omega) (.slice A3 es.length c3))⟩
  · have HNO := Lib.hid hno; clear hno hb
    have yy0 := U_1.out.cell (i := 0) (v := .int .i64 0) rfl; have yy1 := U_1.out.cell (i := 1) (v := .int .i64 0) rfl; have yy2 := U_1.out.cell (i := 2) (v := .slice none 0 0) rfl
    have f0 := U_1.out.frozen 0; have f1 := U_1.out.frozen 1; have f2 := U_1.out.frozen 2
    go_wp2_with fail
    clear yy0 yy1 yy2
    have HFU := Lib.hid (((U_1.out.set 0 (.int .i64 0)).set 1 (.int .i64 0)).set 2 (.slice none 0 0))
    have rU0 := HFU.out.cell (i := 0) (v := .int .i64 0) rfl
    have rU1 := HFU.out.cell (i := 1) (v := .int .i64 0) rfl
    have rU2 := HFU.out.cell (i := 2) (v := .slice none 0 0) rfl
    exact bodyPost_ret (v := .tuple #[.agg #[.int .i64 0, .int .i64 0, .slice none 0 0], .int .i64 50]) (by simp [results, Try.results35, go_sem, rU0, rU1, rU2]) rfl ⟨.inr ⟨HNO.out, rfl⟩, (((HB_1.out.setCell (p := ⟨(w.heap.size + 1), 0, none⟩) (by show w.heap.size ≤ (w.heap.size + 1); omega) (.int .i64 0)).setCell (p := ⟨(w.heap.size + 1), 1, none⟩) (by show w.heap.size ≤ (w.heap.size + 1); omega) (.int .i64 0)).setCell (p := ⟨(w.heap.size + 1), 2, none⟩) (by show w.heap.size ≤ (w.heap.size + 1); omega) (.slice none 0 0))⟩
end Go.Proofs.Ytamogfcedkjmcaa
