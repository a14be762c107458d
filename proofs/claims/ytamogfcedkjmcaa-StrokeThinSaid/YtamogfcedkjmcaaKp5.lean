
/- The contract of the reference's Kept. Conditions: the slices read. -/
import Derived.Test.YtamogfcedkjmcaaMv5
import Derived.Test.YtamogfcedkjmcaaIn5
import Derived.Test.YtamogfcedkjmcaaGoes
namespace Go.Proofs.Ytamogfcedkjmcaa
open Go.RowKit Go.Lib Go.Shelf

theorem own_eq5 {W : World} {B e s n : Nat} {v : Value} {xs ys : List Value} (h : W.ownsRow B e s v n xs) (he : ys = xs) : W.ownsRow B e s v n ys := he ▸ h
/-- The index at place i is one, and greater than the one before. -/
def OkK (n : Nat) (l : List Int) (i : Nat) : Prop := ∀ k, l[i]? = some k → (0 ≤ k ∧ k < (n : Int)) ∧ (0 < i → ∀ a, l[i - 1]? = some a → a < k)
def KeptP (P N : Int) (ds : List Dt) (l : List Int) : Prop := Vd P N ds ∧ (1 ≤ l.length ∧ l.length ≤ ds.length) ∧ ∀ i, i < l.length → OkK ds.length l i
/-- The dots at the indices. -/
def keptD (ds : List Dt) (l : List Int) : List Dt := l.map fun k => ds.getD k.toNat ⟨0, 0, 0, 0⟩
set_option maxRecDepth 100000 in
set_option maxHeartbeats 8000000 in
theorem rkept_inv (P N : Int) (ds : List Dt) (l : List Int) (A A2 : Option Addr) (c c2 : Nat) (w : World) (hA : Dz w A ds) (_hA2 : Iz w A2 l) (hz : ds.length ≤ 9000000000000000000) (_hz2 : l.length ≤ 9000000000000000000) (hv : ¬ Vd P N ds) :
    Calls Try.prog 27 #[.agg #[.int .i64 P, .int .i64 N, .slice A ds.length c], .slice A2 l.length c2] w (OutS (KeptP P N ds l) P N (keptD ds l) w) := by
  have HV := Lib.hid (fun W (hb : Below w.heap.size w W) => rvalid_not P N ds A c W (hA.below hb (Nat.le_refl _)) hz hv)
  have HNO : Hid (¬ KeptP P N ds l) := Lib.hid (fun h => hv h.1)
  clear hA _hA2 hz _hz2 hv
  have S_0 : Hid (Blk ((w.alloc (.cells #[.int .i64 P, .int .i64 N, .slice A ds.length c] 27)).alloc (.cells #[.int .i64 0, .int .i64 0, .slice none 0 0] 27)) w.heap.size 27 #[.int .i64 P, .int .i64 N, .slice A ds.length c]) := allocs_blk [(#[.int .i64 P, .int .i64 N, .slice A ds.length c], 27), (#[.int .i64 0, .int .i64 0, .slice none 0 0], 27)] w 0 _ rfl
  have U_0 : Hid (Blk ((w.alloc (.cells #[.int .i64 P, .int .i64 N, .slice A ds.length c] 27)).alloc (.cells #[.int .i64 0, .int .i64 0, .slice none 0 0] 27)) (w.heap.size + 1) 27 #[.int .i64 0, .int .i64 0, .slice none 0 0]) := allocs_blk [(#[.int .i64 P, .int .i64 N, .slice A ds.length c], 27), (#[.int .i64 0, .int .i64 0, .slice none 0 0], 27)] w 1 _ rfl
  have HB_0 : Hid (Below w.heap.size w ((w.alloc (.cells #[.int .i64 P, .int .i64 N, .slice A ds.length c] 27)).alloc (.cells #[.int .i64 0, .int .i64 0, .slice none 0 0] 27))) := allocs_below [(#[.int .i64 P, .int .i64 N, .slice A ds.length c], 27), (#[.int .i64 0, .int .i64 0, .slice none 0 0], 27)] w (Below.refl w.heap.size w) (Nat.le_refl _)
  go_enter Try.func27, Try.ntmps27
  have yy0 := S_0.out.cell (i := 0) (v := .int .i64 P) rfl; have yy1 := S_0.out.cell (i := 1) (v := .int .i64 N) rfl; have yy2 := S_0.out.cell (i := 2) (v := .slice A ds.length c) rfl
  go_wp2_with fail
  refine (HV.out _ HB_0.out).mono ?_
  rintro e v0 ⟨rfl, hb⟩
  clear yy0 yy1 yy2
  have S_1 : Hid (Blk v0 w.heap.size 27 #[.int .i64 P, .int .i64 N, .slice A ds.length c]) := Lib.hid (S_0.out.below hb S_0.out.lt)
  have U_1 : Hid (Blk v0 (w.heap.size + 1) 27 #[.int .i64 0, .int .i64 0, .slice none 0 0]) := Lib.hid (U_0.out.below hb U_0.out.lt)
  have HB_1 : Hid (Below w.heap.size w v0) := Lib.hid (HB_0.out.trans (hb.mono HB_0.out.size))
  clear hb S_0 U_0 HB_0
  have u0 := U_1.out.cell (i := 0) (v := .int .i64 0) rfl; have f0 := U_1.out.frozen 0; have u1 := U_1.out.cell (i := 1) (v := .int .i64 0) rfl; have f1 := U_1.out.frozen 1; have u2 := U_1.out.cell (i := 2) (v := .slice none 0 0) rfl; have f2 := U_1.out.frozen 2
  go_wp2_with fail
  clear u0 u1 u2 f0 f1 f2
  have HFU := Lib.hid (((U_1.out.set 0 (.int .i64 0)).set 1 (.int .i64 0)).set 2 (.slice none 0 0))
  have rU0 := HFU.out.cell (i := 0) (v := .int .i64 0) rfl
  have rU1 := HFU.out.cell (i := 1) (v := .int .i64 0) rfl
  have rU2 := HFU.out.cell (i := 2) (v := .slice none 0 0) rfl
  exact bodyPost_ret (v := .tuple #[.agg #[.int .i64 0, .int .i64 0, .slice none 0 0], .int .i64 50]) (by simp [results, Try.results27, go_sem, rU0, rU1, rU2]) rfl (OutS.no HNO.out rfl (((HB_1.out.setCell (p := ⟨(w.heap.size + 1), 0, none⟩) (by show w.heap.size ≤ (w.heap.size + 1); omega) (.int .i64 0)).setCell (p := ⟨(w.heap.size + 1), 1, none⟩) (by show w.heap.size ≤ (w.heap.size + 1); omega) (.int .i64 0)).setCell (p := ⟨(w.heap.size + 1), 2, none⟩) (by show w.heap.size ≤ (w.heap.size + 1); omega) (.slice none 0 0)))
set_option maxRecDepth 100000 in
set_option maxHeartbeats 8000000 in
theorem rkept_none (P N : Int) (ds : List Dt) (l : List Int) (A A2 : Option Addr) (c c2 : Nat) (w : World) (hA : Dz w A ds) (_hA2 : Iz w A2 l) (hz : ds.length ≤ 9000000000000000000) (_hz2 : l.length ≤ 9000000000000000000) (hv : Vd P N ds) (hl : l.length = 0) :
    Calls Try.prog 27 #[.agg #[.int .i64 P, .int .i64 N, .slice A ds.length c], .slice A2 l.length c2] w (OutS (KeptP P N ds l) P N (keptD ds l) w) := by
  have HV := Lib.hid (fun W (hb : Below w.heap.size w W) => rvalid_yes P N ds A c W (hA.below hb (Nat.le_refl _)) hz hv)
  have HNO : Hid (¬ KeptP P N ds l) := Lib.hid (fun h => by have := h.2.1; omega)
  have e1 : ((l.length : Int) == 0) = true := by rw [beq_iff_eq]; omega
  clear hA _hA2 hz _hz2 hv hl
  have S_0 : Hid (Blk ((w.alloc (.cells #[.int .i64 P, .int .i64 N, .slice A ds.length c] 27)).alloc (.cells #[.int .i64 0, .int .i64 0, .slice none 0 0] 27)) w.heap.size 27 #[.int .i64 P, .int .i64 N, .slice A ds.length c]) := allocs_blk [(#[.int .i64 P, .int .i64 N, .slice A ds.length c], 27), (#[.int .i64 0, .int .i64 0, .slice none 0 0], 27)] w 0 _ rfl
  have U_0 : Hid (Blk ((w.alloc (.cells #[.int .i64 P, .int .i64 N, .slice A ds.length c] 27)).alloc (.cells #[.int .i64 0, .int .i64 0, .slice none 0 0] 27)) (w.heap.size + 1) 27 #[.int .i64 0, .int .i64 0, .slice none 0 0]) := allocs_blk [(#[.int .i64 P, .int .i64 N, .slice A ds.length c], 27), (#[.int .i64 0, .int .i64 0, .slice none 0 0], 27)] w 1 _ rfl
  have HB_0 : Hid (Below w.heap.size w ((w.alloc (.cells #[.int .i64 P, .int .i64 N, .slice A ds.length c] 27)).alloc (.cells #[.int .i64 0, .int .i64 0, .slice none 0 0] 27))) := allocs_below [(#[.int .i64 P, .int .i64 N, .slice A ds.length c], 27), (#[.int .i64 0, .int .i64 0, .slice none 0 0], 27)] w (Below.refl w.heap.size w) (Nat.le_refl _)
  go_enter Try.func27, Try.ntmps27
  have yy0 := S_0.out.cell (i := 0) (v := .int .i64 P) rfl; have yy1 := S_0.out.cell (i := 1) (v := .int .i64 N) rfl; have yy2 := S_0.out.cell (i := 2) (v := .slice A ds.length c) rfl
  go_wp2_with fail
  refine (HV.out _ HB_0.out).mono ?_
  rintro e v0 ⟨rfl, hb⟩
  clear yy0 yy1 yy2
  have S_1 : Hid (Blk v0 w.heap.size 27 #[.int .i64 P, .int .i64 N, .slice A ds.length c]) := Lib.hid (S_0.out.below hb S_0.out.lt)
  have U_1 : Hid (Blk v0 (w.heap.size + 1) 27 #[.int .i64 0, .int .i64 0, .slice none 0 0]) := Lib.hid (U_0.out.below hb U_0.out.lt)
  have HB_1 : Hid (Below w.heap.size w v0) := Lib.hid (HB_0.out.trans (hb.mono HB_0.out.size))
  clear hb S_0 U_0 HB_0
  have yy0 := S_1.out.cell (i := 0) (v := .int .i64 P) rfl; have yy1 := S_1.out.cell (i := 1) (v := .int .i64 N) rfl; have yy2 := S_1.out.cell (i := 2) (v := .slice A ds.length c) rfl
  have u0 := U_1.out.cell (i := 0) (v := .int .i64 0) rfl; have f0 := U_1.out.frozen 0; have u1 := U_1.out.cell (i := 1) (v := .int .i64 0) rfl; have f1 := U_1.out.frozen 1; have u2 := U_1.out.cell (i := 2) (v := .slice none 0 0) rfl; have f2 := U_1.out.frozen 2
  go_wp2_with fail
  clear yy0 yy1 yy2
  clear u0 u1 u2 f0 f1 f2
  have HFU := Lib.hid (((U_1.out.set 0 (.int .i64 0)).set 1 (.int .i64 0)).set 2 (.slice none 0 0))
  have rU0 := HFU.out.cell (i := 0) (v := .int .i64 0) rfl
  have rU1 := HFU.out.cell (i := 1) (v := .int .i64 0) rfl
  have rU2 := HFU.out.cell (i := 2) (v := .slice none 0 0) rfl
  exact bodyPost_ret (v := .tuple #[.agg #[.int .i64 0, .int .i64 0, .slice none 0 0], .int .i64 50]) (by simp [results, Try.results27, go_sem, rU0, rU1, rU2]) rfl (OutS.no HNO.out rfl (((HB_1.out.setCell (p := ⟨(w.heap.size + 1), 0, none⟩) (by show w.heap.size ≤ (w.heap.size + 1); omega) (.int .i64 0)).setCell (p := ⟨(w.heap.size + 1), 1, none⟩) (by show w.heap.size ≤ (w.heap.size + 1); omega) (.int .i64 0)).setCell (p := ⟨(w.heap.size + 1), 2, none⟩) (by show w.heap.size ≤ (w.heap.size + 1); omega) (.slice none 0 0)))
set_option maxRecDepth 100000 in
set_option maxHeartbeats 8000000 in
theorem rkept_long (P N : Int) (ds : List Dt) (l : List Int) (A A2 : Option Addr) (c c2 : Nat) (w : World) (hA : Dz w A ds) (_hA2 : Iz w A2 l) (hz : ds.length ≤ 9000000000000000000) (_hz2 : l.length ≤ 9000000000000000000) (hv : Vd P N ds) (hl : ds.length < l.length) :
    Calls Try.prog 27 #[.agg #[.int .i64 P, .int .i64 N, .slice A ds.length c], .slice A2 l.length c2] w (OutS (KeptP P N ds l) P N (keptD ds l) w) := by
  have HV := Lib.hid (fun W (hb : Below w.heap.size w W) => rvalid_yes P N ds A c W (hA.below hb (Nat.le_refl _)) hz hv)
  have HNO : Hid (¬ KeptP P N ds l) := Lib.hid (fun h => by have := h.2.1; omega)
  have e1 : ((l.length : Int) == 0) = false := by rw [beq_eq_false_iff_ne]; omega
  have e2 : (ds.length : Int) < (l.length : Int) := by omega
  clear hA _hA2 hz _hz2 hv hl
  have S_0 : Hid (Blk ((w.alloc (.cells #[.int .i64 P, .int .i64 N, .slice A ds.length c] 27)).alloc (.cells #[.int .i64 0, .int .i64 0, .slice none 0 0] 27)) w.heap.size 27 #[.int .i64 P, .int .i64 N, .slice A ds.length c]) := allocs_blk [(#[.int .i64 P, .int .i64 N, .slice A ds.length c], 27), (#[.int .i64 0, .int .i64 0, .slice none 0 0], 27)] w 0 _ rfl
  have U_0 : Hid (Blk ((w.alloc (.cells #[.int .i64 P, .int .i64 N, .slice A ds.length c] 27)).alloc (.cells #[.int .i64 0, .int .i64 0, .slice none 0 0] 27)) (w.heap.size + 1) 27 #[.int .i64 0, .int .i64 0, .slice none 0 0]) := allocs_blk [(#[.int .i64 P, .int .i64 N, .slice A ds.length c], 27), (#[.int .i64 0, .int .i64 0, .slice none 0 0], 27)] w 1 _ rfl
  have HB_0 : Hid (Below w.heap.size w ((w.alloc (.cells #[.int .i64 P, .int .i64 N, .slice A ds.length c] 27)).alloc (.cells #[.int .i64 0, .int .i64 0, .slice none 0 0] 27))) := allocs_below [(#[.int .i64 P, .int .i64 N, .slice A ds.length c], 27), (#[.int .i64 0, .int .i64 0, .slice none 0 0], 27)] w (Below.refl w.heap.size w) (Nat.le_refl _)
  go_enter Try.func27, Try.ntmps27
  have yy0 := S_0.out.cell (i := 0) (v := .int .i64 P) rfl; have yy1 := S_0.out.cell (i := 1) (v := .int .i64 N) rfl; have yy2 := S_0.out.cell (i := 2) (v := .slice A ds.length c) rfl
  go_wp2_with fail
  refine (HV.out _ HB_0.out).mono ?_
  rintro e v0 ⟨rfl, hb⟩
  clear yy0 yy1 yy2
  have S_1 : Hid (Blk v0 w.heap.size 27 #[.int .i64 P, .int .i64 N, .slice A ds.length c]) := Lib.hid (S_0.out.below hb S_0.out.lt)
  have U_1 : Hid (Blk v0 (w.heap.size + 1) 27 #[.int .i64 0, .int .i64 0, .slice none 0 0]) := Lib.hid (U_0.out.below hb U_0.out.lt)
  have HB_1 : Hid (Below w.heap.size w v0) := Lib.hid (HB_0.out.trans (hb.mono HB_0.out.size))
  clear hb S_0 U_0 HB_0
  have yy0 := S_1.out.cell (i := 0) (v := .int .i64 P) rfl; have yy1 := S_1.out.cell (i := 1) (v := .int .i64 N) rfl; have yy2 := S_1.out.cell (i := 2) (v := .slice A ds.length c) rfl
  have u0 := U_1.out.cell (i := 0) (v := .int .i64 0) rfl; have f0 := U_1.out.frozen 0; have u1 := U_1.out.cell (i := 1) (v := .int .i64 0) rfl; have f1 := U_1.out.frozen 1; have u2 := U_1.out.cell (i := 2) (v := .slice none 0 0) rfl; have f2 := U_1.out.frozen 2
  go_wp2_with fail
  clear yy0 yy1 yy2
  clear u0 u1 u2 f0 f1 f2
  have HFU := Lib.hid (((U_1.out.set 0 (.int .i64 0)).set 1 (.int .i64 0)).set 2 (.slice none 0 0))
  have rU0 := HFU.out.cell (i := 0) (v := .int .i64 0) rfl
  have rU1 := HFU.out.cell (i := 1) (v := .int .i64 0) rfl
  have rU2 := HFU.out.cell (i := 2) (v := .slice none 0 0) rfl
  exact bodyPost_ret (v := .tuple #[.agg #[.int .i64 0, .int .i64 0, .slice none 0 0], .int .i64 50]) (by simp [results, Try.results27, go_sem, rU0, rU1, rU2]) rfl (OutS.no HNO.out rfl (((HB_1.out.setCell (p := ⟨(w.heap.size + 1), 0, none⟩) (by show w.heap.size ≤ (w.heap.size + 1); omega) (.int .i64 0)).setCell (p := ⟨(w.heap.size + 1), 1, none⟩) (by show w.heap.size ≤ (w.heap.size + 1); omega) (.int .i64 0)).setCell (p := ⟨(w.heap.size + 1), 2, none⟩) (by show w.heap.size ≤ (w.heap.size + 1); omega) (.slice none 0 0)))
set_option maxRecDepth 100000 in
set_option maxHeartbeats 8000000 in
theorem rkept_go (P N : Int) (ds : List Dt) (l : List Int) (A A2 : Option Addr) (c c2 : Nat) (w : World) (hA : Dz w A ds) (hA2 : Iz w A2 l) (hz : ds.length ≤ 9000000000000000000) (hz2 : l.length ≤ 9000000000000000000) (hv : Vd P N ds) (hl : 1 ≤ l.length ∧ l.length ≤ ds.length) :
    Calls Try.prog 27 #[.agg #[.int .i64 P, .int .i64 N, .slice A ds.length c], .slice A2 l.length c2] w (OutS (KeptP P N ds l) P N (keptD ds l) w) := by
  have hl2 := hv.2.2.1
  obtain ⟨b, o, rfl⟩ := hA.some (by omega)
  obtain ⟨b2, o2, rfl, hbl, hcl⟩ := hA2 (by omega)
  have HAT := Lib.hid hA.at
  have HLT2 : Hid (∀ W, Below w.heap.size w W → ∀ i (h : i < l.length), W.cell? ⟨b2, o2 + i, none⟩ = some (.int .i64 l[i])) := Lib.hid (fun W hb i h => (hb.cell (p := ⟨b2, _, none⟩) hbl).trans (hcl i h))
  have HV := Lib.hid (fun W (hb : Below w.heap.size w W) => rvalid_yes P N ds _ c W (hA.below hb (Nat.le_refl _)) hz hv)
  have HSP : Hid (KeptP P N ds l ↔ ∀ i, i < l.length → OkK ds.length l i) := Lib.hid ⟨fun h => h.2.2, fun h => ⟨hv, hl, h⟩⟩
  have HLN := Lib.hid (And.intro hl hl2)
  have e1 : ((l.length : Int) == 0) = false := by rw [beq_eq_false_iff_ne]; omega
  have e2 : ¬ ((ds.length : Int) < (l.length : Int)) := by omega
  have e3 : ¬ (ds.length < l.length) := by omega
  clear hA hA2 hz hz2 hv hl hl2 hbl hcl
  have S_0 : Hid (Blk ((w.alloc (.cells #[.int .i64 P, .int .i64 N, .slice (some ⟨b, o, none⟩) ds.length c] 27)).alloc (.cells #[.int .i64 0, .int .i64 0, .slice none 0 0] 27)) w.heap.size 27 #[.int .i64 P, .int .i64 N, .slice (some ⟨b, o, none⟩) ds.length c]) := allocs_blk [(#[.int .i64 P, .int .i64 N, .slice (some ⟨b, o, none⟩) ds.length c], 27), (#[.int .i64 0, .int .i64 0, .slice none 0 0], 27)] w 0 _ rfl
  have U_0 : Hid (Blk ((w.alloc (.cells #[.int .i64 P, .int .i64 N, .slice (some ⟨b, o, none⟩) ds.length c] 27)).alloc (.cells #[.int .i64 0, .int .i64 0, .slice none 0 0] 27)) (w.heap.size + 1) 27 #[.int .i64 0, .int .i64 0, .slice none 0 0]) := allocs_blk [(#[.int .i64 P, .int .i64 N, .slice (some ⟨b, o, none⟩) ds.length c], 27), (#[.int .i64 0, .int .i64 0, .slice none 0 0], 27)] w 1 _ rfl
  have HB_0 : Hid (Below w.heap.size w ((w.alloc (.cells #[.int .i64 P, .int .i64 N, .slice (some ⟨b, o, none⟩) ds.length c] 27)).alloc (.cells #[.int .i64 0, .int .i64 0, .slice none 0 0] 27))) := allocs_below [(#[.int .i64 P, .int .i64 N, .slice (some ⟨b, o, none⟩) ds.length c], 27), (#[.int .i64 0, .int .i64 0, .slice none 0 0], 27)] w (Below.refl w.heap.size w) (Nat.le_refl _)
  go_enter Try.func27, Try.ntmps27
  have yy0 := S_0.out.cell (i := 0) (v := .int .i64 P) rfl; have yy1 := S_0.out.cell (i := 1) (v := .int .i64 N) rfl; have yy2 := S_0.out.cell (i := 2) (v := .slice (some ⟨b, o, none⟩) ds.length c) rfl
  go_wp2_with fail
  refine (HV.out _ HB_0.out).mono ?_
  rintro e v0 ⟨rfl, hb⟩
  have LW : Hid (w.heap.size + 1 < v0.heap.size) := Lib.hid (U_0.out.below hb U_0.out.lt).lt
  clear yy0 yy1 yy2
  have S_1 : Hid (Blk v0 w.heap.size 27 #[.int .i64 P, .int .i64 N, .slice (some ⟨b, o, none⟩) ds.length c]) := Lib.hid (S_0.out.below hb S_0.out.lt)
  have U_1 : Hid (Blk v0 (w.heap.size + 1) 27 #[.int .i64 0, .int .i64 0, .slice none 0 0]) := Lib.hid (U_0.out.below hb U_0.out.lt)
  have HB_1 : Hid (Below w.heap.size w v0) := Lib.hid (HB_0.out.trans (hb.mono HB_0.out.size))
  clear hb S_0 U_0 HB_0
  have s0 := S_1.out.cell (i := 0) (v := .int .i64 P) rfl; have s1 := S_1.out.cell (i := 1) (v := .int .i64 N) rfl; have s2 := S_1.out.cell (i := 2) (v := .slice (some ⟨b, o, none⟩) ds.length c) rfl
  have HS := Lib.hid (S_1.out.alloc (.cells #[.int .i64 P, .int .i64 N, .slice none 0 0] 27)); have HU := Lib.hid (U_1.out.alloc (.cells #[.int .i64 P, .int .i64 N, .slice none 0 0] 27)); have HO := Lib.hid (Blk.new v0 27 #[.int .i64 P, .int .i64 N, .slice none 0 0])
  have HB := Lib.hid (HB_1.out.alloc HB_1.out.size (.cells #[.int .i64 P, .int .i64 N, .slice none 0 0] 27))
  have HOWN : Hid ((v0.alloc (.cells #[.int .i64 P, .int .i64 N, .slice none 0 0] 27)).ownsRow (v0.heap.size + 1) 24 4 (.slice none 0 0) 0 (flat (keptD ds (l.take 0)))) := Lib.hid (own_none _ _)
  clear S_1 U_1 HB_1
  go_wp2_with fail
  clear s0 s1 s2 e1 e2 e3
  go_loopw [7] (fun ii wr => ∃ (i : Nat) (v : Value), ii = .int .i64 i ∧ i ≤ l.length ∧ (∀ j, j < i → OkK ds.length l j) ∧ Blk wr w.heap.size 27 #[.int .i64 P, .int .i64 N, .slice (some ⟨b, o, none⟩) ds.length c] ∧ Blk wr (w.heap.size + 1) 27 #[.int .i64 0, .int .i64 0, .slice none 0 0] ∧ Blk wr v0.heap.size 27 #[.int .i64 P, .int .i64 N, v] ∧ wr.ownsRow (v0.heap.size + 1) 24 4 v i (flat (keptD ds (l.take i))) ∧ Below w.heap.size w wr) (fun ii _ => l.length - (intOf ii).toNat)
  case atStart => exact ⟨0, _, rfl, Nat.zero_le _, fun j hj => absurd hj (by omega), HS.out, HU.out, HO.out, HOWN.out, HB.out⟩
  case round =>
    obtain ⟨i, v, rfl, hi, hok, hS, hU, hO, hW, hB⟩ := hrel
    clear HS HU HO HOWN HB
    have HS := Lib.hid hS; have HU := Lib.hid hU; have HO := Lib.hid hO; have HW := Lib.hid hW; have HB := Lib.hid hB; have HI := Lib.hid hi; have HOKS := Lib.hid hok
    clear hS hU hO hW hB hi hok
    obtain ⟨A3, c3, hve⟩ : ∃ A3 c3, v = .slice A3 i c3 := by
      obtain ⟨h1, A3, c3, h2, -⟩ := Dz.of_own HW.out
      exact ⟨A3, c3, by rw [h2, ← h1]⟩
    subst hve
    by_cases hlt : i < l.length
    case neg =>
      have hni : ¬ ((i : Int) < (l.length : Int)) := by omega
      have hie : i = l.length := by have := HI.out; omega
      have HTK : Hid (l.take i = l) := Lib.hid (by rw [hie]; exact List.take_length)
      have HYES : Hid (KeptP P N ds l) := Lib.hid (HSP.out.2 fun j hj => HOKS.out j (by omega))
      have HIE : Hid (i = (keptD ds l).length) := Lib.hid (by unfold keptD; rw [List.length_map]; exact hie)
      clear hie hlt
      have o0 := HO.out.cell (i := 0) (v := .int .i64 P) rfl; have o1 := HO.out.cell (i := 1) (v := .int .i64 N) rfl; have o2' := HO.out.cell (i := 2) (v := .slice A3 i c3) rfl
      have u0 := HU.out.cell (i := 0) (v := .int .i64 0) rfl; have f0 := HU.out.frozen 0; have u1 := HU.out.cell (i := 1) (v := .int .i64 0) rfl; have f1 := HU.out.frozen 1; have u2 := HU.out.cell (i := 2) (v := .slice none 0 0) rfl; have f2 := HU.out.frozen 2
      go_wp2_with fail
      clear u0 u1 u2 f0 f1 f2 o0 o1 o2'
      have HFU := Lib.hid (((HU.out.set 0 (.int .i64 P)).set 1 (.int .i64 N)).set 2 (.slice A3 i c3))
      have rU0 := HFU.out.cell (i := 0) (v := .int .i64 P) rfl
      have rU1 := HFU.out.cell (i := 1) (v := .int .i64 N) rfl
      have rU2 := HFU.out.cell (i := 2) (v := .slice A3 i c3) rfl
      exact bodyPost_ret (v := .tuple #[.agg #[.int .i64 P, .int .i64 N, .slice A3 i c3], .int .i64 0]) (by simp [results, Try.results27, go_sem, rU0, rU1, rU2]) rfl (OutS.yes HYES.out rfl (HTK.out ▸ own_base_le (own_far (p := ⟨w.heap.size + 1, 2, none⟩) (own_far (p := ⟨w.heap.size + 1, 1, none⟩) (own_far (p := ⟨w.heap.size + 1, 0, none⟩) HW.out (own_ne HW.out (by have := LW.out; show w.heap.size + 1 < v0.heap.size + 1; omega)) (.int .i64 P)) (own_ne HW.out (by have := LW.out; show w.heap.size + 1 < v0.heap.size + 1; omega)) (.int .i64 N)) (own_ne HW.out (by have := LW.out; show w.heap.size + 1 < v0.heap.size + 1; omega)) (.slice A3 i c3)) (by have := LW.out; omega)) HIE.out (((HB.out.setCell (p := ⟨(w.heap.size + 1), 0, none⟩) (by show w.heap.size ≤ (w.heap.size + 1); omega) (.int .i64 P)).setCell (p := ⟨(w.heap.size + 1), 1, none⟩) (by show w.heap.size ≤ (w.heap.size + 1); omega) (.int .i64 N)).setCell (p := ⟨(w.heap.size + 1), 2, none⟩) (by show w.heap.size ≤ (w.heap.size + 1); omega) (.slice A3 i c3)))
    case pos =>
      obtain ⟨e, he⟩ : ∃ e, e = l[i] := ⟨_, rfl⟩
      have hE := fun W hb => HLT2.out W hb i hlt
      rw [← he] at hE
      obtain ⟨pe, hpe, hP⟩ : ∃ pe : Int, (0 < i → l[i - 1]? = some pe) ∧ (∀ W, Below w.heap.size w W → 0 < i → W.cell? ⟨b2, o2 + (i - 1), none⟩ = some (.int .i64 pe)) := by
        by_cases h0 : 0 < i
        · exact ⟨l[i - 1], fun _ => List.getElem?_eq_getElem _, fun W hb _ => HLT2.out W hb (i - 1) (by omega)⟩
        · exact ⟨0, fun h => absurd h h0, fun W hb h => absurd h h0⟩
      have hie : l[i]? = some e := by rw [he]; exact List.getElem?_eq_getElem _
      have HOI : Hid (OkK ds.length l i ↔ (0 ≤ e ∧ e < (ds.length : Int)) ∧ (0 < i → pe < e)) := Lib.hid (by
        unfold OkK
        constructor
        · intro h
          obtain ⟨h1, h2⟩ := h e hie
          exact ⟨h1, fun h0 => h2 h0 pe (hpe h0)⟩
        · rintro ⟨h1, h2⟩ k hk
          rw [hie, Option.some.injEq] at hk
          subst hk
          refine ⟨h1, fun h0 a ha => ?_⟩
          rw [hpe h0, Option.some.injEq] at ha
          subst ha; exact h2 h0)
      have HTK : Hid (l.take (i + 1) = l.take i ++ [e]) := Lib.hid (by rw [he]; exact List.take_succ_eq_append_getElem hlt)
      have HE := Lib.hid hE; have HPE := Lib.hid hP; have HLT := Lib.hid hlt
      have q1 : (0 : Int) ≤ (i : Int) := by omega
      have q2 : (i : Int) < (l.length : Int) := by omega
      clear hE hP he hpe hie hlt
      go_upto_region 7 with fail
      go_cut [66] from 36 to 66 (fun v wx => ∃ bv : Bool, v = .bool bv ∧ (bv = false ↔ OkK ds.length l i) ∧ Blk wx w.heap.size 27 #[.int .i64 P, .int .i64 N, .slice (some ⟨b, o, none⟩) ds.length c] ∧ Blk wx (w.heap.size + 1) 27 #[.int .i64 0, .int .i64 0, .slice none 0 0] ∧ Blk wx v0.heap.size 27 #[.int .i64 P, .int .i64 N, (.slice A3 i c3)] ∧ wx.ownsRow (v0.heap.size + 1) 24 4 (.slice A3 i c3) i (flat (keptD ds (l.take i))) ∧ Below w.heap.size w wx)
      case first =>
        refine wp_region_held_drew (S := (fun w' => w'.cell? ⟨w.heap.size, 2, none⟩ = some (.slice (some ⟨b, o, none⟩) ds.length c) ∧ w'.cell? ⟨b2, o2 + i, none⟩ = some (.int .i64 e) ∧ (0 < i → w'.cell? ⟨b2, o2 + (i - 1), none⟩ = some (.int .i64 pe)))) (by kernel_rfl) (⟨HS.out.drew.cell (i := 2) rfl, HE.out _ HB.out.drew, HPE.out _ HB.out.drew⟩) (fun hHeld => ?_)
        refine held_take 0 (some 36) ?_ rfl rfl (by kernel_rfl) (fun _ _ _ h => h) (by kernel_rfl) ?_ (by assumption) ?_
        rotate_left
        · intro wS hS; (try dsimp only at hS); go_simp <;> with_reducible rfl
        try simp only [Act.put, List.setIfInBounds_toArray, List.set_cons_zero, List.set_cons_succ]
        refine held_take 1 (some 37) ?_ rfl rfl (by kernel_rfl) (fun _ _ _ h => h) (by kernel_rfl) ?_ (by assumption) ?_
        rotate_left
        · intro wS hS; (try dsimp only at hS); go_simp <;> with_reducible rfl
        try simp only [Act.put, List.setIfInBounds_toArray, List.set_cons_zero, List.set_cons_succ]
        refine held_take 2 (some 38) ?_ rfl rfl (by kernel_rfl) (fun _ _ _ h => h) (by kernel_rfl) ?_ (by assumption) ?_
        rotate_left
        · intro wS hS; (try dsimp only at hS); go_simp <;> with_reducible rfl
        try simp only [Act.put, List.setIfInBounds_toArray, List.set_cons_zero, List.set_cons_succ]
        refine held_take 3 (some 39) ?_ rfl rfl (by kernel_rfl) (fun _ _ _ h => h) (by kernel_rfl) ?_ (by assumption) ?_
        rotate_left
        · intro wS hS; (try dsimp only at hS); go_simp <;> with_reducible rfl
        try simp only [Act.put, List.setIfInBounds_toArray, List.set_cons_zero, List.set_cons_succ]
        by_cases t1 : e < 0
        case pos =>
          have t1_d := decide_eq_true t1
          refine held_take 4 (some 40) (.bool true) rfl rfl (by kernel_rfl) (fun _ _ _ h => h) (by kernel_rfl) ?_ (by assumption) ?_
          · intro wS hS; (try dsimp only at hS); go_simp
          try simp only [Act.put, List.setIfInBounds_toArray, List.set_cons_zero, List.set_cons_succ]
          refine held_take 5 (some 41) ?_ rfl rfl (by kernel_rfl) (fun _ _ _ h => h) (by kernel_rfl) ?_ (by assumption) ?_
          rotate_left
          · intro wS hS; (try dsimp only at hS); go_simp <;> with_reducible rfl
          try simp only [Act.put, List.setIfInBounds_toArray, List.set_cons_zero, List.set_cons_succ]
          refine held_skips [(6, some 42), (7, some 43), (8, some 44), (9, some 45), (10, some 46), (11, some 47), (12, some 48), (13, some 49)] 17 (fun _ _ _ _ h => h) rfl (by kernel_rfl) (by assumption) ?_
          simp only [skipL, skipA, List.foldl_cons, List.foldl_nil, Act.put, List.setIfInBounds_toArray, List.set_cons_zero, List.set_cons_succ]
          refine held_take 14 (some 50) ?_ rfl rfl (by kernel_rfl) (fun _ _ _ h => h) (by kernel_rfl) ?_ (by assumption) ?_
          rotate_left
          · intro wS hS; (try dsimp only at hS); go_simp <;> with_reducible rfl
          try simp only [Act.put, List.setIfInBounds_toArray, List.set_cons_zero, List.set_cons_succ]
          refine held_take 15 (some 51) ?_ rfl rfl (by kernel_rfl) (fun _ _ _ h => h) (by kernel_rfl) ?_ (by assumption) ?_
          rotate_left
          · intro wS hS; (try dsimp only at hS); go_simp <;> with_reducible rfl
          try simp only [Act.put, List.setIfInBounds_toArray, List.set_cons_zero, List.set_cons_succ]
          refine held_skips [(16, some 52), (17, some 53), (18, some 54), (19, some 55), (20, some 56), (21, some 57), (22, some 58), (23, some 59), (24, some 60), (25, some 61), (26, some 62), (27, some 63), (28, some 64), (29, some 65)] 1 (fun _ _ _ _ h => h) rfl (by kernel_rfl) (by assumption) ?_
          simp only [skipL, skipA, List.foldl_cons, List.foldl_nil, Act.put, List.setIfInBounds_toArray, List.set_cons_zero, List.set_cons_succ]
          refine held_take 30 (some 66) ?_ rfl rfl (by kernel_rfl) (fun _ _ _ h => h) (by kernel_rfl) ?_ (by assumption) ?_
          rotate_left
          · intro wS hS; (try dsimp only at hS); go_simp <;> with_reducible rfl
          try simp only [Act.put, List.setIfInBounds_toArray, List.set_cons_zero, List.set_cons_succ]
          refine wpAnyH_done (by kernel_rfl) ?_ _
          go_wp2_with fail
          go_meet
          exact ⟨_, rfl, ⟨fun h => (by cases h), fun h => absurd (HOI.out.1 h) (by omega)⟩, HS.out.drew, HU.out.drew, HO.out.drew, HW.out, HB.out.drew⟩
        case neg =>
          have t1_d := decide_eq_false t1
          refine held_take 4 (some 40) (.bool false) rfl rfl (by kernel_rfl) (fun _ _ _ h => h) (by kernel_rfl) ?_ (by assumption) ?_
          · intro wS hS; (try dsimp only at hS); go_simp
          try simp only [Act.put, List.setIfInBounds_toArray, List.set_cons_zero, List.set_cons_succ]
          refine held_take 5 (some 41) ?_ rfl rfl (by kernel_rfl) (fun _ _ _ h => h) (by kernel_rfl) ?_ (by assumption) ?_
          rotate_left
          · intro wS hS; (try dsimp only at hS); go_simp <;> with_reducible rfl
          try simp only [Act.put, List.setIfInBounds_toArray, List.set_cons_zero, List.set_cons_succ]
          refine held_take 6 (some 42) ?_ rfl rfl (by kernel_rfl) (fun _ _ _ h => h) (by kernel_rfl) ?_ (by assumption) ?_
          rotate_left
          · intro wS hS; (try dsimp only at hS); go_simp <;> with_reducible rfl
          try simp only [Act.put, List.setIfInBounds_toArray, List.set_cons_zero, List.set_cons_succ]
          refine held_take 7 (some 43) ?_ rfl rfl (by kernel_rfl) (fun _ _ _ h => h) (by kernel_rfl) ?_ (by assumption) ?_
          rotate_left
          · intro wS hS; (try dsimp only at hS); go_simp <;> with_reducible rfl
          try simp only [Act.put, List.setIfInBounds_toArray, List.set_cons_zero, List.set_cons_succ]
          refine held_take 8 (some 44) ?_ rfl rfl (by kernel_rfl) (fun _ _ _ h => h) (by kernel_rfl) ?_ (by assumption) ?_
          rotate_left
          · intro wS hS; (try dsimp only at hS); go_simp <;> with_reducible rfl
          try simp only [Act.put, List.setIfInBounds_toArray, List.set_cons_zero, List.set_cons_succ]
          refine held_take 9 (some 45) ?_ rfl rfl (by kernel_rfl) (fun _ _ _ h => h) (by kernel_rfl) ?_ (by assumption) ?_
          rotate_left
          · intro wS hS; (try dsimp only at hS); go_simp <;> with_reducible rfl
          try simp only [Act.put, List.setIfInBounds_toArray, List.set_cons_zero, List.set_cons_succ]
          refine held_take 10 (some 46) ?_ rfl rfl (by kernel_rfl) (fun _ _ _ h => h) (by kernel_rfl) ?_ (by assumption) ?_
          rotate_left
          · intro wS hS; (try dsimp only at hS); go_simp <;> with_reducible rfl
          try simp only [Act.put, List.setIfInBounds_toArray, List.set_cons_zero, List.set_cons_succ]
          refine held_take 11 (some 47) ?_ rfl rfl (by kernel_rfl) (fun _ _ _ h => h) (by kernel_rfl) ?_ (by assumption) ?_
          rotate_left
          · intro wS hS; (try dsimp only at hS); go_simp <;> with_reducible rfl
          try simp only [Act.put, List.setIfInBounds_toArray, List.set_cons_zero, List.set_cons_succ]
          refine held_take 12 (some 48) ?_ rfl rfl (by kernel_rfl) (fun _ _ _ h => h) (by kernel_rfl) ?_ (by assumption) ?_
          rotate_left
          · intro wS hS; (try dsimp only at hS); go_simp <;> with_reducible rfl
          try simp only [Act.put, List.setIfInBounds_toArray, List.set_cons_zero, List.set_cons_succ]
          by_cases t2 : (ds.length : Int) ≤ e
          case pos =>
            have t2_d := decide_eq_true t2
            refine held_take 13 (some 49) (.bool true) rfl rfl (by kernel_rfl) (fun _ _ _ h => h) (by kernel_rfl) ?_ (by assumption) ?_
            · intro wS hS; (try dsimp only at hS); go_simp
            try simp only [Act.put, List.setIfInBounds_toArray, List.set_cons_zero, List.set_cons_succ]
            refine held_take 14 (some 50) ?_ rfl rfl (by kernel_rfl) (fun _ _ _ h => h) (by kernel_rfl) ?_ (by assumption) ?_
            rotate_left
            · intro wS hS; (try dsimp only at hS); go_simp <;> with_reducible rfl
            try simp only [Act.put, List.setIfInBounds_toArray, List.set_cons_zero, List.set_cons_succ]
            refine held_take 15 (some 51) ?_ rfl rfl (by kernel_rfl) (fun _ _ _ h => h) (by kernel_rfl) ?_ (by assumption) ?_
            rotate_left
            · intro wS hS; (try dsimp only at hS); go_simp <;> with_reducible rfl
            try simp only [Act.put, List.setIfInBounds_toArray, List.set_cons_zero, List.set_cons_succ]
            refine held_skips [(16, some 52), (17, some 53), (18, some 54), (19, some 55), (20, some 56), (21, some 57), (22, some 58), (23, some 59), (24, some 60), (25, some 61), (26, some 62), (27, some 63), (28, some 64), (29, some 65)] 1 (fun _ _ _ _ h => h) rfl (by kernel_rfl) (by assumption) ?_
            simp only [skipL, skipA, List.foldl_cons, List.foldl_nil, Act.put, List.setIfInBounds_toArray, List.set_cons_zero, List.set_cons_succ]
            refine held_take 30 (some 66) ?_ rfl rfl (by kernel_rfl) (fun _ _ _ h => h) (by kernel_rfl) ?_ (by assumption) ?_
            rotate_left
            · intro wS hS; (try dsimp only at hS); go_simp <;> with_reducible rfl
            try simp only [Act.put, List.setIfInBounds_toArray, List.set_cons_zero, List.set_cons_succ]
            refine wpAnyH_done (by kernel_rfl) ?_ _
            go_wp2_with fail
            go_meet
            exact ⟨_, rfl, ⟨fun h => (by cases h), fun h => absurd (HOI.out.1 h) (by omega)⟩, HS.out.drew, HU.out.drew, HO.out.drew, HW.out, HB.out.drew⟩
          case neg =>
            have t2_d := decide_eq_false t2
            refine held_take 13 (some 49) (.bool false) rfl rfl (by kernel_rfl) (fun _ _ _ h => h) (by kernel_rfl) ?_ (by assumption) ?_
            · intro wS hS; (try dsimp only at hS); go_simp
            try simp only [Act.put, List.setIfInBounds_toArray, List.set_cons_zero, List.set_cons_succ]
            refine held_take 14 (some 50) ?_ rfl rfl (by kernel_rfl) (fun _ _ _ h => h) (by kernel_rfl) ?_ (by assumption) ?_
            rotate_left
            · intro wS hS; (try dsimp only at hS); go_simp <;> with_reducible rfl
            try simp only [Act.put, List.setIfInBounds_toArray, List.set_cons_zero, List.set_cons_succ]
            refine held_take 15 (some 51) ?_ rfl rfl (by kernel_rfl) (fun _ _ _ h => h) (by kernel_rfl) ?_ (by assumption) ?_
            rotate_left
            · intro wS hS; (try dsimp only at hS); go_simp <;> with_reducible rfl
            try simp only [Act.put, List.setIfInBounds_toArray, List.set_cons_zero, List.set_cons_succ]
            refine held_take 16 (some 52) ?_ rfl rfl (by kernel_rfl) (fun _ _ _ h => h) (by kernel_rfl) ?_ (by assumption) ?_
            rotate_left
            · intro wS hS; (try dsimp only at hS); go_simp <;> with_reducible rfl
            try simp only [Act.put, List.setIfInBounds_toArray, List.set_cons_zero, List.set_cons_succ]
            by_cases t3 : (0 : Int) < (i : Int)
            case pos =>
              have t3_d := decide_eq_true t3
              have h5n : 0 < i := by omega
              have e1 : IntKind.i64.wrap ((i : Int) - 1) = ((i - 1 : Nat) : Int) := by have := HLT.out; have := HLN.out; rw [IntWalk.i64_in _ (by omega)]; omega
              have e2 : (0 : Int) ≤ ((i - 1 : Nat) : Int) := by omega
              have e3 : ((i - 1 : Nat) : Int) < (l.length : Int) := by have := HLT.out; omega
              refine held_take 17 (some 53) (.bool true) rfl rfl (by kernel_rfl) (fun _ _ _ h => h) (by kernel_rfl) ?_ (by assumption) ?_
              · intro wS hS; (try dsimp only at hS); go_simp
              try simp only [Act.put, List.setIfInBounds_toArray, List.set_cons_zero, List.set_cons_succ]
              refine held_take 18 (some 54) ?_ rfl rfl (by kernel_rfl) (fun _ _ _ h => h) (by kernel_rfl) ?_ (by assumption) ?_
              rotate_left
              · intro wS hS; (try dsimp only at hS); go_simp <;> with_reducible rfl
              try simp only [Act.put, List.setIfInBounds_toArray, List.set_cons_zero, List.set_cons_succ]
              refine held_take 19 (some 55) ?_ rfl rfl (by kernel_rfl) (fun _ _ _ h => h) (by kernel_rfl) ?_ (by assumption) ?_
              rotate_left
              · intro wS hS; (try dsimp only at hS); go_simp <;> with_reducible rfl
              try simp only [Act.put, List.setIfInBounds_toArray, List.set_cons_zero, List.set_cons_succ]
              refine held_take 20 (some 56) ?_ rfl rfl (by kernel_rfl) (fun _ _ _ h => h) (by kernel_rfl) ?_ (by assumption) ?_
              rotate_left
              · intro wS hS; (try dsimp only at hS); go_simp <;> with_reducible rfl
              try simp only [Act.put, List.setIfInBounds_toArray, List.set_cons_zero, List.set_cons_succ]
              refine held_take 21 (some 57) ?_ rfl rfl (by kernel_rfl) (fun _ _ _ h => h) (by kernel_rfl) ?_ (by assumption) ?_
              rotate_left
              · intro wS hS; (try dsimp only at hS); go_simp <;> with_reducible rfl
              try simp only [Act.put, List.setIfInBounds_toArray, List.set_cons_zero, List.set_cons_succ]
              refine held_take 22 (some 58) ?_ rfl rfl (by kernel_rfl) (fun _ _ _ h => h) (by kernel_rfl) ?_ (by assumption) ?_
              rotate_left
              · intro wS hS; (try dsimp only at hS); go_simp <;> with_reducible rfl
              try simp only [Act.put, List.setIfInBounds_toArray, List.set_cons_zero, List.set_cons_succ]
              refine held_take 23 (some 59) ?_ rfl rfl (by kernel_rfl) (fun _ _ _ h => h) (by kernel_rfl) ?_ (by assumption) ?_
              rotate_left
              · intro wS hS; (try dsimp only at hS); go_simp <;> with_reducible rfl
              try simp only [Act.put, List.setIfInBounds_toArray, List.set_cons_zero, List.set_cons_succ]
              refine held_take 24 (some 60) ?_ rfl rfl (by kernel_rfl) (fun _ _ _ h => h) (by kernel_rfl) ?_ (by assumption) ?_
              rotate_left
              · intro wS hS; (try dsimp only at hS); go_simp <;> with_reducible rfl
              try simp only [Act.put, List.setIfInBounds_toArray, List.set_cons_zero, List.set_cons_succ]
              refine held_take 25 (some 61) ?_ rfl rfl (by kernel_rfl) (fun _ _ _ h => h) (by kernel_rfl) ?_ (by assumption) ?_
              rotate_left
              · intro wS hS; (try dsimp only at hS); go_simp <;> with_reducible rfl
              try simp only [Act.put, List.setIfInBounds_toArray, List.set_cons_zero, List.set_cons_succ]
              refine held_take 26 (some 62) ?_ rfl rfl (by kernel_rfl) (fun _ _ _ h => h) (by kernel_rfl) ?_ (by assumption) ?_
              rotate_left
              · intro wS hS; (try dsimp only at hS); go_simp <;> with_reducible rfl
              try simp only [Act.put, List.setIfInBounds_toArray, List.set_cons_zero, List.set_cons_succ]
              refine held_take 27 (some 63) ?_ rfl rfl (by kernel_rfl) (fun _ _ _ h => h) (by kernel_rfl) ?_ (by assumption) ?_
              rotate_left
              · intro wS hS; (try dsimp only at hS); go_simp <;> with_reducible rfl
              try simp only [Act.put, List.setIfInBounds_toArray, List.set_cons_zero, List.set_cons_succ]
              by_cases t4 : e ≤ pe
              case pos =>
                have t4_d := decide_eq_true t4
                refine held_take 28 (some 64) (.bool true) rfl rfl (by kernel_rfl) (fun _ _ _ h => h) (by kernel_rfl) ?_ (by assumption) ?_
                · intro wS hS; (try dsimp only at hS); go_simp
                try simp only [Act.put, List.setIfInBounds_toArray, List.set_cons_zero, List.set_cons_succ]
                refine held_take 29 (some 65) ?_ rfl rfl (by kernel_rfl) (fun _ _ _ h => h) (by kernel_rfl) ?_ (by assumption) ?_
                rotate_left
                · intro wS hS; (try dsimp only at hS); go_simp <;> with_reducible rfl
                try simp only [Act.put, List.setIfInBounds_toArray, List.set_cons_zero, List.set_cons_succ]
                refine held_take 30 (some 66) ?_ rfl rfl (by kernel_rfl) (fun _ _ _ h => h) (by kernel_rfl) ?_ (by assumption) ?_
                rotate_left
                · intro wS hS; (try dsimp only at hS); go_simp <;> with_reducible rfl
                try simp only [Act.put, List.setIfInBounds_toArray, List.set_cons_zero, List.set_cons_succ]
                refine wpAnyH_done (by kernel_rfl) ?_ _
                go_wp2_with fail
                go_meet
                exact ⟨_, rfl, ⟨fun h => (by cases h), fun h => absurd (HOI.out.1 h) (by omega)⟩, HS.out.drew, HU.out.drew, HO.out.drew, HW.out, HB.out.drew⟩
              case neg =>
                have t4_d := decide_eq_false t4
                refine held_take 28 (some 64) (.bool false) rfl rfl (by kernel_rfl) (fun _ _ _ h => h) (by kernel_rfl) ?_ (by assumption) ?_
                · intro wS hS; (try dsimp only at hS); go_simp
                try simp only [Act.put, List.setIfInBounds_toArray, List.set_cons_zero, List.set_cons_succ]
                refine held_take 29 (some 65) ?_ rfl rfl (by kernel_rfl) (fun _ _ _ h => h) (by kernel_rfl) ?_ (by assumption) ?_
                rotate_left
                · intro wS hS; (try dsimp only at hS); go_simp <;> with_reducible rfl
                try simp only [Act.put, List.setIfInBounds_toArray, List.set_cons_zero, List.set_cons_succ]
                refine held_take 30 (some 66) ?_ rfl rfl (by kernel_rfl) (fun _ _ _ h => h) (by kernel_rfl) ?_ (by assumption) ?_
                rotate_left
                · intro wS hS; (try dsimp only at hS); go_simp <;> with_reducible rfl
                try simp only [Act.put, List.setIfInBounds_toArray, List.set_cons_zero, List.set_cons_succ]
                refine wpAnyH_done (by kernel_rfl) ?_ _
                go_wp2_with fail
                go_meet
                exact ⟨_, rfl, ⟨fun _ => HOI.out.2 (by omega), fun _ => rfl⟩, HS.out.drew, HU.out.drew, HO.out.drew, HW.out, HB.out.drew⟩
            case neg =>
              have t3_d := decide_eq_false t3
              have h5z : i = 0 := by omega
              refine held_take 17 (some 53) (.bool false) rfl rfl (by kernel_rfl) (fun _ _ _ h => h) (by kernel_rfl) ?_ (by assumption) ?_
              · intro wS hS; (try dsimp only at hS); go_simp
              clear h5z
              try simp only [Act.put, List.setIfInBounds_toArray, List.set_cons_zero, List.set_cons_succ]
              refine held_take 18 (some 54) ?_ rfl rfl (by kernel_rfl) (fun _ _ _ h => h) (by kernel_rfl) ?_ (by assumption) ?_
              rotate_left
              · intro wS hS; (try dsimp only at hS); go_simp <;> with_reducible rfl
              try simp only [Act.put, List.setIfInBounds_toArray, List.set_cons_zero, List.set_cons_succ]
              refine held_skips [(19, some 55), (20, some 56), (21, some 57), (22, some 58), (23, some 59), (24, some 60), (25, some 61), (26, some 62), (27, some 63), (28, some 64)] 2 (fun _ _ _ _ h => h) rfl (by kernel_rfl) (by assumption) ?_
              simp only [skipL, skipA, List.foldl_cons, List.foldl_nil, Act.put, List.setIfInBounds_toArray, List.set_cons_zero, List.set_cons_succ]
              refine held_take 29 (some 65) ?_ rfl rfl (by kernel_rfl) (fun _ _ _ h => h) (by kernel_rfl) ?_ (by assumption) ?_
              rotate_left
              · intro wS hS; (try dsimp only at hS); go_simp <;> with_reducible rfl
              try simp only [Act.put, List.setIfInBounds_toArray, List.set_cons_zero, List.set_cons_succ]
              refine held_take 30 (some 66) ?_ rfl rfl (by kernel_rfl) (fun _ _ _ h => h) (by kernel_rfl) ?_ (by assumption) ?_
              rotate_left
              · intro wS hS; (try dsimp only at hS); go_simp <;> with_reducible rfl
              try simp only [Act.put, List.setIfInBounds_toArray, List.set_cons_zero, List.set_cons_succ]
              refine wpAnyH_done (by kernel_rfl) ?_ _
              go_wp2_with fail
              go_meet
              exact ⟨_, rfl, ⟨fun _ => HOI.out.2 (by omega), fun _ => rfl⟩, HS.out.drew, HU.out.drew, HO.out.drew, HW.out, HB.out.drew⟩
      case rest =>
        obtain ⟨bv, rfl, hbv, hS, hU, hO, hW, hB⟩ := hcut
        have HBV := Lib.hid hbv
        rename World => wK
        clear HS HU HO HW HB hbv
        have HS := Lib.hid hS; have HU := Lib.hid hU; have HO := Lib.hid hO; have HW := Lib.hid hW; have HB := Lib.hid hB
        clear hS hU hO hW hB
        have VO : Hid (v0.heap.size < wK.heap.size) := Lib.hid HO.out.lt
        cases bv with
        | true =>
          have HNO : Hid (¬ KeptP P N ds l) := Lib.hid (fun h => by cases HBV.out.2 (HSP.out.1 h i HLT.out))
          have u0 := HU.out.cell (i := 0) (v := .int .i64 0) rfl; have f0 := HU.out.frozen 0; have u1 := HU.out.cell (i := 1) (v := .int .i64 0) rfl; have f1 := HU.out.frozen 1; have u2 := HU.out.cell (i := 2) (v := .slice none 0 0) rfl; have f2 := HU.out.frozen 2
          go_wp2_with fail
          clear u0 u1 u2 f0 f1 f2
          have HFU := Lib.hid (((HU.out.set 0 (.int .i64 0)).set 1 (.int .i64 0)).set 2 (.slice none 0 0))
          have rU0 := HFU.out.cell (i := 0) (v := .int .i64 0) rfl
          have rU1 := HFU.out.cell (i := 1) (v := .int .i64 0) rfl
          have rU2 := HFU.out.cell (i := 2) (v := .slice none 0 0) rfl
          exact bodyPost_ret (v := .tuple #[.agg #[.int .i64 0, .int .i64 0, .slice none 0 0], .int .i64 50]) (by simp [results, Try.results27, go_sem, rU0, rU1, rU2]) rfl (OutS.no HNO.out rfl (((HB.out.setCell (p := ⟨(w.heap.size + 1), 0, none⟩) (by show w.heap.size ≤ (w.heap.size + 1); omega) (.int .i64 0)).setCell (p := ⟨(w.heap.size + 1), 1, none⟩) (by show w.heap.size ≤ (w.heap.size + 1); omega) (.int .i64 0)).setCell (p := ⟨(w.heap.size + 1), 2, none⟩) (by show w.heap.size ≤ (w.heap.size + 1); omega) (.slice none 0 0)))
        | false =>
          have HOKI := Lib.hid (HBV.out.1 rfl)
          have hoi := HOI.out.1 HOKI.out
          obtain ⟨k, rfl⟩ : ∃ k : Nat, e = (k : Int) := ⟨e.toNat, by omega⟩
          have hkl : k < ds.length := by omega
          obtain ⟨d, hd⟩ : ∃ d, d = ds[k] := ⟨_, rfl⟩
          have hD := fun W hb => HAT.out W hb k hkl
          rw [← hd] at hD
          have HD := Lib.hid hD
          have HKD : Hid (keptD ds (l.take (i + 1)) = keptD ds (l.take i) ++ [d]) := Lib.hid (by unfold keptD; rw [HTK.out, List.map_append, List.map_singleton, Int.toNat_natCast, List.getD_eq_getElem?_getD, List.getElem?_eq_getElem hkl, ← hd]; rfl)
          have b1 : (0 : Int) ≤ (k : Int) := by omega
          have b2' : (k : Int) < (ds.length : Int) := by omega
          have HI3 : Hid (i ≤ 1000000) := Lib.hid (by have := HLT.out; have := HLN.out; omega)
          clear hoi hkl hd hD
          go_upto_region 9 with fail
          refine wp_region_goes (Sp := fun _ => True) (Se := (fun w' => w'.cell? ⟨w.heap.size, 2, none⟩ = some (.slice (some ⟨b, o, none⟩) ds.length c) ∧ w'.cell? ⟨v0.heap.size, 2, none⟩ = some (.slice A3 i c3) ∧ w'.cell? ⟨b2, o2 + i, none⟩ = some (.int .i64 (k : Nat)) ∧ w'.cell? ⟨b, o + k * 4, none⟩ = some (.int .i64 d.x) ∧ w'.cell? ⟨b, o + k * 4 + 1, none⟩ = some (.int .i64 d.y) ∧ w'.cell? ⟨b, o + k * 4 + 2, none⟩ = some (.int .i64 d.t) ∧ w'.cell? ⟨b, o + k * 4 + 3, none⟩ = some (.int .i64 d.p))) (Z := (([13] : List Nat).contains ·)) (by kernel_rfl) ?_
          have hw : Holds (fun _ => True) (fun w' => w'.cell? ⟨w.heap.size, 2, none⟩ = some (.slice (some ⟨b, o, none⟩) ds.length c) ∧ w'.cell? ⟨v0.heap.size, 2, none⟩ = some (.slice A3 i c3) ∧ w'.cell? ⟨b2, o2 + i, none⟩ = some (.int .i64 (k : Nat)) ∧ w'.cell? ⟨b, o + k * 4, none⟩ = some (.int .i64 d.x) ∧ w'.cell? ⟨b, o + k * 4 + 1, none⟩ = some (.int .i64 d.y) ∧ w'.cell? ⟨b, o + k * 4 + 2, none⟩ = some (.int .i64 d.t) ∧ w'.cell? ⟨b, o + k * 4 + 3, none⟩ = some (.int .i64 d.p)) (([13] : List Nat).contains ·) (Array.replicate 14 false) wK.drew := ⟨trivial, fun _ => ⟨HS.out.drew.cell (i := 2) rfl, HO.out.drew.cell (i := 2) rfl, HE.out _ HB.out.drew, (HD.out _ HB.out.drew).1, (HD.out _ HB.out.drew).2.1, (HD.out _ HB.out.drew).2.2.1, (HD.out _ HB.out.drew).2.2.2⟩⟩
          refine goes_take (t := [(13, [0, 1, 2, 3, 4, 5, 6, 7, 8, 9, 10, 11, 12])]) (es := [1, 3, 7, 9]) (zs := [13]) 0 (some 68) ?_ (by kernel_rfl) rfl rfl (by kernel_rfl) (fun _ _ _ h => h) (by kernel_rfl) ?_ hw (fun hw2 => ?_)
          rotate_left
          · intro wS hS; clear hS; go_simp <;> with_reducible rfl
          clear hw; have hw := hw2; clear hw2
          try simp only [Act.put, List.setIfInBounds_toArray, List.set_cons_zero, List.set_cons_succ]
          refine goes_take (t := [(13, [0, 1, 2, 3, 4, 5, 6, 7, 8, 9, 10, 11, 12])]) (es := [1, 3, 7, 9]) (zs := [13]) 1 (some 69) ?_ (by kernel_rfl) rfl rfl (by kernel_rfl) (fun _ _ _ h => h) (by kernel_rfl) ?_ hw (fun hw2 => ?_)
          rotate_left
          · intro wS hS; have hE := hS.2 rfl; clear hS; (try dsimp only at hE); go_simp <;> with_reducible rfl
          clear hw; have hw := hw2; clear hw2
          try simp only [Act.put, List.setIfInBounds_toArray, List.set_cons_zero, List.set_cons_succ]
          refine goes_take (t := [(13, [0, 1, 2, 3, 4, 5, 6, 7, 8, 9, 10, 11, 12])]) (es := [1, 3, 7, 9]) (zs := [13]) 2 (some 70) ?_ (by kernel_rfl) rfl rfl (by kernel_rfl) (fun _ _ _ h => h) (by kernel_rfl) ?_ hw (fun hw2 => ?_)
          rotate_left
          · intro wS hS; clear hS; go_simp <;> with_reducible rfl
          clear hw; have hw := hw2; clear hw2
          try simp only [Act.put, List.setIfInBounds_toArray, List.set_cons_zero, List.set_cons_succ]
          refine goes_take (t := [(13, [0, 1, 2, 3, 4, 5, 6, 7, 8, 9, 10, 11, 12])]) (es := [1, 3, 7, 9]) (zs := [13]) 3 (some 71) ?_ (by kernel_rfl) rfl rfl (by kernel_rfl) (fun _ _ _ h => h) (by kernel_rfl) ?_ hw (fun hw2 => ?_)
          rotate_left
          · intro wS hS; have hE := hS.2 rfl; clear hS; (try dsimp only at hE); go_simp <;> with_reducible rfl
          clear hw; have hw := hw2; clear hw2
          try simp only [Act.put, List.setIfInBounds_toArray, List.set_cons_zero, List.set_cons_succ]
          refine goes_take (t := [(13, [0, 1, 2, 3, 4, 5, 6, 7, 8, 9, 10, 11, 12])]) (es := [1, 3, 7, 9]) (zs := [13]) 4 (some 72) ?_ (by kernel_rfl) rfl rfl (by kernel_rfl) (fun _ _ _ h => h) (by kernel_rfl) ?_ hw (fun hw2 => ?_)
          rotate_left
          · intro wS hS; clear hS; go_simp <;> with_reducible rfl
          clear hw; have hw := hw2; clear hw2
          try simp only [Act.put, List.setIfInBounds_toArray, List.set_cons_zero, List.set_cons_succ]
          refine goes_take (t := [(13, [0, 1, 2, 3, 4, 5, 6, 7, 8, 9, 10, 11, 12])]) (es := [1, 3, 7, 9]) (zs := [13]) 5 (some 73) ?_ (by kernel_rfl) rfl rfl (by kernel_rfl) (fun _ _ _ h => h) (by kernel_rfl) ?_ hw (fun hw2 => ?_)
          rotate_left
          · intro wS hS; clear hS; go_simp <;> with_reducible rfl
          clear hw; have hw := hw2; clear hw2
          try simp only [Act.put, List.setIfInBounds_toArray, List.set_cons_zero, List.set_cons_succ]
          refine goes_take (t := [(13, [0, 1, 2, 3, 4, 5, 6, 7, 8, 9, 10, 11, 12])]) (es := [1, 3, 7, 9]) (zs := [13]) 6 (some 74) ?_ (by kernel_rfl) rfl rfl (by kernel_rfl) (fun _ _ _ h => h) (by kernel_rfl) ?_ hw (fun hw2 => ?_)
          rotate_left
          · intro wS hS; clear hS; go_simp <;> with_reducible rfl
          clear hw; have hw := hw2; clear hw2
          try simp only [Act.put, List.setIfInBounds_toArray, List.set_cons_zero, List.set_cons_succ]
          refine goes_take (t := [(13, [0, 1, 2, 3, 4, 5, 6, 7, 8, 9, 10, 11, 12])]) (es := [1, 3, 7, 9]) (zs := [13]) 7 (some 75) ?_ (by kernel_rfl) rfl rfl (by kernel_rfl) (fun _ _ _ h => h) (by kernel_rfl) ?_ hw (fun hw2 => ?_)
          rotate_left
          · intro wS hS; have hE := hS.2 rfl; clear hS; (try dsimp only at hE); go_simp <;> with_reducible rfl
          clear hw; have hw := hw2; clear hw2
          try simp only [Act.put, List.setIfInBounds_toArray, List.set_cons_zero, List.set_cons_succ]
          refine goes_take (t := [(13, [0, 1, 2, 3, 4, 5, 6, 7, 8, 9, 10, 11, 12])]) (es := [1, 3, 7, 9]) (zs := [13]) 8 (some 76) ?_ (by kernel_rfl) rfl rfl (by kernel_rfl) (fun _ _ _ h => h) (by kernel_rfl) ?_ hw (fun hw2 => ?_)
          rotate_left
          · intro wS hS; clear hS; go_simp <;> with_reducible rfl
          clear hw; have hw := hw2; clear hw2
          try simp only [Act.put, List.setIfInBounds_toArray, List.set_cons_zero, List.set_cons_succ]
          refine goes_take (t := [(13, [0, 1, 2, 3, 4, 5, 6, 7, 8, 9, 10, 11, 12])]) (es := [1, 3, 7, 9]) (zs := [13]) 9 (some 77) ?_ (by kernel_rfl) rfl rfl (by kernel_rfl) (fun _ _ _ h => h) (by kernel_rfl) ?_ hw (fun hw2 => ?_)
          rotate_left
          · intro wS hS; have hE := hS.2 rfl; clear hS; (try dsimp only at hE); go_simp <;> with_reducible rfl
          clear hw; have hw := hw2; clear hw2
          try simp only [Act.put, List.setIfInBounds_toArray, List.set_cons_zero, List.set_cons_succ]
          refine goes_step 10 rfl (by kernel_rfl) (by kernel_rfl) (fun K hK => ?_)
          go_simp
          refine hK.out _ _ ⟨trivial, fun _ => ⟨(HS.out.drew.alloc _).cell (i := 2) rfl, (HO.out.drew.alloc _).cell (i := 2) rfl, HE.out _ (HB.out.drew.alloc HB.out.drew.size _), (HD.out _ (HB.out.drew.alloc HB.out.drew.size _)).1, (HD.out _ (HB.out.drew.alloc HB.out.drew.size _)).2.1, (HD.out _ (HB.out.drew.alloc HB.out.drew.size _)).2.2.1, (HD.out _ (HB.out.drew.alloc HB.out.drew.size _)).2.2.2⟩⟩ (fun hw2 => ?_)
          clear hw hK K; have hw := hw2; clear hw2
          try simp only [Act.put, List.setIfInBounds_toArray, List.set_cons_zero, List.set_cons_succ]
          refine goes_step 11 rfl (by kernel_rfl) (by kernel_rfl) (fun K hK => ?_)
          refine wp_append_dot _ _ rfl (v0.heap.size + 1) (.slice A3 i c3) i (keptD ds (l.take i)) rfl (show (wK.drew.alloc (.cells #[.int .i64 d.x, .int .i64 d.y, .int .i64 d.t, .int .i64 d.p] 24)).ownsRow _ _ _ _ _ _ from HW.out.alloc _) wK.heap.size d rfl (Blk.new wK.drew 24 #[.int .i64 d.x, .int .i64 d.y, .int .i64 d.t, .int .i64 d.p]) HI3.out (by have := VO.out; simp; omega) ?_
          intro v2 w2 hown2 hgrow2
          obtain ⟨g2, c4, rfl, hg2⟩ := own_pos hown2
          have HG2 := Lib.hid hg2; have HW5 := Lib.hid hown2
          have HWA : Hid ((wK.drew.alloc (.cells #[.int .i64 d.x, .int .i64 d.y, .int .i64 d.t, .int .i64 d.p] 24)).ownsRow (v0.heap.size + 1) 24 4 (.slice A3 i c3) i (flat (keptD ds (l.take i)))) := Lib.hid (HW.out.alloc _)
          have HO5 := Lib.hid ((HO.out.drew.alloc _).only hgrow2 (Ne.symm (own_ne HWA.out (by omega)))); have HU5 := Lib.hid ((HU.out.drew.alloc _).only hgrow2 (Ne.symm (own_ne HWA.out (by have := LW.out; omega)))); have HS5 := Lib.hid ((HS.out.drew.alloc _).only hgrow2 (Ne.symm (own_ne HWA.out (by have := LW.out; omega))))
          have HB5 := Lib.hid ((HB.out.drew.alloc HB.out.drew.size _).grown hgrow2 (HB.out.drew.alloc HB.out.drew.size _).size (fun k hk => by have := own_base HWA.out k hk; have := LW.out; omega))
          clear hown2 hgrow2 hg2
          refine hK.out _ _ ⟨trivial, fun _ => ⟨HS5.out.cell (i := 2) rfl, HO5.out.cell (i := 2) rfl, HE.out _ HB5.out, (HD.out _ HB5.out).1, (HD.out _ HB5.out).2.1, (HD.out _ HB5.out).2.2.1, (HD.out _ HB5.out).2.2.2⟩⟩ (fun hw2 => ?_)
          clear hw hK K; have hw := hw2; clear hw2
          try simp only [Act.put, List.setIfInBounds_toArray]
          refine goes_take (t := [(13, [0, 1, 2, 3, 4, 5, 6, 7, 8, 9, 10, 11, 12])]) (es := [1, 3, 7, 9]) (zs := [13]) 12 (some 80) ?_ (by kernel_rfl) rfl rfl (by kernel_rfl) (fun _ _ _ h => h) (by kernel_rfl) ?_ hw (fun hw2 => ?_)
          rotate_left
          · intro wS hS; clear hS; go_simp <;> with_reducible rfl
          clear hw; have hw := hw2; clear hw2
          try simp only [Act.put]
          refine goes_late 13 rfl (by kernel_rfl) (by kernel_rfl) (by kernel_rfl) (fun _ => trivial) (fun K hK => ?_)
          have y0 := HO5.out.cell (i := 2) (v := .slice A3 i c3) rfl; have y1 := HO5.out.frozen 2
          go_simp
          refine hK.out _ _ ?_
          clear hK K
          try simp only [Act.put]
          refine Goes.done (by kernel_rfl) ?_ _
          have q5 : (i : Int) ≤ 9223372036854775806 := by have := HI3.out; omega
          go_wp2_with fail
          go_roundw
          case rel =>
            refine ⟨i + 1, .slice (some ⟨g2, 0, none⟩) (i + 1) c4, by first | rfl | go_num | simp, by have := HLT.out; omega, ?_, ?_, ?_, ?_, ?_, ?_⟩
            · intro j hj
              by_cases hji : j = i
              · rw [hji]; exact HOKI.out
              · exact HOKS.out j (by omega)
            · exact HS5.out.far (p := ⟨v0.heap.size, 2, none⟩) (by have := LW.out; show w.heap.size ≠ v0.heap.size; omega) _
            · exact HU5.out.far (p := ⟨v0.heap.size, 2, none⟩) (by have := LW.out; show w.heap.size + 1 ≠ v0.heap.size; omega) _
            · exact HO5.out.set 2 _
            · refine own_eq5 ?_ (by rw [HKD.out])
              exact own_far (p := ⟨v0.heap.size, 2, none⟩) HW5.out (own_ne HW5.out (by show v0.heap.size < v0.heap.size + 1; omega)) _
            · exact HB5.out.setCell (p := ⟨v0.heap.size, 2, none⟩) (by have := LW.out; show w.heap.size ≤ v0.heap.size; omega) _
          case measure => have := HLT.out; simp [intOf]; omega
theorem rkept_any (P N : Int) (ds : List Dt) (l : List Int) (A A2 : Option Addr) (c c2 : Nat) (w : World) (hA : Dz w A ds) (hA2 : Iz w A2 l) (hz : ds.length ≤ 9000000000000000000) (hz2 : l.length ≤ 9000000000000000000) :
    Calls Try.prog 27 #[.agg #[.int .i64 P, .int .i64 N, .slice A ds.length c], .slice A2 l.length c2] w (OutS (KeptP P N ds l) P N (keptD ds l) w) := by
  by_cases hv : Vd P N ds
  · by_cases h0 : l.length = 0
    · exact rkept_none P N ds l A A2 c c2 w hA hA2 hz hz2 hv h0
    · by_cases h1 : ds.length < l.length
      · exact rkept_long P N ds l A A2 c c2 w hA hA2 hz hz2 hv h1
      · exact rkept_go P N ds l A A2 c c2 w hA hA2 hz hz2 hv (by omega)
  · exact rkept_inv P N ds l A A2 c c2 w hA hA2 hz hz2 hv
end Go.Proofs.Ytamogfcedkjmcaa
