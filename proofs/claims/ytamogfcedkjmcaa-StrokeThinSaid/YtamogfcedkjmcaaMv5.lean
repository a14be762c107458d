
/- The contract of the reference's Moved. Conditions: the slices read. -/
import Derived.Test.YtamogfcedkjmcaaSt5
import Derived.Test.YtamogfcedkjmcaaOwn5
namespace Go.Proofs.Ytamogfcedkjmcaa
open Go.RowKit Go.Lib Go.Shelf

/-- A stroke of new dots has been returned, or none. -/
def OutS (ok : Prop) (P N : Int) (es : List Dt) (w : World) (e : Ending) (w' : World) : Prop :=
  ((ok ∧ ∃ v, e = .returned (.tuple #[.agg #[.int .i64 P, .int .i64 N, v], .int .i64 0]) ∧ w'.ownsRow w.heap.size 24 4 v es.length (flat es)) ∨
   (¬ ok ∧ e = .returned (.tuple #[.agg #[.int .i64 0, .int .i64 0, .slice none 0 0], .int .i64 50]))) ∧ Below w.heap.size w w'
theorem OutS.no {ok : Prop} {P N : Int} {es : List Dt} {w : World} {e : Ending} {w' : World} (h : ¬ ok) (he : e = .returned (.tuple #[.agg #[.int .i64 0, .int .i64 0, .slice none 0 0], .int .i64 50])) (hb : Below w.heap.size w w') : OutS ok P N es w e w' := ⟨Or.inr ⟨h, he⟩, hb⟩
theorem OutS.yes {ok : Prop} {P N : Int} {es : List Dt} {w : World} {e : Ending} {w' : World} {v : Value} {n : Nat} (h : ok) (he : e = .returned (.tuple #[.agg #[.int .i64 P, .int .i64 N, v], .int .i64 0])) (ho : w'.ownsRow w.heap.size 24 4 v n (flat es)) (hn : n = es.length) (hb : Below w.heap.size w w') : OutS ok P N es w e w' := ⟨Or.inl ⟨h, v, he, hn ▸ ho⟩, hb⟩
/-- A dot that is moved. -/
def mvd (x y : Int) (d : Dt) : Dt := ⟨d.x + x, d.y + y, d.t, d.p⟩
def MovP (P N : Int) (ds : List Dt) (x y : Int) : Prop := Vd P N ds ∧ ((-4095 ≤ x ∧ x ≤ 4095) ∧ (-4095 ≤ y ∧ y ≤ 4095)) ∧ ∀ d ∈ ds, OnP (d.x + x) (d.y + y)
set_option maxRecDepth 100000 in
set_option maxHeartbeats 8000000 in
theorem rmoved_inv (P N : Int) (ds : List Dt) (A : Option Addr) (c : Nat) (x y : Int) (w : World) (hA : Dz w A ds) (hz : ds.length ≤ 9000000000000000000) (hv : ¬ Vd P N ds) :
    Calls Try.prog 34 #[.agg #[.int .i64 P, .int .i64 N, .slice A ds.length c], .int .i64 x, .int .i64 y] w (OutS (MovP P N ds x y) P N (ds.map (mvd x y)) w) := by
  have HV := Lib.hid (fun W (hb : Below w.heap.size w W) => rvalid_not P N ds A c W (hA.below hb (Nat.le_refl _)) hz hv)
  have HNO : Hid (¬ MovP P N ds x y) := Lib.hid (fun h => hv h.1)
  clear hA hz hv
  have S_0 : Hid (Blk ((w.alloc (.cells #[.int .i64 P, .int .i64 N, .slice A ds.length c] 27)).alloc (.cells #[.int .i64 0, .int .i64 0, .slice none 0 0] 27)) w.heap.size 27 #[.int .i64 P, .int .i64 N, .slice A ds.length c]) := allocs_blk [(#[.int .i64 P, .int .i64 N, .slice A ds.length c], 27), (#[.int .i64 0, .int .i64 0, .slice none 0 0], 27)] w 0 _ rfl
  have U_0 : Hid (Blk ((w.alloc (.cells #[.int .i64 P, .int .i64 N, .slice A ds.length c] 27)).alloc (.cells #[.int .i64 0, .int .i64 0, .slice none 0 0] 27)) (w.heap.size + 1) 27 #[.int .i64 0, .int .i64 0, .slice none 0 0]) := allocs_blk [(#[.int .i64 P, .int .i64 N, .slice A ds.length c], 27), (#[.int .i64 0, .int .i64 0, .slice none 0 0], 27)] w 1 _ rfl
  have HB_0 : Hid (Below w.heap.size w ((w.alloc (.cells #[.int .i64 P, .int .i64 N, .slice A ds.length c] 27)).alloc (.cells #[.int .i64 0, .int .i64 0, .slice none 0 0] 27))) := allocs_below [(#[.int .i64 P, .int .i64 N, .slice A ds.length c], 27), (#[.int .i64 0, .int .i64 0, .slice none 0 0], 27)] w (Below.refl w.heap.size w) (Nat.le_refl _)
  go_enter Try.func34, Try.ntmps34
  have yy0 := S_0.out.cell (i := 0) (v := .int .i64 P) rfl; have yy1 := S_0.out.cell (i := 1) (v := .int .i64 N) rfl; have yy2 := S_0.out.cell (i := 2) (v := .slice A ds.length c) rfl
  go_wp2_with fail
  refine (HV.out _ HB_0.out).mono ?_
  rintro e v0 ⟨rfl, hb⟩
  clear yy0 yy1 yy2
  have S_1 : Hid (Blk v0 w.heap.size 27 #[.int .i64 P, .int .i64 N, .slice A ds.length c]) := Lib.hid (S_0.out.below hb S_0.out.lt)
  have U_1 : Hid (Blk v0 (w.heap.size + 1) 27 #[.int .i64 0, .int .i64 0, .slice none 0 0]) := Lib.hid (U_0.out.below hb U_0.out.lt)
  have HB_1 : Hid (Below w.heap.size w v0) := Lib.hid (HB_0.out.trans (hb.mono HB_0.out.size))
  clear hb S_0 U_0 HB_0
  have u0 := U_1.out.cell (i := 0) (v := .int .i64 0) rfl; have f0 := U_1.out.frozen 0; have u1 := U_1.out.cell (i := 1) (v := .int .i64 0) rfl; have f1 := U_1.out.frozen 1; have u2 := U_1.out.cell (i := 2) (v := .slice none 0 0) rfl; have f2 := U_1.out.frozen 2
  go_wp2_with fail
  clear u0 u1 u2 f0 f1 f2
  have HFU := Lib.hid (((U_1.out.set 0 (.int .i64 0)).set 1 (.int .i64 0)).set 2 (.slice none 0 0))
  have rU0 := HFU.out.cell (i := 0) (v := .int .i64 0) rfl
  have rU1 := HFU.out.cell (i := 1) (v := .int .i64 0) rfl
  have rU2 := HFU.out.cell (i := 2) (v := .slice none 0 0) rfl
  exact bodyPost_ret (v := .tuple #[.agg #[.int .i64 0, .int .i64 0, .slice none 0 0], .int .i64 50]) (by simp [results, Try.results34, go_sem, rU0, rU1, rU2]) rfl (OutS.no HNO.out rfl (((HB_1.out.setCell (p := ⟨(w.heap.size + 1), 0, none⟩) (by show w.heap.size ≤ (w.heap.size + 1); omega) (.int .i64 0)).setCell (p := ⟨(w.heap.size + 1), 1, none⟩) (by show w.heap.size ≤ (w.heap.size + 1); omega) (.int .i64 0)).setCell (p := ⟨(w.heap.size + 1), 2, none⟩) (by show w.heap.size ≤ (w.heap.size + 1); omega) (.slice none 0 0)))
set_option maxRecDepth 100000 in
set_option maxHeartbeats 8000000 in
theorem rmoved_far (P N : Int) (ds : List Dt) (A : Option Addr) (c : Nat) (x y : Int) (w : World) (hA : Dz w A ds) (hz : ds.length ≤ 9000000000000000000) (hv : Vd P N ds) (hr : ¬ ((-4095 ≤ x ∧ x ≤ 4095) ∧ (-4095 ≤ y ∧ y ≤ 4095))) :
    Calls Try.prog 34 #[.agg #[.int .i64 P, .int .i64 N, .slice A ds.length c], .int .i64 x, .int .i64 y] w (OutS (MovP P N ds x y) P N (ds.map (mvd x y)) w) := by
  have HV := Lib.hid (fun W (hb : Below w.heap.size w W) => rvalid_yes P N ds A c W (hA.below hb (Nat.le_refl _)) hz hv)
  have HNO : Hid (¬ MovP P N ds x y) := Lib.hid (fun h => hr h.2.1)
  clear hA hz hv
  have S_0 : Hid (Blk ((w.alloc (.cells #[.int .i64 P, .int .i64 N, .slice A ds.length c] 27)).alloc (.cells #[.int .i64 0, .int .i64 0, .slice none 0 0] 27)) w.heap.size 27 #[.int .i64 P, .int .i64 N, .slice A ds.length c]) := allocs_blk [(#[.int .i64 P, .int .i64 N, .slice A ds.length c], 27), (#[.int .i64 0, .int .i64 0, .slice none 0 0], 27)] w 0 _ rfl
  have U_0 : Hid (Blk ((w.alloc (.cells #[.int .i64 P, .int .i64 N, .slice A ds.length c] 27)).alloc (.cells #[.int .i64 0, .int .i64 0, .slice none 0 0] 27)) (w.heap.size + 1) 27 #[.int .i64 0, .int .i64 0, .slice none 0 0]) := allocs_blk [(#[.int .i64 P, .int .i64 N, .slice A ds.length c], 27), (#[.int .i64 0, .int .i64 0, .slice none 0 0], 27)] w 1 _ rfl
  have HB_0 : Hid (Below w.heap.size w ((w.alloc (.cells #[.int .i64 P, .int .i64 N, .slice A ds.length c] 27)).alloc (.cells #[.int .i64 0, .int .i64 0, .slice none 0 0] 27))) := allocs_below [(#[.int .i64 P, .int .i64 N, .slice A ds.length c], 27), (#[.int .i64 0, .int .i64 0, .slice none 0 0], 27)] w (Below.refl w.heap.size w) (Nat.le_refl _)
  by_cases h0 : -4095 ≤ x
  case neg =>
    have n0 : x < -4095 := by omega
    clear hr
    go_enter Try.func34, Try.ntmps34
    have yy0 := S_0.out.cell (i := 0) (v := .int .i64 P) rfl; have yy1 := S_0.out.cell (i := 1) (v := .int .i64 N) rfl; have yy2 := S_0.out.cell (i := 2) (v := .slice A ds.length c) rfl
    go_wp2_with fail
    refine (HV.out _ HB_0.out).mono ?_
    rintro e v0 ⟨rfl, hb⟩
    clear yy0 yy1 yy2
    have S_1 : Hid (Blk v0 w.heap.size 27 #[.int .i64 P, .int .i64 N, .slice A ds.length c]) := Lib.hid (S_0.out.below hb S_0.out.lt)
    have U_1 : Hid (Blk v0 (w.heap.size + 1) 27 #[.int .i64 0, .int .i64 0, .slice none 0 0]) := Lib.hid (U_0.out.below hb U_0.out.lt)
    have HB_1 : Hid (Below w.heap.size w v0) := Lib.hid (HB_0.out.trans (hb.mono HB_0.out.size))
    clear hb S_0 U_0 HB_0
    have u0 := U_1.out.cell (i := 0) (v := .int .i64 0) rfl; have f0 := U_1.out.frozen 0; have u1 := U_1.out.cell (i := 1) (v := .int .i64 0) rfl; have f1 := U_1.out.frozen 1; have u2 := U_1.out.cell (i := 2) (v := .slice none 0 0) rfl; have f2 := U_1.out.frozen 2
    go_wp2_with fail
    clear u0 u1 u2 f0 f1 f2
    have HFU := Lib.hid (((U_1.out.set 0 (.int .i64 0)).set 1 (.int .i64 0)).set 2 (.slice none 0 0))
    have rU0 := HFU.out.cell (i := 0) (v := .int .i64 0) rfl
    have rU1 := HFU.out.cell (i := 1) (v := .int .i64 0) rfl
    have rU2 := HFU.out.cell (i := 2) (v := .slice none 0 0) rfl
    exact bodyPost_ret (v := .tuple #[.agg #[.int .i64 0, .int .i64 0, .slice none 0 0], .int .i64 50]) (by simp [results, Try.results34, go_sem, rU0, rU1, rU2]) rfl (OutS.no HNO.out rfl (((HB_1.out.setCell (p := ⟨(w.heap.size + 1), 0, none⟩) (by show w.heap.size ≤ (w.heap.size + 1); omega) (.int .i64 0)).setCell (p := ⟨(w.heap.size + 1), 1, none⟩) (by show w.heap.size ≤ (w.heap.size + 1); omega) (.int .i64 0)).setCell (p := ⟨(w.heap.size + 1), 2, none⟩) (by show w.heap.size ≤ (w.heap.size + 1); omega) (.slice none 0 0)))
  case pos =>
    by_cases h1 : x ≤ 4095
    case neg =>
      have n1 : 4095 < x := by omega
      clear hr
      go_enter Try.func34, Try.ntmps34
      have yy0 := S_0.out.cell (i := 0) (v := .int .i64 P) rfl; have yy1 := S_0.out.cell (i := 1) (v := .int .i64 N) rfl; have yy2 := S_0.out.cell (i := 2) (v := .slice A ds.length c) rfl
      go_wp2_with fail
      refine (HV.out _ HB_0.out).mono ?_
      rintro e v0 ⟨rfl, hb⟩
      clear yy0 yy1 yy2
      have S_1 : Hid (Blk v0 w.heap.size 27 #[.int .i64 P, .int .i64 N, .slice A ds.length c]) := Lib.hid (S_0.out.below hb S_0.out.lt)
      have U_1 : Hid (Blk v0 (w.heap.size + 1) 27 #[.int .i64 0, .int .i64 0, .slice none 0 0]) := Lib.hid (U_0.out.below hb U_0.out.lt)
      have HB_1 : Hid (Below w.heap.size w v0) := Lib.hid (HB_0.out.trans (hb.mono HB_0.out.size))
      clear hb S_0 U_0 HB_0
      have u0 := U_1.out.cell (i := 0) (v := .int .i64 0) rfl; have f0 := U_1.out.frozen 0; have u1 := U_1.out.cell (i := 1) (v := .int .i64 0) rfl; have f1 := U_1.out.frozen 1; have u2 := U_1.out.cell (i := 2) (v := .slice none 0 0) rfl; have f2 := U_1.out.frozen 2
      go_wp2_with fail
      clear u0 u1 u2 f0 f1 f2
      have HFU := Lib.hid (((U_1.out.set 0 (.int .i64 0)).set 1 (.int .i64 0)).set 2 (.slice none 0 0))
      have rU0 := HFU.out.cell (i := 0) (v := .int .i64 0) rfl
      have rU1 := HFU.out.cell (i := 1) (v := .int .i64 0) rfl
      have rU2 := HFU.out.cell (i := 2) (v := .slice none 0 0) rfl
      exact bodyPost_ret (v := .tuple #[.agg #[.int .i64 0, .int .i64 0, .slice none 0 0], .int .i64 50]) (by simp [results, Try.results34, go_sem, rU0, rU1, rU2]) rfl (OutS.no HNO.out rfl (((HB_1.out.setCell (p := ⟨(w.heap.size + 1), 0, none⟩) (by show w.heap.size ≤ (w.heap.size + 1); omega) (.int .i64 0)).setCell (p := ⟨(w.heap.size + 1), 1, none⟩) (by show w.heap.size ≤ (w.heap.size + 1); omega) (.int .i64 0)).setCell (p := ⟨(w.heap.size + 1), 2, none⟩) (by show w.heap.size ≤ (w.heap.size + 1); omega) (.slice none 0 0)))
    case pos =>
      by_cases h2 : -4095 ≤ y
      case neg =>
        have n2 : y < -4095 := by omega
        clear hr
        go_enter Try.func34, Try.ntmps34
        have yy0 := S_0.out.cell (i := 0) (v := .int .i64 P) rfl; have yy1 := S_0.out.cell (i := 1) (v := .int .i64 N) rfl; have yy2 := S_0.out.cell (i := 2) (v := .slice A ds.length c) rfl
        go_wp2_with fail
        refine (HV.out _ HB_0.out).mono ?_
        rintro e v0 ⟨rfl, hb⟩
        clear yy0 yy1 yy2
        have S_1 : Hid (Blk v0 w.heap.size 27 #[.int .i64 P, .int .i64 N, .slice A ds.length c]) := Lib.hid (S_0.out.below hb S_0.out.lt)
        have U_1 : Hid (Blk v0 (w.heap.size + 1) 27 #[.int .i64 0, .int .i64 0, .slice none 0 0]) := Lib.hid (U_0.out.below hb U_0.out.lt)
        have HB_1 : Hid (Below w.heap.size w v0) := Lib.hid (HB_0.out.trans (hb.mono HB_0.out.size))
        clear hb S_0 U_0 HB_0
        have u0 := U_1.out.cell (i := 0) (v := .int .i64 0) rfl; have f0 := U_1.out.frozen 0; have u1 := U_1.out.cell (i := 1) (v := .int .i64 0) rfl; have f1 := U_1.out.frozen 1; have u2 := U_1.out.cell (i := 2) (v := .slice none 0 0) rfl; have f2 := U_1.out.frozen 2
        go_wp2_with fail
        clear u0 u1 u2 f0 f1 f2
        have HFU := Lib.hid (((U_1.out.set 0 (.int .i64 0)).set 1 (.int .i64 0)).set 2 (.slice none 0 0))
        have rU0 := HFU.out.cell (i := 0) (v := .int .i64 0) rfl
        have rU1 := HFU.out.cell (i := 1) (v := .int .i64 0) rfl
        have rU2 := HFU.out.cell (i := 2) (v := .slice none 0 0) rfl
        exact bodyPost_ret (v := .tuple #[.agg #[.int .i64 0, .int .i64 0, .slice none 0 0], .int .i64 50]) (by simp [results, Try.results34, go_sem, rU0, rU1, rU2]) rfl (OutS.no HNO.out rfl (((HB_1.out.setCell (p := ⟨(w.heap.size + 1), 0, none⟩) (by show w.heap.size ≤ (w.heap.size + 1); omega) (.int .i64 0)).setCell (p := ⟨(w.heap.size + 1), 1, none⟩) (by show w.heap.size ≤ (w.heap.size + 1); omega) (.int .i64 0)).setCell (p := ⟨(w.heap.size + 1), 2, none⟩) (by show w.heap.size ≤ (w.heap.size + 1); omega) (.slice none 0 0)))
      case pos =>
        by_cases h3 : y ≤ 4095
        case neg =>
          have n3 : 4095 < y := by omega
          clear hr
          go_enter Try.func34, Try.ntmps34
          have yy0 := S_0.out.cell (i := 0) (v := .int .i64 P) rfl; have yy1 := S_0.out.cell (i := 1) (v := .int .i64 N) rfl; have yy2 := S_0.out.cell (i := 2) (v := .slice A ds.length c) rfl
          go_wp2_with fail
          refine (HV.out _ HB_0.out).mono ?_
          rintro e v0 ⟨rfl, hb⟩
          clear yy0 yy1 yy2
          have S_1 : Hid (Blk v0 w.heap.size 27 #[.int .i64 P, .int .i64 N, .slice A ds.length c]) := Lib.hid (S_0.out.below hb S_0.out.lt)
          have U_1 : Hid (Blk v0 (w.heap.size + 1) 27 #[.int .i64 0, .int .i64 0, .slice none 0 0]) := Lib.hid (U_0.out.below hb U_0.out.lt)
          have HB_1 : Hid (Below w.heap.size w v0) := Lib.hid (HB_0.out.trans (hb.mono HB_0.out.size))
          clear hb S_0 U_0 HB_0
          have u0 := U_1.out.cell (i := 0) (v := .int .i64 0) rfl; have f0 := U_1.out.frozen 0; have u1 := U_1.out.cell (i := 1) (v := .int .i64 0) rfl; have f1 := U_1.out.frozen 1; have u2 := U_1.out.cell (i := 2) (v := .slice none 0 0) rfl; have f2 := U_1.out.frozen 2
          go_wp2_with fail
          clear u0 u1 u2 f0 f1 f2
          have HFU := Lib.hid (((U_1.out.set 0 (.int .i64 0)).set 1 (.int .i64 0)).set 2 (.slice none 0 0))
          have rU0 := HFU.out.cell (i := 0) (v := .int .i64 0) rfl
          have rU1 := HFU.out.cell (i := 1) (v := .int .i64 0) rfl
          have rU2 := HFU.out.cell (i := 2) (v := .slice none 0 0) rfl
          exact bodyPost_ret (v := .tuple #[.agg #[.int .i64 0, .int .i64 0, .slice none 0 0], .int .i64 50]) (by simp [results, Try.results34, go_sem, rU0, rU1, rU2]) rfl (OutS.no HNO.out rfl (((HB_1.out.setCell (p := ⟨(w.heap.size + 1), 0, none⟩) (by show w.heap.size ≤ (w.heap.size + 1); omega) (.int .i64 0)).setCell (p := ⟨(w.heap.size + 1), 1, none⟩) (by show w.heap.size ≤ (w.heap.size + 1); omega) (.int .i64 0)).setCell (p := ⟨(w.heap.size + 1), 2, none⟩) (by show w.heap.size ≤ (w.heap.size + 1); omega) (.slice none 0 0)))
        case pos =>
          exact absurd ⟨⟨h0, h1⟩, h2, h3⟩ hr
set_option maxRecDepth 100000 in
set_option maxHeartbeats 8000000 in
theorem rmoved_go (P N : Int) (ds : List Dt) (A : Option Addr) (c : Nat) (x y : Int) (w : World) (hA : Dz w A ds) (hz : ds.length ≤ 9000000000000000000) (hv : Vd P N ds) (hr : (-4095 ≤ x ∧ x ≤ 4095) ∧ (-4095 ≤ y ∧ y ≤ 4095)) :
    Calls Try.prog 34 #[.agg #[.int .i64 P, .int .i64 N, .slice A ds.length c], .int .i64 x, .int .i64 y] w (OutS (MovP P N ds x y) P N (ds.map (mvd x y)) w) := by
  have hl := hv.2.2.1
  obtain ⟨b, o, rfl⟩ := hA.some (by omega)
  have HAT := Lib.hid hA.at
  have HV := Lib.hid (fun W (hb : Below w.heap.size w W) => rvalid_yes P N ds _ c W (hA.below hb (Nat.le_refl _)) hz hv)
  have HOK := Lib.hid hv.mem
  have HSP : Hid (MovP P N ds x y ↔ ∀ d ∈ ds, OnP (d.x + x) (d.y + y)) := Lib.hid ⟨fun h => h.2.2, fun h => ⟨hv, hr, h⟩⟩
  have HLN := Lib.hid hl; have HR := Lib.hid hr
  have n0 : ¬ x < -4095 := by omega
  have n1 : ¬ 4095 < x := by omega
  have n2 : ¬ y < -4095 := by omega
  have n3 : ¬ 4095 < y := by omega
  clear hA hz hv hl hr
  have S_0 : Hid (Blk ((w.alloc (.cells #[.int .i64 P, .int .i64 N, .slice (some ⟨b, o, none⟩) ds.length c] 27)).alloc (.cells #[.int .i64 0, .int .i64 0, .slice none 0 0] 27)) w.heap.size 27 #[.int .i64 P, .int .i64 N, .slice (some ⟨b, o, none⟩) ds.length c]) := allocs_blk [(#[.int .i64 P, .int .i64 N, .slice (some ⟨b, o, none⟩) ds.length c], 27), (#[.int .i64 0, .int .i64 0, .slice none 0 0], 27)] w 0 _ rfl
  have U_0 : Hid (Blk ((w.alloc (.cells #[.int .i64 P, .int .i64 N, .slice (some ⟨b, o, none⟩) ds.length c] 27)).alloc (.cells #[.int .i64 0, .int .i64 0, .slice none 0 0] 27)) (w.heap.size + 1) 27 #[.int .i64 0, .int .i64 0, .slice none 0 0]) := allocs_blk [(#[.int .i64 P, .int .i64 N, .slice (some ⟨b, o, none⟩) ds.length c], 27), (#[.int .i64 0, .int .i64 0, .slice none 0 0], 27)] w 1 _ rfl
  have HB_0 : Hid (Below w.heap.size w ((w.alloc (.cells #[.int .i64 P, .int .i64 N, .slice (some ⟨b, o, none⟩) ds.length c] 27)).alloc (.cells #[.int .i64 0, .int .i64 0, .slice none 0 0] 27))) := allocs_below [(#[.int .i64 P, .int .i64 N, .slice (some ⟨b, o, none⟩) ds.length c], 27), (#[.int .i64 0, .int .i64 0, .slice none 0 0], 27)] w (Below.refl w.heap.size w) (Nat.le_refl _)
  go_enter Try.func34, Try.ntmps34
  have yy0 := S_0.out.cell (i := 0) (v := .int .i64 P) rfl; have yy1 := S_0.out.cell (i := 1) (v := .int .i64 N) rfl; have yy2 := S_0.out.cell (i := 2) (v := .slice (some ⟨b, o, none⟩) ds.length c) rfl
  go_wp2_with fail
  refine (HV.out _ HB_0.out).mono ?_
  rintro e v0 ⟨rfl, hb⟩
  have LW : Hid (w.heap.size + 1 < v0.heap.size) := Lib.hid (U_0.out.below hb U_0.out.lt).lt
  have SV0 := Lib.hid (S_0.out.below hb S_0.out.lt)
  have s0 := SV0.out.cell (i := 0) (v := .int .i64 P) rfl
  have s1 := SV0.out.cell (i := 1) (v := .int .i64 N) rfl
  have s2 := SV0.out.cell (i := 2) (v := .slice (some ⟨b, o, none⟩) ds.length c) rfl
  clear yy0 yy1 yy2
  have S_1 : Hid (Blk (v0.alloc (.cells #[.int .i64 P, .int .i64 N, .slice none 0 0] 27)) w.heap.size 27 #[.int .i64 P, .int .i64 N, .slice (some ⟨b, o, none⟩) ds.length c]) := Lib.hid (allocs_keep [(#[.int .i64 P, .int .i64 N, .slice none 0 0], 27)] _ (S_0.out.below hb S_0.out.lt))
  have U_1 : Hid (Blk (v0.alloc (.cells #[.int .i64 P, .int .i64 N, .slice none 0 0] 27)) (w.heap.size + 1) 27 #[.int .i64 0, .int .i64 0, .slice none 0 0]) := Lib.hid (allocs_keep [(#[.int .i64 P, .int .i64 N, .slice none 0 0], 27)] _ (U_0.out.below hb U_0.out.lt))
  have HB_1 : Hid (Below w.heap.size w (v0.alloc (.cells #[.int .i64 P, .int .i64 N, .slice none 0 0] 27))) := Lib.hid (allocs_below [(#[.int .i64 P, .int .i64 N, .slice none 0 0], 27)] _ (HB_0.out.trans (hb.mono HB_0.out.size)) (HB_0.out.trans (hb.mono HB_0.out.size)).size)
  have O_1 : Hid (Blk (v0.alloc (.cells #[.int .i64 P, .int .i64 N, .slice none 0 0] 27)) v0.heap.size 27 #[.int .i64 P, .int .i64 N, .slice none 0 0]) := Lib.hid (allocs_blk [(#[.int .i64 P, .int .i64 N, .slice none 0 0], 27)] v0 0 _ rfl)
  clear hb S_0 U_0 HB_0
  have HOWN : Hid ((v0.alloc (.cells #[.int .i64 P, .int .i64 N, .slice none 0 0] 27)).ownsRow (v0.heap.size + 1) 24 4 (.slice none 0 0) 0 (flat ((ds.take 0).map (mvd x y)))) := Lib.hid (own_none _ _)
  have yS := S_1.out.cell (i := 2) (v := .slice (some ⟨b, o, none⟩) ds.length c) rfl
  go_wp2_with fail
  clear s0 s1 s2 n0 n1 n2 n3 yS
  go_loopw [9] (fun ii wr => ∃ (i : Nat) (v : Value), ii = .int .i64 i ∧ i ≤ ds.length ∧ (∀ d ∈ ds.take i, OnP (d.x + x) (d.y + y)) ∧ Blk wr w.heap.size 27 #[.int .i64 P, .int .i64 N, .slice (some ⟨b, o, none⟩) ds.length c] ∧ Blk wr (w.heap.size + 1) 27 #[.int .i64 0, .int .i64 0, .slice none 0 0] ∧ Blk wr v0.heap.size 27 #[.int .i64 P, .int .i64 N, v] ∧ wr.ownsRow (v0.heap.size + 1) 24 4 v i (flat ((ds.take i).map (mvd x y))) ∧ Below w.heap.size w wr) (fun ii _ => ds.length - (intOf ii).toNat)
  case atStart => exact ⟨0, _, rfl, Nat.zero_le _, fun d hd => by simp at hd, S_1.out, U_1.out, O_1.out, HOWN.out, HB_1.out⟩
  case round =>
    obtain ⟨i, v, rfl, hi, hon, hS, hU, hO, hW, hB⟩ := hrel
    clear S_1 U_1 O_1 HOWN HB_1 SV0
    have HS := Lib.hid hS; have HU := Lib.hid hU; have HO := Lib.hid hO; have HW := Lib.hid hW; have HB := Lib.hid hB; have HON := Lib.hid hon; have HI := Lib.hid hi
    clear hS hU hO hW hB hon hi
    have yS := HS.out.cell (i := 2) (v := .slice (some ⟨b, o, none⟩) ds.length c) rfl
    have VO : Hid (v0.heap.size < wr.heap.size) := Lib.hid HO.out.lt
    obtain ⟨A2, c2, hve⟩ : ∃ A2 c2, v = .slice A2 i c2 := by
      obtain ⟨h1, A2, c2, h2, -⟩ := Dz.of_own HW.out
      exact ⟨A2, c2, by rw [h2, ← h1]⟩
    subst hve
    by_cases hlt : i < ds.length
    case neg =>
      have hni : ¬ ((i : Int) < (ds.length : Int)) := by omega
      have hie : i = ds.length := by have := HI.out; omega
      have HTK : Hid (ds.take i = ds) := Lib.hid (by rw [hie]; exact List.take_length)
      have HYES : Hid (MovP P N ds x y) := Lib.hid (HSP.out.2 (by have h := HON.out; rw [HTK.out] at h; exact h))
      have HIE : Hid (i = (ds.map (mvd x y)).length) := Lib.hid (by rw [List.length_map]; exact hie)
      clear hie hlt
      have o0 := HO.out.cell (i := 0) (v := .int .i64 P) rfl; have o1 := HO.out.cell (i := 1) (v := .int .i64 N) rfl; have o2 := HO.out.cell (i := 2) (v := .slice A2 i c2) rfl
      have u0 := HU.out.cell (i := 0) (v := .int .i64 0) rfl; have f0 := HU.out.frozen 0; have u1 := HU.out.cell (i := 1) (v := .int .i64 0) rfl; have f1 := HU.out.frozen 1; have u2 := HU.out.cell (i := 2) (v := .slice none 0 0) rfl; have f2 := HU.out.frozen 2
      go_wp2_with fail
      clear u0 u1 u2 f0 f1 f2 o0 o1 o2
      have HFU := Lib.hid (((HU.out.set 0 (.int .i64 P)).set 1 (.int .i64 N)).set 2 (.slice A2 i c2))
      have rU0 := HFU.out.cell (i := 0) (v := .int .i64 P) rfl
      have rU1 := HFU.out.cell (i := 1) (v := .int .i64 N) rfl
      have rU2 := HFU.out.cell (i := 2) (v := .slice A2 i c2) rfl
      exact bodyPost_ret (v := .tuple #[.agg #[.int .i64 P, .int .i64 N, .slice A2 i c2], .int .i64 0]) (by simp [results, Try.results34, go_sem, rU0, rU1, rU2]) rfl (OutS.yes HYES.out rfl (HTK.out ▸ own_base_le (own_far (p := ⟨w.heap.size + 1, 2, none⟩) (own_far (p := ⟨w.heap.size + 1, 1, none⟩) (own_far (p := ⟨w.heap.size + 1, 0, none⟩) HW.out (own_ne HW.out (by have := LW.out; show w.heap.size + 1 < v0.heap.size + 1; omega)) (.int .i64 P)) (own_ne HW.out (by have := LW.out; show w.heap.size + 1 < v0.heap.size + 1; omega)) (.int .i64 N)) (own_ne HW.out (by have := LW.out; show w.heap.size + 1 < v0.heap.size + 1; omega)) (.slice A2 i c2)) (by have := LW.out; omega)) HIE.out (((HB.out.setCell (p := ⟨(w.heap.size + 1), 0, none⟩) (by show w.heap.size ≤ (w.heap.size + 1); omega) (.int .i64 P)).setCell (p := ⟨(w.heap.size + 1), 1, none⟩) (by show w.heap.size ≤ (w.heap.size + 1); omega) (.int .i64 N)).setCell (p := ⟨(w.heap.size + 1), 2, none⟩) (by show w.heap.size ≤ (w.heap.size + 1); omega) (.slice A2 i c2)))
    case pos =>
      obtain ⟨d, hd⟩ : ∃ d, d = ds[i] := ⟨_, rfl⟩
      have hD := fun W hb => HAT.out W hb i hlt
      rw [← hd] at hD
      obtain ⟨k0, k1, k2, k3⟩ := hD wr HB.out
      have HTK : Hid (ds.take (i + 1) = ds.take i ++ [d]) := Lib.hid (by rw [hd]; exact List.take_succ_eq_append_getElem hlt)
      have HMEM : Hid (d ∈ ds) := Lib.hid (by rw [hd]; exact List.getElem_mem _)
      have HLT := Lib.hid hlt
      have q1 : (0 : Int) ≤ (i : Int) := by omega
      have q2 : (i : Int) < (ds.length : Int) := by omega
      have hdk := HOK.out d HMEM.out
      unfold Dt.ok at hdk
      have hr := HR.out
      have a1 : IntKind.i64.wrap (d.x + x) = d.x + x := IntWalk.i64_in _ (by omega)
      have a2 : IntKind.i64.wrap (d.y + y) = d.y + y := IntWalk.i64_in _ (by omega)
      clear hD hd hlt hdk hr
      have HN0 := Lib.hid (Blk.new wr 24 #[.int .i64 d.x, .int .i64 d.y, .int .i64 d.t, .int .i64 d.p])
      have HN1 := Lib.hid (Blk.new wr 24 #[.int .i64 (d.x + x), .int .i64 d.y, .int .i64 d.t, .int .i64 d.p])
      have HN2 := Lib.hid (Blk.new wr 24 #[.int .i64 (d.x + x), .int .i64 (d.y + y), .int .i64 d.t, .int .i64 d.p])
      have g0 := HN0.out.cell (i := 0) (v := .int .i64 d.x) rfl; have e0 := HN0.out.frozen 0
      have g1 := HN1.out.cell (i := 1) (v := .int .i64 d.y) rfl; have e1 := HN1.out.frozen 1
      have z0 := HN2.out.cell (i := 0) (v := .int .i64 (d.x + x)) rfl; have z1 := HN2.out.cell (i := 1) (v := .int .i64 (d.y + y)) rfl; have z2 := HN2.out.cell (i := 2) (v := .int .i64 d.t) rfl; have z3 := HN2.out.cell (i := 3) (v := .int .i64 d.p) rfl
      go_wp2_with fail
      refine (rat_any _ _ _ _ _).mono ?_
      rintro e wq ⟨rfl, hq⟩
      clear k0 k1 k2 k3 g0 e0 g1 e1 z0 z1 z2 z3 a1 a2 yS
      have HY : Hid (Below (wr.alloc (.cells #[.int .i64 (d.x + x), .int .i64 (d.y + y), .int .i64 d.t, .int .i64 d.p] 24)).heap.size (wr.alloc (.cells #[.int .i64 (d.x + x), .int .i64 (d.y + y), .int .i64 d.t, .int .i64 d.p] 24)) wq) := Lib.hid hq
      clear hq
      by_cases hon : OnP (d.x + x) (d.y + y)
      case neg =>
        have HONN := Lib.hid hon; clear hon
        have HNO : Hid (¬ MovP P N ds x y) := Lib.hid (fun h => HONN.out (HSP.out.1 h d HMEM.out))
        go_wp2_with fail
        refine (rplace_N _ _ _ HONN.out).mono ?_
        rintro e wp ⟨rfl, hq⟩
        have HY2 := Lib.hid (HY.out.trans (hq.mono HY.out.size)); clear hq
        have HD3 := Lib.hid (HN2.out.below HY2.out HN2.out.lt)
        have HU3 := Lib.hid ((HU.out.alloc _).below HY2.out (HU.out.alloc _).lt)
        have HO3 := Lib.hid ((HO.out.alloc _).below HY2.out (HO.out.alloc _).lt)
        have HS3 := Lib.hid ((HS.out.alloc _).below HY2.out (HS.out.alloc _).lt)
        have HB3 := Lib.hid ((HB.out.alloc HB.out.size _).trans (HY2.out.mono (HB.out.alloc HB.out.size _).size))
        have HW3 := Lib.hid (own_below (HW.out.alloc _) HY2.out)
        have VP : Hid (wr.heap.size < wp.heap.size) := Lib.hid HD3.out.lt
        clear HS HU HO HW HB HN0 HN1 HN2 HY
        have u0 := HU3.out.cell (i := 0) (v := .int .i64 0) rfl; have f0 := HU3.out.frozen 0; have u1 := HU3.out.cell (i := 1) (v := .int .i64 0) rfl; have f1 := HU3.out.frozen 1; have u2 := HU3.out.cell (i := 2) (v := .slice none 0 0) rfl; have f2 := HU3.out.frozen 2
        go_wp2_with fail
        clear u0 u1 u2 f0 f1 f2
        have HFU := Lib.hid (((HU3.out.set 0 (.int .i64 0)).set 1 (.int .i64 0)).set 2 (.slice none 0 0))
        have rU0 := HFU.out.cell (i := 0) (v := .int .i64 0) rfl
        have rU1 := HFU.out.cell (i := 1) (v := .int .i64 0) rfl
        have rU2 := HFU.out.cell (i := 2) (v := .slice none 0 0) rfl
        exact bodyPost_ret (v := .tuple #[.agg #[.int .i64 0, .int .i64 0, .slice none 0 0], .int .i64 50]) (by simp [results, Try.results34, go_sem, rU0, rU1, rU2]) rfl (OutS.no HNO.out rfl (((HB3.out.setCell (p := ⟨(w.heap.size + 1), 0, none⟩) (by show w.heap.size ≤ (w.heap.size + 1); omega) (.int .i64 0)).setCell (p := ⟨(w.heap.size + 1), 1, none⟩) (by show w.heap.size ≤ (w.heap.size + 1); omega) (.int .i64 0)).setCell (p := ⟨(w.heap.size + 1), 2, none⟩) (by show w.heap.size ≤ (w.heap.size + 1); omega) (.slice none 0 0)))
      case pos =>
        have HONN := Lib.hid hon; clear hon
        go_wp2_with fail
        refine (rplace_P _ _ _ HONN.out).mono ?_
        rintro e wp ⟨rfl, hq⟩
        have HY2 := Lib.hid (HY.out.trans (hq.mono HY.out.size)); clear hq
        have HD3 := Lib.hid (HN2.out.below HY2.out HN2.out.lt)
        have HU3 := Lib.hid ((HU.out.alloc _).below HY2.out (HU.out.alloc _).lt)
        have HO3 := Lib.hid ((HO.out.alloc _).below HY2.out (HO.out.alloc _).lt)
        have HS3 := Lib.hid ((HS.out.alloc _).below HY2.out (HS.out.alloc _).lt)
        have HB3 := Lib.hid ((HB.out.alloc HB.out.size _).trans (HY2.out.mono (HB.out.alloc HB.out.size _).size))
        have HW3 := Lib.hid (own_below (HW.out.alloc _) HY2.out)
        have VP : Hid (wr.heap.size < wp.heap.size) := Lib.hid HD3.out.lt
        clear HS HU HO HW HB HN0 HN1 HN2 HY
        have HN4 := Lib.hid (Blk.new wp 24 #[.int .i64 (d.x + x), .int .i64 (d.y + y), .int .i64 d.t, .int .i64 d.p])
        have q5 : (i : Int) + 1 ≤ 9223372036854775807 := by have := HLT.out; have := HLN.out; omega
        have HI2 : Hid (i ≤ 1000000) := Lib.hid (by have := HLT.out; have := HLN.out; omega)
        have z0 := HD3.out.cell (i := 0) (v := .int .i64 (d.x + x)) rfl; have z1 := HD3.out.cell (i := 1) (v := .int .i64 (d.y + y)) rfl; have z2 := HD3.out.cell (i := 2) (v := .int .i64 d.t) rfl; have z3 := HD3.out.cell (i := 3) (v := .int .i64 d.p) rfl
        have y2 := HO3.out.cell (i := 2) (v := .slice A2 i c2) rfl
        go_wp2_with (at_builtin; go_loud (refine wpList_append_dot rfl _ _ rfl (v0.heap.size + 1) (.slice A2 i c2) i ((ds.take i).map (mvd x y)) rfl (HW3.out.alloc _) wp.heap.size (mvd x y d) rfl HN4.out HI2.out (by have := VO.out; have := VP.out; simp; omega) ?_; intro v2 w2 hown2 hgrow2; obtain ⟨g2, c3, rfl, hg2⟩ := own_pos hown2; have HG2 := Lib.hid hg2; have HW4 := Lib.hid hown2; have HO4 := Lib.hid ((HO3.out.alloc _).only hgrow2 (Ne.symm (own_ne HW3.out (by omega)))); have HU4 := Lib.hid ((HU3.out.alloc _).only hgrow2 (Ne.symm (own_ne HW3.out (by have := LW.out; omega)))); have HS4 := Lib.hid ((HS3.out.alloc _).only hgrow2 (Ne.symm (own_ne HW3.out (by have := LW.out; omega)))); have HB4 := Lib.hid ((HB3.out.alloc HB3.out.size _).grown hgrow2 (HB3.out.alloc HB3.out.size _).size (fun k hk => by have := own_base HW3.out k hk; have := LW.out; omega)); have yy0 := HO4.out.cell (i := 2) (v := .slice A2 i c2) rfl; have yy1 := HO4.out.frozen 2; have yS := HS4.out.cell (i := 2) (v := .slice (some ⟨b, o, none⟩) ds.length c) rfl; clear hown2 hgrow2 hg2 z0 z1 z2 z3 y2; skip))
        refine ⟨⟨i + 1, .slice (some ⟨g2, 0, none⟩) (i + 1) c3, by simp, by have := HLT.out; omega, ?_, ?_, ?_, ?_, ?_, ?_⟩, ?_⟩
        · intro d2 hd2
          rw [HTK.out, List.mem_append, List.mem_singleton] at hd2
          rcases hd2 with h | rfl
          · exact HON.out d2 h
          · exact HONN.out
        · exact HS4.out.far (p := ⟨v0.heap.size, 2, none⟩) (by have := LW.out; show w.heap.size ≠ v0.heap.size; omega) _
        · exact HU4.out.far (p := ⟨v0.heap.size, 2, none⟩) (by have := LW.out; show w.heap.size + 1 ≠ v0.heap.size; omega) _
        · exact HO4.out.set 2 _
        · rw [HTK.out, List.map_append]
          exact own_far (p := ⟨v0.heap.size, 2, none⟩) HW4.out (own_ne HW4.out (by show v0.heap.size < v0.heap.size + 1; omega)) _
        · exact HB4.out.setCell (p := ⟨v0.heap.size, 2, none⟩) (by have := LW.out; show w.heap.size ≤ v0.heap.size; omega) _
        · have := HLT.out; simp [intOf]; omega
theorem rmoved_any (P N : Int) (ds : List Dt) (A : Option Addr) (c : Nat) (x y : Int) (w : World) (hA : Dz w A ds) (hz : ds.length ≤ 9000000000000000000) :
    Calls Try.prog 34 #[.agg #[.int .i64 P, .int .i64 N, .slice A ds.length c], .int .i64 x, .int .i64 y] w (OutS (MovP P N ds x y) P N (ds.map (mvd x y)) w) := by
  by_cases hv : Vd P N ds
  · by_cases hr : (-4095 ≤ x ∧ x ≤ 4095) ∧ (-4095 ≤ y ∧ y ≤ 4095)
    · exact rmoved_go P N ds A c x y w hA hz hv hr
    · exact rmoved_far P N ds A c x y w hA hz hv hr
  · exact rmoved_inv P N ds A c x y w hA hz hv
end Go.Proofs.Ytamogfcedkjmcaa
