
/- The contract of the reference's Box. Conditions: the slices read. -/
import Derived.Test.YtamogfcedkjmcaaSt5
import Derived.Test.YtamogfcedkjmcaaGoes
namespace Go.Proofs.Ytamogfcedkjmcaa
open Go.RowKit Go.Lib Go.Shelf

/-- The least of the first i. -/
def LoP (f : Dt → Int) (ds : List Dt) (i : Nat) (v : Int) : Prop := (∀ j d, j < i → ds[j]? = some d → v ≤ f d) ∧ (i = 0 ∧ v = 5000 ∨ ∃ j d, j < i ∧ ds[j]? = some d ∧ f d = v)
/-- By how much the first i are greater. -/
def HiP (f : Dt → Int) (ds : List Dt) (b : Int) (i : Nat) (v : Int) : Prop := (∀ j d, j < i → ds[j]? = some d → f d - b ≤ v) ∧ 0 ≤ v ∧ (v = 0 ∨ ∃ j d, j < i ∧ ds[j]? = some d ∧ f d - b = v)
theorem LoP.step {f : Dt → Int} {ds : List Dt} {i : Nat} {v u : Int} {d : Dt} (h : LoP f ds i v) (hd : ds[i]? = some d) (h5 : f d ≤ 4095) (hu : u = if f d < v then f d else v) : LoP f ds (i + 1) u := by
  refine ⟨fun j e hj he => ?_, Or.inr ?_⟩
  · by_cases hji : j = i
    · subst hji
      rw [hd, Option.some.injEq] at he
      subst he; rw [hu]; split <;> omega
    · have := h.1 j e (by omega) he
      rw [hu]; split <;> omega
  · by_cases hc : f d < v
    · exact ⟨i, d, by omega, hd, by rw [hu, if_pos hc]⟩
    · rcases h.2 with ⟨h0, h1⟩ | ⟨j, e, hj, he, hv⟩
      · omega
      · exact ⟨j, e, by omega, he, by rw [hu, if_neg hc, hv]⟩
theorem HiP.step {f : Dt → Int} {ds : List Dt} {i : Nat} {b v u : Int} {d : Dt} (h : HiP f ds b i v) (hd : ds[i]? = some d) (hu : u = if v < f d - b then f d - b else v) : HiP f ds b (i + 1) u := by
  refine ⟨fun j e hj he => ?_, by have := h.2.1; rw [hu]; split <;> omega, ?_⟩
  · by_cases hji : j = i
    · subst hji
      rw [hd, Option.some.injEq] at he
      subst he; rw [hu]; split <;> omega
    · have := h.1 j e (by omega) he
      rw [hu]; split <;> omega
  · by_cases hc : v < f d - b
    · exact Or.inr ⟨i, d, by omega, hd, by rw [hu, if_pos hc]⟩
    · rcases h.2.2 with h0 | ⟨j, e, hj, he, hv⟩
      · exact Or.inl (by rw [hu, if_neg hc, h0])
      · exact Or.inr ⟨j, e, by omega, he, by rw [hu, if_neg hc, hv]⟩
/-- The least rectangle around the dots. -/
def IsBox (ds : List Dt) (x y w h : Int) : Prop := (∀ d ∈ ds, (x ≤ d.x ∧ d.x ≤ x + w) ∧ (y ≤ d.y ∧ d.y ≤ y + h)) ∧ (∃ d ∈ ds, d.x = x) ∧ (∃ d ∈ ds, d.x = x + w) ∧ (∃ d ∈ ds, d.y = y) ∧ (∃ d ∈ ds, d.y = y + h)
theorem isBox_of {ds : List Dt} {x y w h : Int} (hn : 1 ≤ ds.length) (h1 : LoP Dt.x ds ds.length x) (h2 : LoP Dt.y ds ds.length y) (h3 : HiP Dt.x ds x ds.length w) (h4 : HiP Dt.y ds y ds.length h) : IsBox ds x y w h := by
  have lo : ∀ (f : Dt → Int) v, LoP f ds ds.length v → ∃ d ∈ ds, f d = v := fun f v hv => by
    rcases hv.2 with ⟨h0, _⟩ | ⟨j, d, _, hd, he⟩
    · omega
    · exact ⟨d, List.mem_of_getElem? hd, he⟩
  have hi : ∀ (f : Dt → Int) b v, LoP f ds ds.length b → HiP f ds b ds.length v → ∃ d ∈ ds, f d = b + v := fun f b v hb hv => by
    rcases hv.2.2 with h0 | ⟨j, d, _, hd, he⟩
    · obtain ⟨d, hd, he⟩ := lo f b hb
      exact ⟨d, hd, by omega⟩
    · exact ⟨d, List.mem_of_getElem? hd, by omega⟩
  refine ⟨fun d hd => ?_, lo _ _ h1, hi _ _ _ h1 h3, lo _ _ h2, hi _ _ _ h2 h4⟩
  obtain ⟨j, hj, rfl⟩ := List.getElem_of_mem hd
  have a1 := h1.1 j _ hj (List.getElem?_eq_getElem hj); have a2 := h2.1 j _ hj (List.getElem?_eq_getElem hj)
  have a3 := h3.1 j _ hj (List.getElem?_eq_getElem hj); have a4 := h4.1 j _ hj (List.getElem?_eq_getElem hj)
  exact ⟨⟨a1, by omega⟩, a2, by omega⟩
theorem lo_bd {ds : List Dt} {i : Nat} {v : Int} (h : ∀ d ∈ ds, d.ok) (hl : LoP Dt.x ds i v) : -5000 ≤ v ∧ v ≤ 5000 := by
  rcases hl.2 with ⟨_, h0⟩ | ⟨j, d, _, hd, he⟩
  · omega
  · have := (h d (List.mem_of_getElem? hd)).1; omega
theorem lo_bd2 {ds : List Dt} {i : Nat} {v : Int} (h : ∀ d ∈ ds, d.ok) (hl : LoP Dt.y ds i v) : -5000 ≤ v ∧ v ≤ 5000 := by
  rcases hl.2 with ⟨_, h0⟩ | ⟨j, d, _, hd, he⟩
  · omega
  · have := (h d (List.mem_of_getElem? hd)).1; omega
theorem IsBox.unique {ds : List Dt} {x y w h x2 y2 w2 h2 : Int} (a : IsBox ds x y w h) (b : IsBox ds x2 y2 w2 h2) : x = x2 ∧ y = y2 ∧ w = w2 ∧ h = h2 := by
  obtain ⟨a0, ⟨d1, m1, e1⟩, ⟨d2, m2, e2⟩, ⟨d3, m3, e3⟩, ⟨d4, m4, e4⟩⟩ := a
  obtain ⟨b0, ⟨f1, n1, g1⟩, ⟨f2, n2, g2⟩, ⟨f3, n3, g3⟩, ⟨f4, n4, g4⟩⟩ := b
  have := b0 _ m1; have := b0 _ m2; have := b0 _ m3; have := b0 _ m4
  have := a0 _ n1; have := a0 _ n2; have := a0 _ n3; have := a0 _ n4
  omega
set_option maxRecDepth 100000 in
set_option maxHeartbeats 8000000 in
theorem rbox_no (P N : Int) (ds : List Dt) (A : Option Addr) (c : Nat) (w : World) (hA : Dz w A ds) (hz : ds.length ≤ 9000000000000000000) (hv : ¬ Vd P N ds) :
    Calls Try.prog 15 #[.agg #[.int .i64 P, .int .i64 N, .slice A ds.length c]] w fun e w' => e = .returned (.tuple #[.agg #[.int .i64 0, .int .i64 0, .int .i64 0, .int .i64 0], .int .i64 50]) ∧ Below w.heap.size w w' := by
  have HV := Lib.hid (fun W (hb : Below w.heap.size w W) => rvalid_not P N ds A c W (hA.below hb (Nat.le_refl _)) hz hv)
  clear hA hz hv
  have S_0 : Hid (Blk ((w.alloc (.cells #[.int .i64 P, .int .i64 N, .slice A ds.length c] 27)).alloc (.cells #[.int .i64 0, .int .i64 0, .int .i64 0, .int .i64 0] 40)) w.heap.size 27 #[.int .i64 P, .int .i64 N, .slice A ds.length c]) := allocs_blk [(#[.int .i64 P, .int .i64 N, .slice A ds.length c], 27), (#[.int .i64 0, .int .i64 0, .int .i64 0, .int .i64 0], 40)] w 0 _ rfl
  have U_0 : Hid (Blk ((w.alloc (.cells #[.int .i64 P, .int .i64 N, .slice A ds.length c] 27)).alloc (.cells #[.int .i64 0, .int .i64 0, .int .i64 0, .int .i64 0] 40)) (w.heap.size + 1) 40 #[.int .i64 0, .int .i64 0, .int .i64 0, .int .i64 0]) := allocs_blk [(#[.int .i64 P, .int .i64 N, .slice A ds.length c], 27), (#[.int .i64 0, .int .i64 0, .int .i64 0, .int .i64 0], 40)] w 1 _ rfl
  have HB_0 : Hid (Below w.heap.size w ((w.alloc (.cells #[.int .i64 P, .int .i64 N, .slice A ds.length c] 27)).alloc (.cells #[.int .i64 0, .int .i64 0, .int .i64 0, .int .i64 0] 40))) := allocs_below [(#[.int .i64 P, .int .i64 N, .slice A ds.length c], 27), (#[.int .i64 0, .int .i64 0, .int .i64 0, .int .i64 0], 40)] w (Below.refl w.heap.size w) (Nat.le_refl _)
  go_enter Try.func15, Try.ntmps15
  have yy0 := S_0.out.cell (i := 0) (v := .int .i64 P) rfl; have yy1 := S_0.out.cell (i := 1) (v := .int .i64 N) rfl; have yy2 := S_0.out.cell (i := 2) (v := .slice A ds.length c) rfl
  go_wp2_with fail
  refine (HV.out _ HB_0.out).mono ?_
  rintro e v0 ⟨rfl, hb⟩
  clear yy0 yy1 yy2
  have S_1 : Hid (Blk v0 w.heap.size 27 #[.int .i64 P, .int .i64 N, .slice A ds.length c]) := Lib.hid (S_0.out.below hb S_0.out.lt)
  have U_1 : Hid (Blk v0 (w.heap.size + 1) 40 #[.int .i64 0, .int .i64 0, .int .i64 0, .int .i64 0]) := Lib.hid (U_0.out.below hb U_0.out.lt)
  have HB_1 : Hid (Below w.heap.size w v0) := Lib.hid (HB_0.out.trans (hb.mono HB_0.out.size))
  clear hb S_0 U_0 HB_0
  have yy0 := U_1.out.cell (i := 0) (v := .int .i64 0) rfl; have yy1 := U_1.out.cell (i := 1) (v := .int .i64 0) rfl; have yy2 := U_1.out.cell (i := 2) (v := .int .i64 0) rfl; have yy3 := U_1.out.cell (i := 3) (v := .int .i64 0) rfl
  have f0 := U_1.out.frozen 0; have f1 := U_1.out.frozen 1; have f2 := U_1.out.frozen 2; have f3 := U_1.out.frozen 3
  go_wp2_with fail
  clear yy0 yy1 yy2 yy3
  have HFU := Lib.hid ((((U_1.out.set 0 (.int .i64 0)).set 1 (.int .i64 0)).set 2 (.int .i64 0)).set 3 (.int .i64 0))
  have rU0 := HFU.out.cell (i := 0) (v := .int .i64 0) rfl
  have rU1 := HFU.out.cell (i := 1) (v := .int .i64 0) rfl
  have rU2 := HFU.out.cell (i := 2) (v := .int .i64 0) rfl
  have rU3 := HFU.out.cell (i := 3) (v := .int .i64 0) rfl
  exact bodyPost_ret (v := .tuple #[.agg #[.int .i64 0, .int .i64 0, .int .i64 0, .int .i64 0], .int .i64 50]) (by simp [results, Try.results15, go_sem, rU0, rU1, rU2, rU3]) rfl ⟨rfl, ((((HB_1.out.setCell (p := ⟨(w.heap.size + 1), 0, none⟩) (by show w.heap.size ≤ (w.heap.size + 1); omega) (.int .i64 0)).setCell (p := ⟨(w.heap.size + 1), 1, none⟩) (by show w.heap.size ≤ (w.heap.size + 1); omega) (.int .i64 0)).setCell (p := ⟨(w.heap.size + 1), 2, none⟩) (by show w.heap.size ≤ (w.heap.size + 1); omega) (.int .i64 0)).setCell (p := ⟨(w.heap.size + 1), 3, none⟩) (by show w.heap.size ≤ (w.heap.size + 1); omega) (.int .i64 0))⟩
set_option maxRecDepth 100000 in
set_option maxHeartbeats 8000000 in
theorem rbox_yes (P N : Int) (ds : List Dt) (A : Option Addr) (c : Nat) (w : World) (hA : Dz w A ds) (hz : ds.length ≤ 9000000000000000000) (hv : Vd P N ds) :
    Calls Try.prog 15 #[.agg #[.int .i64 P, .int .i64 N, .slice A ds.length c]] w fun e w' => ∃ x y ww h, IsBox ds x y ww h ∧ e = .returned (.tuple #[.agg #[.int .i64 x, .int .i64 y, .int .i64 ww, .int .i64 h], .int .i64 0]) ∧ Below w.heap.size w w' := by
  have hl := hv.2.2.1
  obtain ⟨b, o, rfl⟩ := hA.some (by omega)
  have HAT := Lib.hid hA.at
  have HV := Lib.hid (fun W (hb : Below w.heap.size w W) => rvalid_yes P N ds _ c W (hA.below hb (Nat.le_refl _)) hz hv)
  have HOK := Lib.hid hv.mem
  have HLN := Lib.hid hl
  clear hA hz hv hl
  have S_0 : Hid (Blk ((w.alloc (.cells #[.int .i64 P, .int .i64 N, .slice (some ⟨b, o, none⟩) ds.length c] 27)).alloc (.cells #[.int .i64 0, .int .i64 0, .int .i64 0, .int .i64 0] 40)) w.heap.size 27 #[.int .i64 P, .int .i64 N, .slice (some ⟨b, o, none⟩) ds.length c]) := allocs_blk [(#[.int .i64 P, .int .i64 N, .slice (some ⟨b, o, none⟩) ds.length c], 27), (#[.int .i64 0, .int .i64 0, .int .i64 0, .int .i64 0], 40)] w 0 _ rfl
  have U_0 : Hid (Blk ((w.alloc (.cells #[.int .i64 P, .int .i64 N, .slice (some ⟨b, o, none⟩) ds.length c] 27)).alloc (.cells #[.int .i64 0, .int .i64 0, .int .i64 0, .int .i64 0] 40)) (w.heap.size + 1) 40 #[.int .i64 0, .int .i64 0, .int .i64 0, .int .i64 0]) := allocs_blk [(#[.int .i64 P, .int .i64 N, .slice (some ⟨b, o, none⟩) ds.length c], 27), (#[.int .i64 0, .int .i64 0, .int .i64 0, .int .i64 0], 40)] w 1 _ rfl
  have HB_0 : Hid (Below w.heap.size w ((w.alloc (.cells #[.int .i64 P, .int .i64 N, .slice (some ⟨b, o, none⟩) ds.length c] 27)).alloc (.cells #[.int .i64 0, .int .i64 0, .int .i64 0, .int .i64 0] 40))) := allocs_below [(#[.int .i64 P, .int .i64 N, .slice (some ⟨b, o, none⟩) ds.length c], 27), (#[.int .i64 0, .int .i64 0, .int .i64 0, .int .i64 0], 40)] w (Below.refl w.heap.size w) (Nat.le_refl _)
  go_enter Try.func15, Try.ntmps15
  have yy0 := S_0.out.cell (i := 0) (v := .int .i64 P) rfl; have yy1 := S_0.out.cell (i := 1) (v := .int .i64 N) rfl; have yy2 := S_0.out.cell (i := 2) (v := .slice (some ⟨b, o, none⟩) ds.length c) rfl
  go_wp2_with fail
  refine (HV.out _ HB_0.out).mono ?_
  rintro e v0 ⟨rfl, hb⟩
  have LWU : Hid (w.heap.size + 1 < v0.heap.size) := Lib.hid (U_0.out.below hb U_0.out.lt).lt
  clear yy0 yy1 yy2
  have S_1 : Hid (Blk (v0.alloc (.cells #[.int .i64 5000, .int .i64 5000, .int .i64 0, .int .i64 0] 40)) w.heap.size 27 #[.int .i64 P, .int .i64 N, .slice (some ⟨b, o, none⟩) ds.length c]) := Lib.hid (allocs_keep [(#[.int .i64 5000, .int .i64 5000, .int .i64 0, .int .i64 0], 40)] _ (S_0.out.below hb S_0.out.lt))
  have U_1 : Hid (Blk (v0.alloc (.cells #[.int .i64 5000, .int .i64 5000, .int .i64 0, .int .i64 0] 40)) (w.heap.size + 1) 40 #[.int .i64 0, .int .i64 0, .int .i64 0, .int .i64 0]) := Lib.hid (allocs_keep [(#[.int .i64 5000, .int .i64 5000, .int .i64 0, .int .i64 0], 40)] _ (U_0.out.below hb U_0.out.lt))
  have HB_1 : Hid (Below w.heap.size w (v0.alloc (.cells #[.int .i64 5000, .int .i64 5000, .int .i64 0, .int .i64 0] 40))) := Lib.hid (allocs_below [(#[.int .i64 5000, .int .i64 5000, .int .i64 0, .int .i64 0], 40)] _ (HB_0.out.trans (hb.mono HB_0.out.size)) (HB_0.out.trans (hb.mono HB_0.out.size)).size)
  have Q_1 : Hid (Blk (v0.alloc (.cells #[.int .i64 5000, .int .i64 5000, .int .i64 0, .int .i64 0] 40)) v0.heap.size 40 #[.int .i64 5000, .int .i64 5000, .int .i64 0, .int .i64 0]) := Lib.hid (allocs_blk [(#[.int .i64 5000, .int .i64 5000, .int .i64 0, .int .i64 0], 40)] v0 0 _ rfl)
  clear hb S_0 U_0 HB_0
  have LW : Hid (w.heap.size + 1 < v0.heap.size) := Lib.hid LWU.out
  have HDZ : Hid (LoP Dt.x ds 0 5000 ∧ LoP Dt.y ds 0 5000) := Lib.hid ⟨⟨fun j d hj => absurd hj (by omega), Or.inl ⟨rfl, rfl⟩⟩, ⟨fun j d hj => absurd hj (by omega), Or.inl ⟨rfl, rfl⟩⟩⟩
  go_wp2_with fail
  go_loopw [5] (fun ii wr => ∃ (i : Nat) (rx : Int) (ry : Int), ii = .int .i64 i ∧ i ≤ ds.length ∧ LoP Dt.x ds i rx ∧ LoP Dt.y ds i ry ∧ Blk wr w.heap.size 27 #[.int .i64 P, .int .i64 N, .slice (some ⟨b, o, none⟩) ds.length c] ∧ Blk wr (w.heap.size + 1) 40 #[.int .i64 0, .int .i64 0, .int .i64 0, .int .i64 0] ∧ Blk wr v0.heap.size 40 #[.int .i64 rx, .int .i64 ry, .int .i64 0, .int .i64 0] ∧ Below w.heap.size w wr) (fun ii _ => ds.length - (intOf ii).toNat)
  case atStart => exact ⟨0, 5000, 5000, rfl, Nat.zero_le _, HDZ.out.1, HDZ.out.2, S_1.out, U_1.out, Q_1.out, HB_1.out⟩
  case round =>
    obtain ⟨i, rx, ry, rfl, hi, hlx, hly, hS, hU, hQ, hB⟩ := hrel
    clear S_1 U_1 Q_1 HB_1
    have HS := Lib.hid hS; have HU := Lib.hid hU; have HQ := Lib.hid hQ; have HB := Lib.hid hB; have HLX := Lib.hid hlx; have HLY := Lib.hid hly; clear hS hU hQ hB hlx hly
    by_cases hlt : i < ds.length
    case neg =>
      have hni : ¬ ((i : Int) < (ds.length : Int)) := by omega
      obtain rfl : i = ds.length := by omega
      clear hi hlt
      have yS := HS.out.cell (i := 2) (v := .slice (some ⟨b, o, none⟩) ds.length c) rfl
      have HX0 : Hid (HiP Dt.x ds rx 0 0 ∧ HiP Dt.y ds ry 0 0) := Lib.hid ⟨⟨fun j d hj => absurd hj (by omega), Int.le_refl _, Or.inl rfl⟩, ⟨fun j d hj => absurd hj (by omega), Int.le_refl _, Or.inl rfl⟩⟩
      have hrx : Hid ((-5000 ≤ rx ∧ rx ≤ 5000) ∧ (-5000 ≤ ry ∧ ry ≤ 5000)) := Lib.hid ⟨lo_bd HOK.out HLX.out, lo_bd2 HOK.out HLY.out⟩
      go_wp2_with fail
      go_loopw [6] (fun ii wr => ∃ (i : Nat) (rw_ : Int) (rh : Int), ii = .int .i64 i ∧ i ≤ ds.length ∧ HiP Dt.x ds rx i rw_ ∧ HiP Dt.y ds ry i rh ∧ Blk wr w.heap.size 27 #[.int .i64 P, .int .i64 N, .slice (some ⟨b, o, none⟩) ds.length c] ∧ Blk wr (w.heap.size + 1) 40 #[.int .i64 0, .int .i64 0, .int .i64 0, .int .i64 0] ∧ Blk wr v0.heap.size 40 #[.int .i64 rx, .int .i64 ry, .int .i64 rw_, .int .i64 rh] ∧ Below w.heap.size w wr) (fun ii _ => ds.length - (intOf ii).toNat)
      case atStart => exact ⟨0, 0, 0, rfl, Nat.zero_le _, HX0.out.1, HX0.out.2, HS.out, HU.out, HQ.out, HB.out⟩
      case round =>
        obtain ⟨i, rw_, rh, rfl, hi, hix, hiy, hS, hU, hQ, hB⟩ := hrel
        clear HS HU HQ HB yS
        have HS := Lib.hid hS; have HU := Lib.hid hU; have HQ := Lib.hid hQ; have HB := Lib.hid hB; have HIX := Lib.hid hix; have HIY := Lib.hid hiy; clear hS hU hQ hB hix hiy
        by_cases hlt : i < ds.length
        case neg =>
          have hni : ¬ ((i : Int) < (ds.length : Int)) := by omega
          obtain rfl : i = ds.length := by omega
          clear hi hlt
          have yS := HS.out.cell (i := 2) (v := .slice (some ⟨b, o, none⟩) ds.length c) rfl
          have hbx := Lib.hid (isBox_of HLN.out.1 HLX.out HLY.out HIX.out HIY.out)
          have hq0 := HQ.out.cell (i := 0) (v := .int .i64 rx) rfl; have hq1 := HQ.out.cell (i := 1) (v := .int .i64 ry) rfl; have hq2 := HQ.out.cell (i := 2) (v := .int .i64 rw_) rfl; have hq3 := HQ.out.cell (i := 3) (v := .int .i64 rh) rfl
          have hu0 := HU.out.cell (i := 0) (v := .int .i64 0) rfl; have hu1 := HU.out.cell (i := 1) (v := .int .i64 0) rfl; have hu2 := HU.out.cell (i := 2) (v := .int .i64 0) rfl; have hu3 := HU.out.cell (i := 3) (v := .int .i64 0) rfl
          have f0 := HU.out.frozen 0; have f1 := HU.out.frozen 1; have f2 := HU.out.frozen 2; have f3 := HU.out.frozen 3
          go_wp2_with fail
          clear hq0 hq1 hq2 hq3 hu0 hu1 hu2 hu3 f0 f1 f2 f3
          have HFU := Lib.hid ((((HU.out.set 0 (.int .i64 rx)).set 1 (.int .i64 ry)).set 2 (.int .i64 rw_)).set 3 (.int .i64 rh))
          have rU0 := HFU.out.cell (i := 0) (v := .int .i64 rx) rfl
          have rU1 := HFU.out.cell (i := 1) (v := .int .i64 ry) rfl
          have rU2 := HFU.out.cell (i := 2) (v := .int .i64 rw_) rfl
          have rU3 := HFU.out.cell (i := 3) (v := .int .i64 rh) rfl
          exact bodyPost_ret (v := .tuple #[.agg #[.int .i64 rx, .int .i64 ry, .int .i64 rw_, .int .i64 rh], .int .i64 0]) (by simp [results, Try.results15, go_sem, rU0, rU1, rU2, rU3]) rfl ⟨rx, ry, rw_, rh, hbx.out, rfl, ((((HB.out.setCell (p := ⟨(w.heap.size + 1), 0, none⟩) (by show w.heap.size ≤ (w.heap.size + 1); omega) (.int .i64 rx)).setCell (p := ⟨(w.heap.size + 1), 1, none⟩) (by show w.heap.size ≤ (w.heap.size + 1); omega) (.int .i64 ry)).setCell (p := ⟨(w.heap.size + 1), 2, none⟩) (by show w.heap.size ≤ (w.heap.size + 1); omega) (.int .i64 rw_)).setCell (p := ⟨(w.heap.size + 1), 3, none⟩) (by show w.heap.size ≤ (w.heap.size + 1); omega) (.int .i64 rh))⟩
        case pos =>
          obtain ⟨d, hd⟩ : ∃ d, d = ds[i] := ⟨_, rfl⟩
          have hD := fun W hb => HAT.out W hb i hlt
          rw [← hd] at hD
          have HD := Lib.hid hD
          have HDI : Hid (ds[i]? = some d) := Lib.hid (by rw [hd]; exact List.getElem?_eq_getElem _)
          have HDK := Lib.hid (HOK.out d (by rw [hd]; exact List.getElem_mem _))
          have HLT := Lib.hid hlt
          have q1 : (0 : Int) ≤ (i : Int) := by omega
          have q2 : (i : Int) < (ds.length : Int) := by omega
          clear hD hd hlt hi
          have yS := HS.out.cell (i := 2) (v := .slice (some ⟨b, o, none⟩) ds.length c) rfl
          go_upto_region 12 with fail
          clear yS
          go_cut [] from 46 to 57 (fun wx => ∃ rw2 : Int, HiP Dt.x ds rx (i + 1) rw2 ∧ Blk wx w.heap.size 27 #[.int .i64 P, .int .i64 N, .slice (some ⟨b, o, none⟩) ds.length c] ∧ Blk wx (w.heap.size + 1) 40 #[.int .i64 0, .int .i64 0, .int .i64 0, .int .i64 0] ∧ Blk wx v0.heap.size 40 #[.int .i64 rx, .int .i64 ry, .int .i64 rw2, .int .i64 rh] ∧ Below w.heap.size w wx)
          case first =>
            have hdk := HDK.out; unfold Dt.ok at hdk
            have hb9 := hrx.out
            have a1 : IntKind.i64.wrap (d.x - rx) = d.x - rx := IntWalk.i64_in _ (by omega)
            refine wp_region_goes (Sp := fun _ => True) (Se := (fun w' => w'.cell? ⟨w.heap.size, 2, none⟩ = some (.slice (some ⟨b, o, none⟩) ds.length c) ∧ w'.cell? ⟨b, o + i * 4, none⟩ = some (.int .i64 d.x) ∧ w'.cell? ⟨v0.heap.size, 0, none⟩ = some (.int .i64 rx) ∧ w'.cell? ⟨v0.heap.size, 1, none⟩ = some (.int .i64 ry) ∧ w'.cell? ⟨v0.heap.size, 2, none⟩ = some (.int .i64 rw_) ∧ w'.cell? ⟨v0.heap.size, 3, none⟩ = some (.int .i64 rh))) (Z := (([13] : List Nat).contains ·)) (by kernel_rfl) ?_
            have hw : Holds (fun _ => True) (fun w' => w'.cell? ⟨w.heap.size, 2, none⟩ = some (.slice (some ⟨b, o, none⟩) ds.length c) ∧ w'.cell? ⟨b, o + i * 4, none⟩ = some (.int .i64 d.x) ∧ w'.cell? ⟨v0.heap.size, 0, none⟩ = some (.int .i64 rx) ∧ w'.cell? ⟨v0.heap.size, 1, none⟩ = some (.int .i64 ry) ∧ w'.cell? ⟨v0.heap.size, 2, none⟩ = some (.int .i64 rw_) ∧ w'.cell? ⟨v0.heap.size, 3, none⟩ = some (.int .i64 rh)) (([13] : List Nat).contains ·) (Array.replicate 14 false) wr.drew := ⟨trivial, fun _ => ⟨HS.out.drew.cell (i := 2) rfl, (HD.out _ HB.out.drew).1, HQ.out.drew.cell (i := 0) rfl, HQ.out.drew.cell (i := 1) rfl, HQ.out.drew.cell (i := 2) rfl, HQ.out.drew.cell (i := 3) rfl⟩⟩
            refine goes_take (t := [(13, [0, 1, 2, 3, 4, 5, 6, 7, 8, 9, 10, 11, 12])]) (es := [1, 3, 7, 9]) (zs := [13]) 0 (some 46) ?_ (by kernel_rfl) rfl rfl (by kernel_rfl) (fun _ _ _ h => h) (by kernel_rfl) ?_ hw (fun hw2 => ?_)
            rotate_left
            · intro wS hS; clear hS; go_simp <;> with_reducible rfl
            clear hw; have hw := hw2; clear hw2
            try simp only [Act.put, List.setIfInBounds_toArray, List.set_cons_zero, List.set_cons_succ]
            refine goes_take (t := [(13, [0, 1, 2, 3, 4, 5, 6, 7, 8, 9, 10, 11, 12])]) (es := [1, 3, 7, 9]) (zs := [13]) 1 (some 47) ?_ (by kernel_rfl) rfl rfl (by kernel_rfl) (fun _ _ _ h => h) (by kernel_rfl) ?_ hw (fun hw2 => ?_)
            rotate_left
            · intro wS hS; have hE := hS.2 rfl; clear hS; (try dsimp only at hE); go_simp <;> with_reducible rfl
            clear hw; have hw := hw2; clear hw2
            try simp only [Act.put, List.setIfInBounds_toArray, List.set_cons_zero, List.set_cons_succ]
            refine goes_take (t := [(13, [0, 1, 2, 3, 4, 5, 6, 7, 8, 9, 10, 11, 12])]) (es := [1, 3, 7, 9]) (zs := [13]) 2 (some 48) ?_ (by kernel_rfl) rfl rfl (by kernel_rfl) (fun _ _ _ h => h) (by kernel_rfl) ?_ hw (fun hw2 => ?_)
            rotate_left
            · intro wS hS; clear hS; go_simp <;> with_reducible rfl
            clear hw; have hw := hw2; clear hw2
            try simp only [Act.put, List.setIfInBounds_toArray, List.set_cons_zero, List.set_cons_succ]
            refine goes_take (t := [(13, [0, 1, 2, 3, 4, 5, 6, 7, 8, 9, 10, 11, 12])]) (es := [1, 3, 7, 9]) (zs := [13]) 3 (some 49) ?_ (by kernel_rfl) rfl rfl (by kernel_rfl) (fun _ _ _ h => h) (by kernel_rfl) ?_ hw (fun hw2 => ?_)
            rotate_left
            · intro wS hS; have hE := hS.2 rfl; clear hS; (try dsimp only at hE); go_simp <;> with_reducible rfl
            clear hw; have hw := hw2; clear hw2
            try simp only [Act.put, List.setIfInBounds_toArray, List.set_cons_zero, List.set_cons_succ]
            refine goes_take (t := [(13, [0, 1, 2, 3, 4, 5, 6, 7, 8, 9, 10, 11, 12])]) (es := [1, 3, 7, 9]) (zs := [13]) 4 (some 50) ?_ (by kernel_rfl) rfl rfl (by kernel_rfl) (fun _ _ _ h => h) (by kernel_rfl) ?_ hw (fun hw2 => ?_)
            rotate_left
            · intro wS hS; clear hS; go_simp <;> with_reducible rfl
            clear hw; have hw := hw2; clear hw2
            try simp only [Act.put, List.setIfInBounds_toArray, List.set_cons_zero, List.set_cons_succ]
            refine goes_take (t := [(13, [0, 1, 2, 3, 4, 5, 6, 7, 8, 9, 10, 11, 12])]) (es := [1, 3, 7, 9]) (zs := [13]) 5 (some 51) ?_ (by kernel_rfl) rfl rfl (by kernel_rfl) (fun _ _ _ h => h) (by kernel_rfl) ?_ hw (fun hw2 => ?_)
            rotate_left
            · intro wS hS; clear hS; go_simp <;> with_reducible rfl
            clear hw; have hw := hw2; clear hw2
            try simp only [Act.put, List.setIfInBounds_toArray, List.set_cons_zero, List.set_cons_succ]
            refine goes_take (t := [(13, [0, 1, 2, 3, 4, 5, 6, 7, 8, 9, 10, 11, 12])]) (es := [1, 3, 7, 9]) (zs := [13]) 6 (some 52) ?_ (by kernel_rfl) rfl rfl (by kernel_rfl) (fun _ _ _ h => h) (by kernel_rfl) ?_ hw (fun hw2 => ?_)
            rotate_left
            · intro wS hS; clear hS; go_simp <;> with_reducible rfl
            clear hw; have hw := hw2; clear hw2
            try simp only [Act.put, List.setIfInBounds_toArray, List.set_cons_zero, List.set_cons_succ]
            refine goes_take (t := [(13, [0, 1, 2, 3, 4, 5, 6, 7, 8, 9, 10, 11, 12])]) (es := [1, 3, 7, 9]) (zs := [13]) 7 (some 53) ?_ (by kernel_rfl) rfl rfl (by kernel_rfl) (fun _ _ _ h => h) (by kernel_rfl) ?_ hw (fun hw2 => ?_)
            rotate_left
            · intro wS hS; have hE := hS.2 rfl; clear hS; (try dsimp only at hE); go_simp <;> with_reducible rfl
            clear hw; have hw := hw2; clear hw2
            try simp only [Act.put, List.setIfInBounds_toArray, List.set_cons_zero, List.set_cons_succ]
            refine goes_take (t := [(13, [0, 1, 2, 3, 4, 5, 6, 7, 8, 9, 10, 11, 12])]) (es := [1, 3, 7, 9]) (zs := [13]) 8 (some 54) ?_ (by kernel_rfl) rfl rfl (by kernel_rfl) (fun _ _ _ h => h) (by kernel_rfl) ?_ hw (fun hw2 => ?_)
            rotate_left
            · intro wS hS; clear hS; go_simp <;> with_reducible rfl
            clear hw; have hw := hw2; clear hw2
            try simp only [Act.put, List.setIfInBounds_toArray, List.set_cons_zero, List.set_cons_succ]
            refine goes_take (t := [(13, [0, 1, 2, 3, 4, 5, 6, 7, 8, 9, 10, 11, 12])]) (es := [1, 3, 7, 9]) (zs := [13]) 9 (some 55) ?_ (by kernel_rfl) rfl rfl (by kernel_rfl) (fun _ _ _ h => h) (by kernel_rfl) ?_ hw (fun hw2 => ?_)
            rotate_left
            · intro wS hS; have hE := hS.2 rfl; clear hS; (try dsimp only at hE); go_simp <;> with_reducible rfl
            clear hw; have hw := hw2; clear hw2
            try simp only [Act.put, List.setIfInBounds_toArray, List.set_cons_zero, List.set_cons_succ]
            refine goes_take (t := [(13, [0, 1, 2, 3, 4, 5, 6, 7, 8, 9, 10, 11, 12])]) (es := [1, 3, 7, 9]) (zs := [13]) 10 (some 56) ?_ (by kernel_rfl) rfl rfl (by kernel_rfl) (fun _ _ _ h => h) (by kernel_rfl) ?_ hw (fun hw2 => ?_)
            rotate_left
            · intro wS hS; clear hS; go_simp <;> with_reducible rfl
            clear hw; have hw := hw2; clear hw2
            try simp only [Act.put, List.setIfInBounds_toArray, List.set_cons_zero, List.set_cons_succ]
            refine goes_take (t := [(13, [0, 1, 2, 3, 4, 5, 6, 7, 8, 9, 10, 11, 12])]) (es := [1, 3, 7, 9]) (zs := [13]) 11 (some 57) ?_ (by kernel_rfl) rfl rfl (by kernel_rfl) (fun _ _ _ h => h) (by kernel_rfl) ?_ hw (fun hw2 => ?_)
            rotate_left
            · intro wS hS; clear hS; go_simp <;> with_reducible rfl
            clear hw; have hw := hw2; clear hw2
            try simp only [Act.put, List.setIfInBounds_toArray, List.set_cons_zero, List.set_cons_succ]
            refine goes_take (t := [(13, [0, 1, 2, 3, 4, 5, 6, 7, 8, 9, 10, 11, 12])]) (es := [1, 3, 7, 9]) (zs := [13]) 12 (some 58) ?_ (by kernel_rfl) rfl rfl (by kernel_rfl) (fun _ _ _ h => h) (by kernel_rfl) ?_ hw (fun hw2 => ?_)
            rotate_left
            · intro wS hS; clear hS; go_simp <;> with_reducible rfl
            clear hw; have hw := hw2; clear hw2
            try simp only [Act.put, List.setIfInBounds_toArray, List.set_cons_zero, List.set_cons_succ]
            refine goes_late 13 rfl (by kernel_rfl) (by kernel_rfl) (by kernel_rfl) (fun _ => trivial) (fun K hK => ?_)
            have y0 := HQ.out.drew.cell (i := 2) (v := .int .i64 rw_) rfl; have y1 := HQ.out.drew.frozen 2
            go_simp
            refine hK.out _ _ ?_
            clear hK K
            try simp only [Act.put, List.setIfInBounds_toArray, List.set_cons_zero, List.set_cons_succ]
            refine Goes.done (by kernel_rfl) ?_ _
            go_wp2_with fail
            all_goals
              go_meet
              exact ⟨_, HIX.out.step HDI.out (by first | rfl | (rw [a1]) | rw [if_pos (by omega)] | rw [if_neg (by omega)]), (HS.out.far (p := ⟨v0.heap.size, 2, none⟩) (by have := LW.out; show w.heap.size ≠ v0.heap.size; omega) _).drew, (HU.out.far (p := ⟨v0.heap.size, 2, none⟩) (by have := LW.out; show w.heap.size + 1 ≠ v0.heap.size; omega) _).drew, (HQ.out.set 2 _).drew, (HB.out.setCell (p := ⟨v0.heap.size, 2, none⟩) (by have := LW.out; show w.heap.size ≤ v0.heap.size; omega) _).drew⟩
          case rest =>
            obtain ⟨rw2, hn12, hS, hU, hQ, hB⟩ := hcut
            rename World => wRW212
            have HN12 := Lib.hid hn12; clear HS HU HQ HB hn12
            have HS := Lib.hid hS; have HU := Lib.hid hU; have HQ := Lib.hid hQ; have HB := Lib.hid hB; clear hS hU hQ hB
            have yS := HS.out.cell (i := 2) (v := .slice (some ⟨b, o, none⟩) ds.length c) rfl
            go_upto_region 13 with fail
            clear yS
            have hdk := HDK.out; unfold Dt.ok at hdk
            have hb9 := hrx.out
            have a1 : IntKind.i64.wrap (d.y - ry) = d.y - ry := IntWalk.i64_in _ (by omega)
            refine wp_region_goes (Sp := fun _ => True) (Se := (fun w' => w'.cell? ⟨w.heap.size, 2, none⟩ = some (.slice (some ⟨b, o, none⟩) ds.length c) ∧ w'.cell? ⟨b, o + i * 4 + 1, none⟩ = some (.int .i64 d.y) ∧ w'.cell? ⟨v0.heap.size, 0, none⟩ = some (.int .i64 rx) ∧ w'.cell? ⟨v0.heap.size, 1, none⟩ = some (.int .i64 ry) ∧ w'.cell? ⟨v0.heap.size, 2, none⟩ = some (.int .i64 rw2) ∧ w'.cell? ⟨v0.heap.size, 3, none⟩ = some (.int .i64 rh))) (Z := (([13] : List Nat).contains ·)) (by kernel_rfl) ?_
            have hw : Holds (fun _ => True) (fun w' => w'.cell? ⟨w.heap.size, 2, none⟩ = some (.slice (some ⟨b, o, none⟩) ds.length c) ∧ w'.cell? ⟨b, o + i * 4 + 1, none⟩ = some (.int .i64 d.y) ∧ w'.cell? ⟨v0.heap.size, 0, none⟩ = some (.int .i64 rx) ∧ w'.cell? ⟨v0.heap.size, 1, none⟩ = some (.int .i64 ry) ∧ w'.cell? ⟨v0.heap.size, 2, none⟩ = some (.int .i64 rw2) ∧ w'.cell? ⟨v0.heap.size, 3, none⟩ = some (.int .i64 rh)) (([13] : List Nat).contains ·) (Array.replicate 14 false) wRW212.drew := ⟨trivial, fun _ => ⟨HS.out.drew.cell (i := 2) rfl, (HD.out _ HB.out.drew).2.1, HQ.out.drew.cell (i := 0) rfl, HQ.out.drew.cell (i := 1) rfl, HQ.out.drew.cell (i := 2) rfl, HQ.out.drew.cell (i := 3) rfl⟩⟩
            refine goes_take (t := [(13, [0, 1, 2, 3, 4, 5, 6, 7, 8, 9, 10, 11, 12])]) (es := [1, 3, 7, 9]) (zs := [13]) 0 (some 59) ?_ (by kernel_rfl) rfl rfl (by kernel_rfl) (fun _ _ _ h => h) (by kernel_rfl) ?_ hw (fun hw2 => ?_)
            rotate_left
            · intro wS hS; clear hS; go_simp <;> with_reducible rfl
            clear hw; have hw := hw2; clear hw2
            try simp only [Act.put, List.setIfInBounds_toArray, List.set_cons_zero, List.set_cons_succ]
            refine goes_take (t := [(13, [0, 1, 2, 3, 4, 5, 6, 7, 8, 9, 10, 11, 12])]) (es := [1, 3, 7, 9]) (zs := [13]) 1 (some 60) ?_ (by kernel_rfl) rfl rfl (by kernel_rfl) (fun _ _ _ h => h) (by kernel_rfl) ?_ hw (fun hw2 => ?_)
            rotate_left
            · intro wS hS; have hE := hS.2 rfl; clear hS; (try dsimp only at hE); go_simp <;> with_reducible rfl
            clear hw; have hw := hw2; clear hw2
            try simp only [Act.put, List.setIfInBounds_toArray, List.set_cons_zero, List.set_cons_succ]
            refine goes_take (t := [(13, [0, 1, 2, 3, 4, 5, 6, 7, 8, 9, 10, 11, 12])]) (es := [1, 3, 7, 9]) (zs := [13]) 2 (some 61) ?_ (by kernel_rfl) rfl rfl (by kernel_rfl) (fun _ _ _ h => h) (by kernel_rfl) ?_ hw (fun hw2 => ?_)
            rotate_left
            · intro wS hS; clear hS; go_simp <;> with_reducible rfl
            clear hw; have hw := hw2; clear hw2
            try simp only [Act.put, List.setIfInBounds_toArray, List.set_cons_zero, List.set_cons_succ]
            refine goes_take (t := [(13, [0, 1, 2, 3, 4, 5, 6, 7, 8, 9, 10, 11, 12])]) (es := [1, 3, 7, 9]) (zs := [13]) 3 (some 62) ?_ (by kernel_rfl) rfl rfl (by kernel_rfl) (fun _ _ _ h => h) (by kernel_rfl) ?_ hw (fun hw2 => ?_)
            rotate_left
            · intro wS hS; have hE := hS.2 rfl; clear hS; (try dsimp only at hE); go_simp <;> with_reducible rfl
            clear hw; have hw := hw2; clear hw2
            try simp only [Act.put, List.setIfInBounds_toArray, List.set_cons_zero, List.set_cons_succ]
            refine goes_take (t := [(13, [0, 1, 2, 3, 4, 5, 6, 7, 8, 9, 10, 11, 12])]) (es := [1, 3, 7, 9]) (zs := [13]) 4 (some 63) ?_ (by kernel_rfl) rfl rfl (by kernel_rfl) (fun _ _ _ h => h) (by kernel_rfl) ?_ hw (fun hw2 => ?_)
            rotate_left
            · intro wS hS; clear hS; go_simp <;> with_reducible rfl
            clear hw; have hw := hw2; clear hw2
            try simp only [Act.put, List.setIfInBounds_toArray, List.set_cons_zero, List.set_cons_succ]
            refine goes_take (t := [(13, [0, 1, 2, 3, 4, 5, 6, 7, 8, 9, 10, 11, 12])]) (es := [1, 3, 7, 9]) (zs := [13]) 5 (some 64) ?_ (by kernel_rfl) rfl rfl (by kernel_rfl) (fun _ _ _ h => h) (by kernel_rfl) ?_ hw (fun hw2 => ?_)
            rotate_left
            · intro wS hS; clear hS; go_simp <;> with_reducible rfl
            clear hw; have hw := hw2; clear hw2
            try simp only [Act.put, List.setIfInBounds_toArray, List.set_cons_zero, List.set_cons_succ]
            refine goes_take (t := [(13, [0, 1, 2, 3, 4, 5, 6, 7, 8, 9, 10, 11, 12])]) (es := [1, 3, 7, 9]) (zs := [13]) 6 (some 65) ?_ (by kernel_rfl) rfl rfl (by kernel_rfl) (fun _ _ _ h => h) (by kernel_rfl) ?_ hw (fun hw2 => ?_)
            rotate_left
            · intro wS hS; clear hS; go_simp <;> with_reducible rfl
            clear hw; have hw := hw2; clear hw2
            try simp only [Act.put, List.setIfInBounds_toArray, List.set_cons_zero, List.set_cons_succ]
            refine goes_take (t := [(13, [0, 1, 2, 3, 4, 5, 6, 7, 8, 9, 10, 11, 12])]) (es := [1, 3, 7, 9]) (zs := [13]) 7 (some 66) ?_ (by kernel_rfl) rfl rfl (by kernel_rfl) (fun _ _ _ h => h) (by kernel_rfl) ?_ hw (fun hw2 => ?_)
            rotate_left
            · intro wS hS; have hE := hS.2 rfl; clear hS; (try dsimp only at hE); go_simp <;> with_reducible rfl
            clear hw; have hw := hw2; clear hw2
            try simp only [Act.put, List.setIfInBounds_toArray, List.set_cons_zero, List.set_cons_succ]
            refine goes_take (t := [(13, [0, 1, 2, 3, 4, 5, 6, 7, 8, 9, 10, 11, 12])]) (es := [1, 3, 7, 9]) (zs := [13]) 8 (some 67) ?_ (by kernel_rfl) rfl rfl (by kernel_rfl) (fun _ _ _ h => h) (by kernel_rfl) ?_ hw (fun hw2 => ?_)
            rotate_left
            · intro wS hS; clear hS; go_simp <;> with_reducible rfl
            clear hw; have hw := hw2; clear hw2
            try simp only [Act.put, List.setIfInBounds_toArray, List.set_cons_zero, List.set_cons_succ]
            refine goes_take (t := [(13, [0, 1, 2, 3, 4, 5, 6, 7, 8, 9, 10, 11, 12])]) (es := [1, 3, 7, 9]) (zs := [13]) 9 (some 68) ?_ (by kernel_rfl) rfl rfl (by kernel_rfl) (fun _ _ _ h => h) (by kernel_rfl) ?_ hw (fun hw2 => ?_)
            rotate_left
            · intro wS hS; have hE := hS.2 rfl; clear hS; (try dsimp only at hE); go_simp <;> with_reducible rfl
            clear hw; have hw := hw2; clear hw2
            try simp only [Act.put, List.setIfInBounds_toArray, List.set_cons_zero, List.set_cons_succ]
            refine goes_take (t := [(13, [0, 1, 2, 3, 4, 5, 6, 7, 8, 9, 10, 11, 12])]) (es := [1, 3, 7, 9]) (zs := [13]) 10 (some 69) ?_ (by kernel_rfl) rfl rfl (by kernel_rfl) (fun _ _ _ h => h) (by kernel_rfl) ?_ hw (fun hw2 => ?_)
            rotate_left
            · intro wS hS; clear hS; go_simp <;> with_reducible rfl
            clear hw; have hw := hw2; clear hw2
            try simp only [Act.put, List.setIfInBounds_toArray, List.set_cons_zero, List.set_cons_succ]
            refine goes_take (t := [(13, [0, 1, 2, 3, 4, 5, 6, 7, 8, 9, 10, 11, 12])]) (es := [1, 3, 7, 9]) (zs := [13]) 11 (some 70) ?_ (by kernel_rfl) rfl rfl (by kernel_rfl) (fun _ _ _ h => h) (by kernel_rfl) ?_ hw (fun hw2 => ?_)
            rotate_left
            · intro wS hS; clear hS; go_simp <;> with_reducible rfl
            clear hw; have hw := hw2; clear hw2
            try simp only [Act.put, List.setIfInBounds_toArray, List.set_cons_zero, List.set_cons_succ]
            refine goes_take (t := [(13, [0, 1, 2, 3, 4, 5, 6, 7, 8, 9, 10, 11, 12])]) (es := [1, 3, 7, 9]) (zs := [13]) 12 (some 71) ?_ (by kernel_rfl) rfl rfl (by kernel_rfl) (fun _ _ _ h => h) (by kernel_rfl) ?_ hw (fun hw2 => ?_)
            rotate_left
            · intro wS hS; clear hS; go_simp <;> with_reducible rfl
            clear hw; have hw := hw2; clear hw2
            try simp only [Act.put, List.setIfInBounds_toArray, List.set_cons_zero, List.set_cons_succ]
            refine goes_late 13 rfl (by kernel_rfl) (by kernel_rfl) (by kernel_rfl) (fun _ => trivial) (fun K hK => ?_)
            have y0 := HQ.out.drew.cell (i := 3) (v := .int .i64 rh) rfl; have y1 := HQ.out.drew.frozen 3
            go_simp
            refine hK.out _ _ ?_
            clear hK K
            try simp only [Act.put, List.setIfInBounds_toArray, List.set_cons_zero, List.set_cons_succ]
            refine Goes.done (by kernel_rfl) ?_ _
            have q5 : (i : Int) + 1 ≤ 9223372036854775807 := by have := HLN.out; have := HLT.out; omega
            go_wp2_with fail
            all_goals
              go_roundw
              case rel => exact ⟨i + 1, rw2, _, by go_num, by have := HLT.out; omega, HN12.out, HIY.out.step HDI.out (by first | rfl | (rw [a1]) | rw [if_pos (by omega)] | rw [if_neg (by omega)]), (HS.out.far (p := ⟨v0.heap.size, 3, none⟩) (by have := LW.out; show w.heap.size ≠ v0.heap.size; omega) _).drew, (HU.out.far (p := ⟨v0.heap.size, 3, none⟩) (by have := LW.out; show w.heap.size + 1 ≠ v0.heap.size; omega) _).drew, (HQ.out.set 3 _).drew, (HB.out.setCell (p := ⟨v0.heap.size, 3, none⟩) (by have := LW.out; show w.heap.size ≤ v0.heap.size; omega) _).drew⟩
              case measure => have := HLT.out; simp [intOf]; omega
    case pos =>
      obtain ⟨d, hd⟩ : ∃ d, d = ds[i] := ⟨_, rfl⟩
      have hD := fun W hb => HAT.out W hb i hlt
      rw [← hd] at hD
      have HD := Lib.hid hD
      have HDI : Hid (ds[i]? = some d) := Lib.hid (by rw [hd]; exact List.getElem?_eq_getElem _)
      have HDK := Lib.hid (HOK.out d (by rw [hd]; exact List.getElem_mem _))
      have HLT := Lib.hid hlt
      have q1 : (0 : Int) ≤ (i : Int) := by omega
      have q2 : (i : Int) < (ds.length : Int) := by omega
      clear hD hd hlt hi
      have yS := HS.out.cell (i := 2) (v := .slice (some ⟨b, o, none⟩) ds.length c) rfl
      go_upto_region 7 with fail
      clear yS
      go_cut [] from 19 to 27 (fun wx => ∃ rx2 : Int, LoP Dt.x ds (i + 1) rx2 ∧ Blk wx w.heap.size 27 #[.int .i64 P, .int .i64 N, .slice (some ⟨b, o, none⟩) ds.length c] ∧ Blk wx (w.heap.size + 1) 40 #[.int .i64 0, .int .i64 0, .int .i64 0, .int .i64 0] ∧ Blk wx v0.heap.size 40 #[.int .i64 rx2, .int .i64 ry, .int .i64 0, .int .i64 0] ∧ Below w.heap.size w wx)
      case first =>
        have hdk := HDK.out; unfold Dt.ok at hdk
        refine wp_region_goes (Sp := fun _ => True) (Se := (fun w' => w'.cell? ⟨w.heap.size, 2, none⟩ = some (.slice (some ⟨b, o, none⟩) ds.length c) ∧ w'.cell? ⟨b, o + i * 4, none⟩ = some (.int .i64 d.x) ∧ w'.cell? ⟨v0.heap.size, 0, none⟩ = some (.int .i64 rx) ∧ w'.cell? ⟨v0.heap.size, 1, none⟩ = some (.int .i64 ry) ∧ w'.cell? ⟨v0.heap.size, 2, none⟩ = some (.int .i64 0) ∧ w'.cell? ⟨v0.heap.size, 3, none⟩ = some (.int .i64 0))) (Z := (([10] : List Nat).contains ·)) (by kernel_rfl) ?_
        have hw : Holds (fun _ => True) (fun w' => w'.cell? ⟨w.heap.size, 2, none⟩ = some (.slice (some ⟨b, o, none⟩) ds.length c) ∧ w'.cell? ⟨b, o + i * 4, none⟩ = some (.int .i64 d.x) ∧ w'.cell? ⟨v0.heap.size, 0, none⟩ = some (.int .i64 rx) ∧ w'.cell? ⟨v0.heap.size, 1, none⟩ = some (.int .i64 ry) ∧ w'.cell? ⟨v0.heap.size, 2, none⟩ = some (.int .i64 0) ∧ w'.cell? ⟨v0.heap.size, 3, none⟩ = some (.int .i64 0)) (([10] : List Nat).contains ·) (Array.replicate 11 false) wr.drew := ⟨trivial, fun _ => ⟨HS.out.drew.cell (i := 2) rfl, (HD.out _ HB.out.drew).1, HQ.out.drew.cell (i := 0) rfl, HQ.out.drew.cell (i := 1) rfl, HQ.out.drew.cell (i := 2) rfl, HQ.out.drew.cell (i := 3) rfl⟩⟩
        refine goes_take (t := [(10, [0, 1, 2, 3, 4, 5, 6, 7, 8, 9])]) (es := [1, 3, 7]) (zs := [10]) 0 (some 19) ?_ (by kernel_rfl) rfl rfl (by kernel_rfl) (fun _ _ _ h => h) (by kernel_rfl) ?_ hw (fun hw2 => ?_)
        rotate_left
        · intro wS hS; clear hS; go_simp <;> with_reducible rfl
        clear hw; have hw := hw2; clear hw2
        try simp only [Act.put, List.setIfInBounds_toArray, List.set_cons_zero, List.set_cons_succ]
        refine goes_take (t := [(10, [0, 1, 2, 3, 4, 5, 6, 7, 8, 9])]) (es := [1, 3, 7]) (zs := [10]) 1 (some 20) ?_ (by kernel_rfl) rfl rfl (by kernel_rfl) (fun _ _ _ h => h) (by kernel_rfl) ?_ hw (fun hw2 => ?_)
        rotate_left
        · intro wS hS; have hE := hS.2 rfl; clear hS; (try dsimp only at hE); go_simp <;> with_reducible rfl
        clear hw; have hw := hw2; clear hw2
        try simp only [Act.put, List.setIfInBounds_toArray, List.set_cons_zero, List.set_cons_succ]
        refine goes_take (t := [(10, [0, 1, 2, 3, 4, 5, 6, 7, 8, 9])]) (es := [1, 3, 7]) (zs := [10]) 2 (some 21) ?_ (by kernel_rfl) rfl rfl (by kernel_rfl) (fun _ _ _ h => h) (by kernel_rfl) ?_ hw (fun hw2 => ?_)
        rotate_left
        · intro wS hS; clear hS; go_simp <;> with_reducible rfl
        clear hw; have hw := hw2; clear hw2
        try simp only [Act.put, List.setIfInBounds_toArray, List.set_cons_zero, List.set_cons_succ]
        refine goes_take (t := [(10, [0, 1, 2, 3, 4, 5, 6, 7, 8, 9])]) (es := [1, 3, 7]) (zs := [10]) 3 (some 22) ?_ (by kernel_rfl) rfl rfl (by kernel_rfl) (fun _ _ _ h => h) (by kernel_rfl) ?_ hw (fun hw2 => ?_)
        rotate_left
        · intro wS hS; have hE := hS.2 rfl; clear hS; (try dsimp only at hE); go_simp <;> with_reducible rfl
        clear hw; have hw := hw2; clear hw2
        try simp only [Act.put, List.setIfInBounds_toArray, List.set_cons_zero, List.set_cons_succ]
        refine goes_take (t := [(10, [0, 1, 2, 3, 4, 5, 6, 7, 8, 9])]) (es := [1, 3, 7]) (zs := [10]) 4 (some 23) ?_ (by kernel_rfl) rfl rfl (by kernel_rfl) (fun _ _ _ h => h) (by kernel_rfl) ?_ hw (fun hw2 => ?_)
        rotate_left
        · intro wS hS; clear hS; go_simp <;> with_reducible rfl
        clear hw; have hw := hw2; clear hw2
        try simp only [Act.put, List.setIfInBounds_toArray, List.set_cons_zero, List.set_cons_succ]
        refine goes_take (t := [(10, [0, 1, 2, 3, 4, 5, 6, 7, 8, 9])]) (es := [1, 3, 7]) (zs := [10]) 5 (some 24) ?_ (by kernel_rfl) rfl rfl (by kernel_rfl) (fun _ _ _ h => h) (by kernel_rfl) ?_ hw (fun hw2 => ?_)
        rotate_left
        · intro wS hS; clear hS; go_simp <;> with_reducible rfl
        clear hw; have hw := hw2; clear hw2
        try simp only [Act.put, List.setIfInBounds_toArray, List.set_cons_zero, List.set_cons_succ]
        refine goes_take (t := [(10, [0, 1, 2, 3, 4, 5, 6, 7, 8, 9])]) (es := [1, 3, 7]) (zs := [10]) 6 (some 25) ?_ (by kernel_rfl) rfl rfl (by kernel_rfl) (fun _ _ _ h => h) (by kernel_rfl) ?_ hw (fun hw2 => ?_)
        rotate_left
        · intro wS hS; clear hS; go_simp <;> with_reducible rfl
        clear hw; have hw := hw2; clear hw2
        try simp only [Act.put, List.setIfInBounds_toArray, List.set_cons_zero, List.set_cons_succ]
        refine goes_take (t := [(10, [0, 1, 2, 3, 4, 5, 6, 7, 8, 9])]) (es := [1, 3, 7]) (zs := [10]) 7 (some 26) ?_ (by kernel_rfl) rfl rfl (by kernel_rfl) (fun _ _ _ h => h) (by kernel_rfl) ?_ hw (fun hw2 => ?_)
        rotate_left
        · intro wS hS; have hE := hS.2 rfl; clear hS; (try dsimp only at hE); go_simp <;> with_reducible rfl
        clear hw; have hw := hw2; clear hw2
        try simp only [Act.put, List.setIfInBounds_toArray, List.set_cons_zero, List.set_cons_succ]
        refine goes_take (t := [(10, [0, 1, 2, 3, 4, 5, 6, 7, 8, 9])]) (es := [1, 3, 7]) (zs := [10]) 8 (some 27) ?_ (by kernel_rfl) rfl rfl (by kernel_rfl) (fun _ _ _ h => h) (by kernel_rfl) ?_ hw (fun hw2 => ?_)
        rotate_left
        · intro wS hS; clear hS; go_simp <;> with_reducible rfl
        clear hw; have hw := hw2; clear hw2
        try simp only [Act.put, List.setIfInBounds_toArray, List.set_cons_zero, List.set_cons_succ]
        refine goes_take (t := [(10, [0, 1, 2, 3, 4, 5, 6, 7, 8, 9])]) (es := [1, 3, 7]) (zs := [10]) 9 (some 28) ?_ (by kernel_rfl) rfl rfl (by kernel_rfl) (fun _ _ _ h => h) (by kernel_rfl) ?_ hw (fun hw2 => ?_)
        rotate_left
        · intro wS hS; clear hS; go_simp <;> with_reducible rfl
        clear hw; have hw := hw2; clear hw2
        try simp only [Act.put, List.setIfInBounds_toArray, List.set_cons_zero, List.set_cons_succ]
        refine goes_late 10 rfl (by kernel_rfl) (by kernel_rfl) (by kernel_rfl) (fun _ => trivial) (fun K hK => ?_)
        have y0 := HQ.out.drew.cell (i := 0) (v := .int .i64 rx) rfl; have y1 := HQ.out.drew.frozen 0
        go_simp
        refine hK.out _ _ ?_
        clear hK K
        try simp only [Act.put, List.setIfInBounds_toArray, List.set_cons_zero, List.set_cons_succ]
        refine Goes.done (by kernel_rfl) ?_ _
        go_wp2_with fail
        all_goals
          go_meet
          exact ⟨_, HLX.out.step HDI.out (by omega) (by first | rfl | (rw [a1]) | rw [if_pos (by omega)] | rw [if_neg (by omega)]), (HS.out.far (p := ⟨v0.heap.size, 0, none⟩) (by have := LW.out; show w.heap.size ≠ v0.heap.size; omega) _).drew, (HU.out.far (p := ⟨v0.heap.size, 0, none⟩) (by have := LW.out; show w.heap.size + 1 ≠ v0.heap.size; omega) _).drew, (HQ.out.set 0 _).drew, (HB.out.setCell (p := ⟨v0.heap.size, 0, none⟩) (by have := LW.out; show w.heap.size ≤ v0.heap.size; omega) _).drew⟩
      case rest =>
        obtain ⟨rx2, hn7, hS, hU, hQ, hB⟩ := hcut
        rename World => wRX27
        have HN7 := Lib.hid hn7; clear HS HU HQ HB hn7
        have HS := Lib.hid hS; have HU := Lib.hid hU; have HQ := Lib.hid hQ; have HB := Lib.hid hB; clear hS hU hQ hB
        have yS := HS.out.cell (i := 2) (v := .slice (some ⟨b, o, none⟩) ds.length c) rfl
        go_upto_region 8 with fail
        clear yS
        have hdk := HDK.out; unfold Dt.ok at hdk
        refine wp_region_goes (Sp := fun _ => True) (Se := (fun w' => w'.cell? ⟨w.heap.size, 2, none⟩ = some (.slice (some ⟨b, o, none⟩) ds.length c) ∧ w'.cell? ⟨b, o + i * 4 + 1, none⟩ = some (.int .i64 d.y) ∧ w'.cell? ⟨v0.heap.size, 0, none⟩ = some (.int .i64 rx2) ∧ w'.cell? ⟨v0.heap.size, 1, none⟩ = some (.int .i64 ry) ∧ w'.cell? ⟨v0.heap.size, 2, none⟩ = some (.int .i64 0) ∧ w'.cell? ⟨v0.heap.size, 3, none⟩ = some (.int .i64 0))) (Z := (([10] : List Nat).contains ·)) (by kernel_rfl) ?_
        have hw : Holds (fun _ => True) (fun w' => w'.cell? ⟨w.heap.size, 2, none⟩ = some (.slice (some ⟨b, o, none⟩) ds.length c) ∧ w'.cell? ⟨b, o + i * 4 + 1, none⟩ = some (.int .i64 d.y) ∧ w'.cell? ⟨v0.heap.size, 0, none⟩ = some (.int .i64 rx2) ∧ w'.cell? ⟨v0.heap.size, 1, none⟩ = some (.int .i64 ry) ∧ w'.cell? ⟨v0.heap.size, 2, none⟩ = some (.int .i64 0) ∧ w'.cell? ⟨v0.heap.size, 3, none⟩ = some (.int .i64 0)) (([10] : List Nat).contains ·) (Array.replicate 11 false) wRX27.drew := ⟨trivial, fun _ => ⟨HS.out.drew.cell (i := 2) rfl, (HD.out _ HB.out.drew).2.1, HQ.out.drew.cell (i := 0) rfl, HQ.out.drew.cell (i := 1) rfl, HQ.out.drew.cell (i := 2) rfl, HQ.out.drew.cell (i := 3) rfl⟩⟩
        refine goes_take (t := [(10, [0, 1, 2, 3, 4, 5, 6, 7, 8, 9])]) (es := [1, 3, 7]) (zs := [10]) 0 (some 29) ?_ (by kernel_rfl) rfl rfl (by kernel_rfl) (fun _ _ _ h => h) (by kernel_rfl) ?_ hw (fun hw2 => ?_)
        rotate_left
        · intro wS hS; clear hS; go_simp <;> with_reducible rfl
        clear hw; have hw := hw2; clear hw2
        try simp only [Act.put, List.setIfInBounds_toArray, List.set_cons_zero, List.set_cons_succ]
        refine goes_take (t := [(10, [0, 1, 2, 3, 4, 5, 6, 7, 8, 9])]) (es := [1, 3, 7]) (zs := [10]) 1 (some 30) ?_ (by kernel_rfl) rfl rfl (by kernel_rfl) (fun _ _ _ h => h) (by kernel_rfl) ?_ hw (fun hw2 => ?_)
        rotate_left
        · intro wS hS; have hE := hS.2 rfl; clear hS; (try dsimp only at hE); go_simp <;> with_reducible rfl
        clear hw; have hw := hw2; clear hw2
        try simp only [Act.put, List.setIfInBounds_toArray, List.set_cons_zero, List.set_cons_succ]
        refine goes_take (t := [(10, [0, 1, 2, 3, 4, 5, 6, 7, 8, 9])]) (es := [1, 3, 7]) (zs := [10]) 2 (some 31) ?_ (by kernel_rfl) rfl rfl (by kernel_rfl) (fun _ _ _ h => h) (by kernel_rfl) ?_ hw (fun hw2 => ?_)
        rotate_left
        · intro wS hS; clear hS; go_simp <;> with_reducible rfl
        clear hw; have hw := hw2; clear hw2
        try simp only [Act.put, List.setIfInBounds_toArray, List.set_cons_zero, List.set_cons_succ]
        refine goes_take (t := [(10, [0, 1, 2, 3, 4, 5, 6, 7, 8, 9])]) (es := [1, 3, 7]) (zs := [10]) 3 (some 32) ?_ (by kernel_rfl) rfl rfl (by kernel_rfl) (fun _ _ _ h => h) (by kernel_rfl) ?_ hw (fun hw2 => ?_)
        rotate_left
        · intro wS hS; have hE := hS.2 rfl; clear hS; (try dsimp only at hE); go_simp <;> with_reducible rfl
        clear hw; have hw := hw2; clear hw2
        try simp only [Act.put, List.setIfInBounds_toArray, List.set_cons_zero, List.set_cons_succ]
        refine goes_take (t := [(10, [0, 1, 2, 3, 4, 5, 6, 7, 8, 9])]) (es := [1, 3, 7]) (zs := [10]) 4 (some 33) ?_ (by kernel_rfl) rfl rfl (by kernel_rfl) (fun _ _ _ h => h) (by kernel_rfl) ?_ hw (fun hw2 => ?_)
        rotate_left
        · intro wS hS; clear hS; go_simp <;> with_reducible rfl
        clear hw; have hw := hw2; clear hw2
        try simp only [Act.put, List.setIfInBounds_toArray, List.set_cons_zero, List.set_cons_succ]
        refine goes_take (t := [(10, [0, 1, 2, 3, 4, 5, 6, 7, 8, 9])]) (es := [1, 3, 7]) (zs := [10]) 5 (some 34) ?_ (by kernel_rfl) rfl rfl (by kernel_rfl) (fun _ _ _ h => h) (by kernel_rfl) ?_ hw (fun hw2 => ?_)
        rotate_left
        · intro wS hS; clear hS; go_simp <;> with_reducible rfl
        clear hw; have hw := hw2; clear hw2
        try simp only [Act.put, List.setIfInBounds_toArray, List.set_cons_zero, List.set_cons_succ]
        refine goes_take (t := [(10, [0, 1, 2, 3, 4, 5, 6, 7, 8, 9])]) (es := [1, 3, 7]) (zs := [10]) 6 (some 35) ?_ (by kernel_rfl) rfl rfl (by kernel_rfl) (fun _ _ _ h => h) (by kernel_rfl) ?_ hw (fun hw2 => ?_)
        rotate_left
        · intro wS hS; clear hS; go_simp <;> with_reducible rfl
        clear hw; have hw := hw2; clear hw2
        try simp only [Act.put, List.setIfInBounds_toArray, List.set_cons_zero, List.set_cons_succ]
        refine goes_take (t := [(10, [0, 1, 2, 3, 4, 5, 6, 7, 8, 9])]) (es := [1, 3, 7]) (zs := [10]) 7 (some 36) ?_ (by kernel_rfl) rfl rfl (by kernel_rfl) (fun _ _ _ h => h) (by kernel_rfl) ?_ hw (fun hw2 => ?_)
        rotate_left
        · intro wS hS; have hE := hS.2 rfl; clear hS; (try dsimp only at hE); go_simp <;> with_reducible rfl
        clear hw; have hw := hw2; clear hw2
        try simp only [Act.put, List.setIfInBounds_toArray, List.set_cons_zero, List.set_cons_succ]
        refine goes_take (t := [(10, [0, 1, 2, 3, 4, 5, 6, 7, 8, 9])]) (es := [1, 3, 7]) (zs := [10]) 8 (some 37) ?_ (by kernel_rfl) rfl rfl (by kernel_rfl) (fun _ _ _ h => h) (by kernel_rfl) ?_ hw (fun hw2 => ?_)
        rotate_left
        · intro wS hS; clear hS; go_simp <;> with_reducible rfl
        clear hw; have hw := hw2; clear hw2
        try simp only [Act.put, List.setIfInBounds_toArray, List.set_cons_zero, List.set_cons_succ]
        refine goes_take (t := [(10, [0, 1, 2, 3, 4, 5, 6, 7, 8, 9])]) (es := [1, 3, 7]) (zs := [10]) 9 (some 38) ?_ (by kernel_rfl) rfl rfl (by kernel_rfl) (fun _ _ _ h => h) (by kernel_rfl) ?_ hw (fun hw2 => ?_)
        rotate_left
        · intro wS hS; clear hS; go_simp <;> with_reducible rfl
        clear hw; have hw := hw2; clear hw2
        try simp only [Act.put, List.setIfInBounds_toArray, List.set_cons_zero, List.set_cons_succ]
        refine goes_late 10 rfl (by kernel_rfl) (by kernel_rfl) (by kernel_rfl) (fun _ => trivial) (fun K hK => ?_)
        have y0 := HQ.out.drew.cell (i := 1) (v := .int .i64 ry) rfl; have y1 := HQ.out.drew.frozen 1
        go_simp
        refine hK.out _ _ ?_
        clear hK K
        try simp only [Act.put, List.setIfInBounds_toArray, List.set_cons_zero, List.set_cons_succ]
        refine Goes.done (by kernel_rfl) ?_ _
        have q5 : (i : Int) + 1 ≤ 9223372036854775807 := by have := HLN.out; have := HLT.out; omega
        go_wp2_with fail
        all_goals
          go_roundw
          case rel => exact ⟨i + 1, rx2, _, by go_num, by have := HLT.out; omega, HN7.out, HLY.out.step HDI.out (by omega) (by first | rfl | (rw [a1]) | rw [if_pos (by omega)] | rw [if_neg (by omega)]), (HS.out.far (p := ⟨v0.heap.size, 1, none⟩) (by have := LW.out; show w.heap.size ≠ v0.heap.size; omega) _).drew, (HU.out.far (p := ⟨v0.heap.size, 1, none⟩) (by have := LW.out; show w.heap.size + 1 ≠ v0.heap.size; omega) _).drew, (HQ.out.set 1 _).drew, (HB.out.setCell (p := ⟨v0.heap.size, 1, none⟩) (by have := LW.out; show w.heap.size ≤ v0.heap.size; omega) _).drew⟩
          case measure => have := HLT.out; simp [intOf]; omega
end Go.Proofs.Ytamogfcedkjmcaa
