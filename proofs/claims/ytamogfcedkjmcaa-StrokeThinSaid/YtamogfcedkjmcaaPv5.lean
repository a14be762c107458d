
/- The contract of Valid. Conditions: the slice read. -/
import Derived.Test.YtamogfcedkjmcaaSa5
import Derived.Test.YtamogfcedkjmcaaSt5
namespace Go.Proofs.Ytamogfcedkjmcaa
open Go.RowKit Go.Lib Go.Shelf

set_option maxRecDepth 100000 in
set_option maxHeartbeats 4000000 in
theorem pvalid_go (P N : Int) (ds : List Dt) (A : Option Addr) (c : Nat) (w : World) (hA : Dz w A ds) (h1 : 0 ≤ P ∧ P ≤ 39) (h2 : 1 ≤ N ∧ N ≤ 999) (h3 : 1 ≤ ds.length ∧ ds.length ≤ 200) :
    Calls Try.prog 20 #[.agg #[.int .i64 P, .int .i64 N, .slice A ds.length c]] w fun e w' => e = .returned (.bool (decide (Vd P N ds))) ∧ Below w.heap.size w w' := by
  obtain ⟨b, o, rfl⟩ := hA.some (by omega)
  have HAT := Lib.hid hA.at
  have HC1 := Lib.hid (fun W => pfrom_yes P 0 39 W h1); have HC2 := Lib.hid (fun W => pfrom_yes N 1 999 W h2); have HC3 := Lib.hid (fun W => pfrom_yes (ds.length : Nat) 1 200 W (by omega))
  have HV : Hid (∀ v, (v = true ↔ ∀ i, i < ds.length → OkAt ds i) → v = decide (Vd P N ds)) := Lib.hid (fun v hv => by
    by_cases h : Vd P N ds
    · rw [decide_eq_true h]; exact hv.2 h.2.2.2
    · rw [decide_eq_false h]
      cases v with
      | false => rfl
      | true => exact absurd ⟨h1, h2, h3, hv.1 rfl⟩ h)
  have HBAD : Hid (∀ i, i < ds.length → ¬ OkAt ds i → decide (Vd P N ds) = false) := Lib.hid (fun i hi hn => (HV.out false ⟨fun h => (by cases h), fun h => absurd (h i hi) hn⟩).symm)
  have hl2 : ds.length ≤ 200 := h3.2
  clear hA h1 h2 h3
  have S_0 : Hid (Blk (w.alloc (.cells #[.int .i64 P, .int .i64 N, .slice (some ⟨b, o, none⟩) ds.length c] 27)) w.heap.size 27 #[.int .i64 P, .int .i64 N, .slice (some ⟨b, o, none⟩) ds.length c]) := allocs_blk [(#[.int .i64 P, .int .i64 N, .slice (some ⟨b, o, none⟩) ds.length c], 27)] w 0 _ rfl
  have HB_0 : Hid (Below w.heap.size w (w.alloc (.cells #[.int .i64 P, .int .i64 N, .slice (some ⟨b, o, none⟩) ds.length c] 27))) := allocs_below [(#[.int .i64 P, .int .i64 N, .slice (some ⟨b, o, none⟩) ds.length c], 27)] w (Below.refl w.heap.size w) (Nat.le_refl _)
  go_enter Try.func20, Try.ntmps20
  have yy0 := S_0.out.cell (i := 0) (v := .int .i64 P) rfl; have yy1 := S_0.out.cell (i := 1) (v := .int .i64 N) rfl; have yy2 := S_0.out.cell (i := 2) (v := .slice (some ⟨b, o, none⟩) ds.length c) rfl
  go_wp2_with fail
  refine (HC1.out _).mono ?_
  rintro e v0 ⟨rfl, hb⟩
  clear yy0 yy1 yy2
  have S_1 : Hid (Blk v0 w.heap.size 27 #[.int .i64 P, .int .i64 N, .slice (some ⟨b, o, none⟩) ds.length c]) := Lib.hid (S_0.out.below hb S_0.out.lt)
  have HB_1 : Hid (Below w.heap.size w v0) := Lib.hid (HB_0.out.trans (hb.mono HB_0.out.size))
  clear hb S_0 HB_0
  have yy0 := S_1.out.cell (i := 0) (v := .int .i64 P) rfl; have yy1 := S_1.out.cell (i := 1) (v := .int .i64 N) rfl; have yy2 := S_1.out.cell (i := 2) (v := .slice (some ⟨b, o, none⟩) ds.length c) rfl
  go_wp2_with fail
  refine (HC2.out _).mono ?_
  rintro e v1 ⟨rfl, hb⟩
  clear yy0 yy1 yy2
  have S_2 : Hid (Blk v1 w.heap.size 27 #[.int .i64 P, .int .i64 N, .slice (some ⟨b, o, none⟩) ds.length c]) := Lib.hid (S_1.out.below hb S_1.out.lt)
  have HB_2 : Hid (Below w.heap.size w v1) := Lib.hid (HB_1.out.trans (hb.mono HB_1.out.size))
  clear hb S_1 HB_1
  have yy0 := S_2.out.cell (i := 0) (v := .int .i64 P) rfl; have yy1 := S_2.out.cell (i := 1) (v := .int .i64 N) rfl; have yy2 := S_2.out.cell (i := 2) (v := .slice (some ⟨b, o, none⟩) ds.length c) rfl
  go_wp2_with fail
  refine (HC3.out _).mono ?_
  rintro e v2 ⟨rfl, hb⟩
  clear yy0 yy1 yy2
  have S_3 : Hid (Blk v2 w.heap.size 27 #[.int .i64 P, .int .i64 N, .slice (some ⟨b, o, none⟩) ds.length c]) := Lib.hid (S_2.out.below hb S_2.out.lt)
  have HB_3 : Hid (Below w.heap.size w v2) := Lib.hid (HB_2.out.trans (hb.mono HB_2.out.size))
  clear hb S_2 HB_2
  have yy0 := S_3.out.cell (i := 0) (v := .int .i64 P) rfl; have yy1 := S_3.out.cell (i := 1) (v := .int .i64 N) rfl; have yy2 := S_3.out.cell (i := 2) (v := .slice (some ⟨b, o, none⟩) ds.length c) rfl
  go_wp2_with fail
  clear yy0 yy1 yy2
  go_loopw [3, 26] (fun ee ii wr => ∃ (i : Nat) (e0 : Int), ee = .int .i64 e0 ∧ ii = .int .i64 i ∧ i ≤ ds.length ∧ 0 ≤ e0 ∧ (i = 0 → e0 = 0) ∧ (0 < i → ∀ d, ds[i - 1]? = some d → e0 = d.t) ∧ (∀ j, j < i → OkAt ds j) ∧ Below w.heap.size w wr) (fun _ ii _ => ds.length - (intOf ii).toNat)
  case atStart => exact ⟨0, 0, rfl, rfl, Nat.zero_le _, Int.le_refl _, fun _ => rfl, fun h => absurd h (by omega), fun j hj => absurd hj (by omega), HB_3.out⟩
  case round =>
    obtain ⟨i, e0, rfl, rfl, hi, h0, hz0, hp0, hok, hb⟩ := hrel
    have HOK := Lib.hid hok; clear hok
    clear HB_3 S_3
    have HB_3 := Lib.hid hb; clear hb
    by_cases hlt : i < ds.length
    case neg =>
      have HT := Lib.hid (HV.out true ⟨fun _ j hj => HOK.out j (by omega), fun _ => rfl⟩)
      clear hz0 hp0
      go_wp2_with fail
      go_ret
      exact ⟨by rw [← HT.out]; rfl, HB_3.out⟩
    case pos =>
      have hil : OkAt ds i ↔ OnP ds[i].x ds[i].y ∧ (e0 ≤ ds[i].t ∧ ds[i].t ≤ 1000000) ∧ (0 ≤ ds[i].p ∧ ds[i].p ≤ 100) := by
        rw [okAt_iff hlt]
        unfold Dt.ok OnP
        by_cases h5 : 0 < i
        · have h6 := hp0 h5 _ (List.getElem?_eq_getElem (by omega))
          refine ⟨fun h => ?_, fun h => ⟨?_, fun _ => ?_⟩⟩
          · have := h.2 h5; omega
          · omega
          · omega
        · have h6 := hz0 (by omega)
          refine ⟨fun h => ?_, fun h => ⟨?_, fun h7 => absurd h7 h5⟩⟩
          · omega
          · omega
      obtain ⟨k0, k1, k2, k3⟩ := HAT.out wr HB_3.out i hlt
      obtain ⟨x, hx⟩ : ∃ x, x = ds[i].x := ⟨_, rfl⟩
      obtain ⟨y, hy⟩ : ∃ y, y = ds[i].y := ⟨_, rfl⟩
      obtain ⟨t, ht⟩ : ∃ t, t = ds[i].t := ⟨_, rfl⟩
      obtain ⟨p, hp⟩ : ∃ p, p = ds[i].p := ⟨_, rfl⟩
      have HTT : Hid (∀ d, ds[i]? = some d → t = d.t) := Lib.hid (fun d hd => by rw [List.getElem?_eq_getElem hlt, Option.some.injEq] at hd; rw [ht, hd])
      rw [← hx] at k0; rw [← hy] at k1; rw [← ht] at k2; rw [← hp] at k3
      rw [← hx, ← hy, ← ht, ← hp] at hil
      have HIL := Lib.hid hil
      have H0 := Lib.hid h0
      clear hx hy ht hp hil hz0 hp0
      have q1 : (0 : Int) ≤ (i : Int) := by omega
      have q2 : (i : Int) < (ds.length : Int) := by omega
      have HI := Lib.hid (And.intro hi hlt)
      have HPL := Lib.hid (fun W => pplace_any x y t p W)
      clear hi hlt h0
      have HB_4 : Hid (Below w.heap.size w (wr.alloc (.cells #[.int .i64 x, .int .i64 y, .int .i64 t, .int .i64 p] 24))) := Lib.hid (HB_3.out.alloc HB_3.out.size _)
      have HBS : Hid (Below wr.heap.size wr (wr.alloc (.cells #[.int .i64 x, .int .i64 y, .int .i64 t, .int .i64 p] 24))) := Lib.hid ((Below.refl _ _).alloc (Nat.le_refl _) _)
      have D_4 : Hid (Blk (wr.alloc (.cells #[.int .i64 x, .int .i64 y, .int .i64 t, .int .i64 p] 24)) wr.heap.size 24 #[.int .i64 x, .int .i64 y, .int .i64 t, .int .i64 p]) := Lib.hid (Blk.new wr _ _)
      clear HB_3
      by_cases c1 : OnP x y
      case neg =>
        have HNO : Hid (¬ OkAt ds i) := Lib.hid (fun h => c1 (HIL.out.1 h).1); have HC4 := Lib.hid (fun W => pon_not x y W c1); clear c1
        have yy0 := D_4.out.cell (i := 0) (v := .int .i64 x) rfl; have yy1 := D_4.out.cell (i := 1) (v := .int .i64 y) rfl; have yy2 := D_4.out.cell (i := 2) (v := .int .i64 t) rfl; have yy3 := D_4.out.cell (i := 3) (v := .int .i64 p) rfl
        go_wp2_with fail
        refine (HPL.out _).mono ?_
        rintro e v4 ⟨rfl, hb⟩
        clear yy0 yy1 yy2 yy3
        have D_5 : Hid (Blk v4 wr.heap.size 24 #[.int .i64 x, .int .i64 y, .int .i64 t, .int .i64 p]) := Lib.hid (D_4.out.below hb D_4.out.lt)
        have HB_5 : Hid (Below w.heap.size w v4) := Lib.hid (HB_4.out.trans (hb.mono HB_4.out.size))
        clear hb D_4 HB_4
        clear k0 k1 k2 k3
        have yy0 := D_5.out.cell (i := 0) (v := .int .i64 x) rfl; have yy1 := D_5.out.cell (i := 1) (v := .int .i64 y) rfl; have yy2 := D_5.out.cell (i := 2) (v := .int .i64 t) rfl; have yy3 := D_5.out.cell (i := 3) (v := .int .i64 p) rfl
        go_wp2_with fail
        refine (HC4.out _).mono ?_
        rintro e v5 ⟨rfl, hb⟩
        clear yy0 yy1 yy2 yy3
        have D_6 : Hid (Blk v5 wr.heap.size 24 #[.int .i64 x, .int .i64 y, .int .i64 t, .int .i64 p]) := Lib.hid (D_5.out.below hb D_5.out.lt)
        have HB_6 : Hid (Below w.heap.size w v5) := Lib.hid (HB_5.out.trans (hb.mono HB_5.out.size))
        clear hb D_5 HB_5
        have HN := Lib.hid (HBAD.out i HI.out.2 HNO.out)
        have hundef := un_none
        go_wp2_with fail
        go_ret
        exact ⟨by rw [HN.out]; rfl, HB_6.out⟩
      case pos =>
        have HC4 := Lib.hid (fun W => pon_yes x y W c1); have C1 := Lib.hid c1; clear c1
        by_cases c2 : e0 ≤ t ∧ t ≤ 1000000
        case neg =>
          have HNO : Hid (¬ OkAt ds i) := Lib.hid (fun h => c2 (HIL.out.1 h).2.1); have HC5 := Lib.hid (fun W => pfrom_not t e0 1000000 W c2); clear c2
          have yy0 := D_4.out.cell (i := 0) (v := .int .i64 x) rfl; have yy1 := D_4.out.cell (i := 1) (v := .int .i64 y) rfl; have yy2 := D_4.out.cell (i := 2) (v := .int .i64 t) rfl; have yy3 := D_4.out.cell (i := 3) (v := .int .i64 p) rfl
          go_wp2_with fail
          refine (HPL.out _).mono ?_
          rintro e v4 ⟨rfl, hb⟩
          clear yy0 yy1 yy2 yy3
          have D_5 : Hid (Blk v4 wr.heap.size 24 #[.int .i64 x, .int .i64 y, .int .i64 t, .int .i64 p]) := Lib.hid (D_4.out.below hb D_4.out.lt)
          have HB_5 : Hid (Below w.heap.size w v4) := Lib.hid (HB_4.out.trans (hb.mono HB_4.out.size))
          clear hb D_4 HB_4
          clear k0 k1 k2 k3
          have yy0 := D_5.out.cell (i := 0) (v := .int .i64 x) rfl; have yy1 := D_5.out.cell (i := 1) (v := .int .i64 y) rfl; have yy2 := D_5.out.cell (i := 2) (v := .int .i64 t) rfl; have yy3 := D_5.out.cell (i := 3) (v := .int .i64 p) rfl
          go_wp2_with fail
          refine (HC4.out _).mono ?_
          rintro e v5 ⟨rfl, hb⟩
          clear yy0 yy1 yy2 yy3
          have D_6 : Hid (Blk v5 wr.heap.size 24 #[.int .i64 x, .int .i64 y, .int .i64 t, .int .i64 p]) := Lib.hid (D_5.out.below hb D_5.out.lt)
          have HB_6 : Hid (Below w.heap.size w v5) := Lib.hid (HB_5.out.trans (hb.mono HB_5.out.size))
          clear hb D_5 HB_5
          have yy0 := D_6.out.cell (i := 0) (v := .int .i64 x) rfl; have yy1 := D_6.out.cell (i := 1) (v := .int .i64 y) rfl; have yy2 := D_6.out.cell (i := 2) (v := .int .i64 t) rfl; have yy3 := D_6.out.cell (i := 3) (v := .int .i64 p) rfl
          go_wp2_with fail
          refine (HC5.out _).mono ?_
          rintro e v6 ⟨rfl, hb⟩
          clear yy0 yy1 yy2 yy3
          have D_7 : Hid (Blk v6 wr.heap.size 24 #[.int .i64 x, .int .i64 y, .int .i64 t, .int .i64 p]) := Lib.hid (D_6.out.below hb D_6.out.lt)
          have HB_7 : Hid (Below w.heap.size w v6) := Lib.hid (HB_6.out.trans (hb.mono HB_6.out.size))
          clear hb D_6 HB_6
          have HN := Lib.hid (HBAD.out i HI.out.2 HNO.out)
          have hundef := un_none
          go_wp2_with fail
          go_ret
          exact ⟨by rw [HN.out]; rfl, HB_7.out⟩
        case pos =>
          have HC5 := Lib.hid (fun W => pfrom_yes t e0 1000000 W c2); have C2 := Lib.hid c2; clear c2
          by_cases c3 : 0 ≤ p ∧ p ≤ 100
          case neg =>
            have HNO : Hid (¬ OkAt ds i) := Lib.hid (fun h => c3 (HIL.out.1 h).2.2); have HC6 := Lib.hid (fun W => pfrom_not p 0 100 W c3); clear c3
            have yy0 := D_4.out.cell (i := 0) (v := .int .i64 x) rfl; have yy1 := D_4.out.cell (i := 1) (v := .int .i64 y) rfl; have yy2 := D_4.out.cell (i := 2) (v := .int .i64 t) rfl; have yy3 := D_4.out.cell (i := 3) (v := .int .i64 p) rfl
            go_wp2_with fail
            refine (HPL.out _).mono ?_
            rintro e v4 ⟨rfl, hb⟩
            clear yy0 yy1 yy2 yy3
            have D_5 : Hid (Blk v4 wr.heap.size 24 #[.int .i64 x, .int .i64 y, .int .i64 t, .int .i64 p]) := Lib.hid (D_4.out.below hb D_4.out.lt)
            have HB_5 : Hid (Below w.heap.size w v4) := Lib.hid (HB_4.out.trans (hb.mono HB_4.out.size))
            clear hb D_4 HB_4
            clear k0 k1 k2 k3
            have yy0 := D_5.out.cell (i := 0) (v := .int .i64 x) rfl; have yy1 := D_5.out.cell (i := 1) (v := .int .i64 y) rfl; have yy2 := D_5.out.cell (i := 2) (v := .int .i64 t) rfl; have yy3 := D_5.out.cell (i := 3) (v := .int .i64 p) rfl
            go_wp2_with fail
            refine (HC4.out _).mono ?_
            rintro e v5 ⟨rfl, hb⟩
            clear yy0 yy1 yy2 yy3
            have D_6 : Hid (Blk v5 wr.heap.size 24 #[.int .i64 x, .int .i64 y, .int .i64 t, .int .i64 p]) := Lib.hid (D_5.out.below hb D_5.out.lt)
            have HB_6 : Hid (Below w.heap.size w v5) := Lib.hid (HB_5.out.trans (hb.mono HB_5.out.size))
            clear hb D_5 HB_5
            have yy0 := D_6.out.cell (i := 0) (v := .int .i64 x) rfl; have yy1 := D_6.out.cell (i := 1) (v := .int .i64 y) rfl; have yy2 := D_6.out.cell (i := 2) (v := .int .i64 t) rfl; have yy3 := D_6.out.cell (i := 3) (v := .int .i64 p) rfl
            go_wp2_with fail
            refine (HC5.out _).mono ?_
            rintro e v6 ⟨rfl, hb⟩
            clear yy0 yy1 yy2 yy3
            have D_7 : Hid (Blk v6 wr.heap.size 24 #[.int .i64 x, .int .i64 y, .int .i64 t, .int .i64 p]) := Lib.hid (D_6.out.below hb D_6.out.lt)
            have HB_7 : Hid (Below w.heap.size w v6) := Lib.hid (HB_6.out.trans (hb.mono HB_6.out.size))
            clear hb D_6 HB_6
            have yy0 := D_7.out.cell (i := 0) (v := .int .i64 x) rfl; have yy1 := D_7.out.cell (i := 1) (v := .int .i64 y) rfl; have yy2 := D_7.out.cell (i := 2) (v := .int .i64 t) rfl; have yy3 := D_7.out.cell (i := 3) (v := .int .i64 p) rfl
            go_wp2_with fail
            refine (HC6.out _).mono ?_
            rintro e v7 ⟨rfl, hb⟩
            clear yy0 yy1 yy2 yy3
            have D_8 : Hid (Blk v7 wr.heap.size 24 #[.int .i64 x, .int .i64 y, .int .i64 t, .int .i64 p]) := Lib.hid (D_7.out.below hb D_7.out.lt)
            have HB_8 : Hid (Below w.heap.size w v7) := Lib.hid (HB_7.out.trans (hb.mono HB_7.out.size))
            clear hb D_7 HB_7
            have HN := Lib.hid (HBAD.out i HI.out.2 HNO.out)
            have hundef := un_none
            go_wp2_with fail
            go_ret
            exact ⟨by rw [HN.out]; rfl, HB_8.out⟩
          case pos =>
            have HNO : Hid (OkAt ds i) := Lib.hid (HIL.out.2 ⟨C1.out, C2.out, c3⟩); have HC6 := Lib.hid (fun W => pfrom_yes p 0 100 W c3); clear c3
            have yy0 := D_4.out.cell (i := 0) (v := .int .i64 x) rfl; have yy1 := D_4.out.cell (i := 1) (v := .int .i64 y) rfl; have yy2 := D_4.out.cell (i := 2) (v := .int .i64 t) rfl; have yy3 := D_4.out.cell (i := 3) (v := .int .i64 p) rfl
            go_wp2_with fail
            refine (HPL.out _).mono ?_
            rintro e v4 ⟨rfl, hb⟩
            clear yy0 yy1 yy2 yy3
            have D_5 : Hid (Blk v4 wr.heap.size 24 #[.int .i64 x, .int .i64 y, .int .i64 t, .int .i64 p]) := Lib.hid (D_4.out.below hb D_4.out.lt)
            have HB_5 : Hid (Below w.heap.size w v4) := Lib.hid (HB_4.out.trans (hb.mono HB_4.out.size))
            clear hb D_4 HB_4
            clear k0 k1 k2 k3
            have yy0 := D_5.out.cell (i := 0) (v := .int .i64 x) rfl; have yy1 := D_5.out.cell (i := 1) (v := .int .i64 y) rfl; have yy2 := D_5.out.cell (i := 2) (v := .int .i64 t) rfl; have yy3 := D_5.out.cell (i := 3) (v := .int .i64 p) rfl
            go_wp2_with fail
            refine (HC4.out _).mono ?_
            rintro e v5 ⟨rfl, hb⟩
            clear yy0 yy1 yy2 yy3
            have D_6 : Hid (Blk v5 wr.heap.size 24 #[.int .i64 x, .int .i64 y, .int .i64 t, .int .i64 p]) := Lib.hid (D_5.out.below hb D_5.out.lt)
            have HB_6 : Hid (Below w.heap.size w v5) := Lib.hid (HB_5.out.trans (hb.mono HB_5.out.size))
            clear hb D_5 HB_5
            have yy0 := D_6.out.cell (i := 0) (v := .int .i64 x) rfl; have yy1 := D_6.out.cell (i := 1) (v := .int .i64 y) rfl; have yy2 := D_6.out.cell (i := 2) (v := .int .i64 t) rfl; have yy3 := D_6.out.cell (i := 3) (v := .int .i64 p) rfl
            go_wp2_with fail
            refine (HC5.out _).mono ?_
            rintro e v6 ⟨rfl, hb⟩
            clear yy0 yy1 yy2 yy3
            have D_7 : Hid (Blk v6 wr.heap.size 24 #[.int .i64 x, .int .i64 y, .int .i64 t, .int .i64 p]) := Lib.hid (D_6.out.below hb D_6.out.lt)
            have HB_7 : Hid (Below w.heap.size w v6) := Lib.hid (HB_6.out.trans (hb.mono HB_6.out.size))
            clear hb D_6 HB_6
            have yy0 := D_7.out.cell (i := 0) (v := .int .i64 x) rfl; have yy1 := D_7.out.cell (i := 1) (v := .int .i64 y) rfl; have yy2 := D_7.out.cell (i := 2) (v := .int .i64 t) rfl; have yy3 := D_7.out.cell (i := 3) (v := .int .i64 p) rfl
            go_wp2_with fail
            refine (HC6.out _).mono ?_
            rintro e v7 ⟨rfl, hb⟩
            clear yy0 yy1 yy2 yy3
            have D_8 : Hid (Blk v7 wr.heap.size 24 #[.int .i64 x, .int .i64 y, .int .i64 t, .int .i64 p]) := Lib.hid (D_7.out.below hb D_7.out.lt)
            have HB_8 : Hid (Below w.heap.size w v7) := Lib.hid (HB_7.out.trans (hb.mono HB_7.out.size))
            clear hb D_7 HB_7
            have yy0 := D_8.out.cell (i := 0) (v := .int .i64 x) rfl; have yy1 := D_8.out.cell (i := 1) (v := .int .i64 y) rfl; have yy2 := D_8.out.cell (i := 2) (v := .int .i64 t) rfl; have yy3 := D_8.out.cell (i := 3) (v := .int .i64 p) rfl
            have q5 : (i : Int) + 1 ≤ 9223372036854775807 := by have := HI.out.2; omega
            go_wp2_with fail
            go_roundw
            case rel => exact ⟨i + 1, t, rfl, by go_num, by have := HI.out; omega, by have := C2.out; have := H0.out; omega, fun h => absurd h (by omega), fun _ d hd => HTT.out d hd, fun j hj => by
              by_cases hji : j = i
              · rw [hji]; exact HNO.out
              · exact HOK.out j (by omega), HB_8.out⟩
            case measure => have := HI.out.2; simp [intOf]; omega
set_option maxRecDepth 100000 in
set_option maxHeartbeats 4000000 in
theorem pvalid_any (P N : Int) (ds : List Dt) (A : Option Addr) (c : Nat) (w : World) (hA : Dz w A ds) (hz : ds.length ≤ 9000000000000000000) :
    Calls Try.prog 20 #[.agg #[.int .i64 P, .int .i64 N, .slice A ds.length c]] w fun e w' => e = .returned (.bool (decide (Vd P N ds))) ∧ Below w.heap.size w w' := by
  by_cases h0 : 0 ≤ P ∧ P ≤ 39
  case neg =>
    have HN : Hid (decide (Vd P N ds) = false) := Lib.hid (decide_eq_false fun h => h0 h.1)
    have HC0 := Lib.hid (fun W => pfrom_not P 0 39 W (by omega))
    clear hA hz
    clear h0
    have S_0 : Hid (Blk (w.alloc (.cells #[.int .i64 P, .int .i64 N, .slice A ds.length c] 27)) w.heap.size 27 #[.int .i64 P, .int .i64 N, .slice A ds.length c]) := allocs_blk [(#[.int .i64 P, .int .i64 N, .slice A ds.length c], 27)] w 0 _ rfl
    have HB_0 : Hid (Below w.heap.size w (w.alloc (.cells #[.int .i64 P, .int .i64 N, .slice A ds.length c] 27))) := allocs_below [(#[.int .i64 P, .int .i64 N, .slice A ds.length c], 27)] w (Below.refl w.heap.size w) (Nat.le_refl _)
    go_enter Try.func20, Try.ntmps20
    have yy0 := S_0.out.cell (i := 0) (v := .int .i64 P) rfl; have yy1 := S_0.out.cell (i := 1) (v := .int .i64 N) rfl; have yy2 := S_0.out.cell (i := 2) (v := .slice A ds.length c) rfl
    go_wp2_with fail
    refine (HC0.out _).mono ?_
    rintro e v0 ⟨rfl, hb⟩
    clear yy0 yy1 yy2
    have S_1 : Hid (Blk v0 w.heap.size 27 #[.int .i64 P, .int .i64 N, .slice A ds.length c]) := Lib.hid (S_0.out.below hb S_0.out.lt)
    have HB_1 : Hid (Below w.heap.size w v0) := Lib.hid (HB_0.out.trans (hb.mono HB_0.out.size))
    clear hb S_0 HB_0
    have hundef := un_none
    go_wp2_with fail
    go_ret
    exact ⟨by rw [HN.out]; rfl, HB_1.out⟩
  case pos =>
    by_cases h1 : 1 ≤ N ∧ N ≤ 999
    case neg =>
      have HN : Hid (decide (Vd P N ds) = false) := Lib.hid (decide_eq_false fun h => h1 h.2.1)
      have HC0 := Lib.hid (fun W => pfrom_yes P 0 39 W h0)
      have HC1 := Lib.hid (fun W => pfrom_not N 1 999 W (by omega))
      clear hA hz
      clear h0 h1
      have S_0 : Hid (Blk (w.alloc (.cells #[.int .i64 P, .int .i64 N, .slice A ds.length c] 27)) w.heap.size 27 #[.int .i64 P, .int .i64 N, .slice A ds.length c]) := allocs_blk [(#[.int .i64 P, .int .i64 N, .slice A ds.length c], 27)] w 0 _ rfl
      have HB_0 : Hid (Below w.heap.size w (w.alloc (.cells #[.int .i64 P, .int .i64 N, .slice A ds.length c] 27))) := allocs_below [(#[.int .i64 P, .int .i64 N, .slice A ds.length c], 27)] w (Below.refl w.heap.size w) (Nat.le_refl _)
      go_enter Try.func20, Try.ntmps20
      have yy0 := S_0.out.cell (i := 0) (v := .int .i64 P) rfl; have yy1 := S_0.out.cell (i := 1) (v := .int .i64 N) rfl; have yy2 := S_0.out.cell (i := 2) (v := .slice A ds.length c) rfl
      go_wp2_with fail
      refine (HC0.out _).mono ?_
      rintro e v0 ⟨rfl, hb⟩
      clear yy0 yy1 yy2
      have S_1 : Hid (Blk v0 w.heap.size 27 #[.int .i64 P, .int .i64 N, .slice A ds.length c]) := Lib.hid (S_0.out.below hb S_0.out.lt)
      have HB_1 : Hid (Below w.heap.size w v0) := Lib.hid (HB_0.out.trans (hb.mono HB_0.out.size))
      clear hb S_0 HB_0
      have yy0 := S_1.out.cell (i := 0) (v := .int .i64 P) rfl; have yy1 := S_1.out.cell (i := 1) (v := .int .i64 N) rfl; have yy2 := S_1.out.cell (i := 2) (v := .slice A ds.length c) rfl
      go_wp2_with fail
      refine (HC1.out _).mono ?_
      rintro e v1 ⟨rfl, hb⟩
      clear yy0 yy1 yy2
      have S_2 : Hid (Blk v1 w.heap.size 27 #[.int .i64 P, .int .i64 N, .slice A ds.length c]) := Lib.hid (S_1.out.below hb S_1.out.lt)
      have HB_2 : Hid (Below w.heap.size w v1) := Lib.hid (HB_1.out.trans (hb.mono HB_1.out.size))
      clear hb S_1 HB_1
      have hundef := un_none
      go_wp2_with fail
      go_ret
      exact ⟨by rw [HN.out]; rfl, HB_2.out⟩
    case pos =>
      by_cases h2 : 1 ≤ ds.length ∧ ds.length ≤ 200
      case neg =>
        have HN : Hid (decide (Vd P N ds) = false) := Lib.hid (decide_eq_false fun h => h2 h.2.2.1)
        have HC0 := Lib.hid (fun W => pfrom_yes P 0 39 W h0)
        have HC1 := Lib.hid (fun W => pfrom_yes N 1 999 W h1)
        have HC2 := Lib.hid (fun W => pfrom_not (ds.length : Nat) 1 200 W (by omega))
        clear hA hz
        clear h0 h1 h2
        have S_0 : Hid (Blk (w.alloc (.cells #[.int .i64 P, .int .i64 N, .slice A ds.length c] 27)) w.heap.size 27 #[.int .i64 P, .int .i64 N, .slice A ds.length c]) := allocs_blk [(#[.int .i64 P, .int .i64 N, .slice A ds.length c], 27)] w 0 _ rfl
        have HB_0 : Hid (Below w.heap.size w (w.alloc (.cells #[.int .i64 P, .int .i64 N, .slice A ds.length c] 27))) := allocs_below [(#[.int .i64 P, .int .i64 N, .slice A ds.length c], 27)] w (Below.refl w.heap.size w) (Nat.le_refl _)
        go_enter Try.func20, Try.ntmps20
        have yy0 := S_0.out.cell (i := 0) (v := .int .i64 P) rfl; have yy1 := S_0.out.cell (i := 1) (v := .int .i64 N) rfl; have yy2 := S_0.out.cell (i := 2) (v := .slice A ds.length c) rfl
        go_wp2_with fail
        refine (HC0.out _).mono ?_
        rintro e v0 ⟨rfl, hb⟩
        clear yy0 yy1 yy2
        have S_1 : Hid (Blk v0 w.heap.size 27 #[.int .i64 P, .int .i64 N, .slice A ds.length c]) := Lib.hid (S_0.out.below hb S_0.out.lt)
        have HB_1 : Hid (Below w.heap.size w v0) := Lib.hid (HB_0.out.trans (hb.mono HB_0.out.size))
        clear hb S_0 HB_0
        have yy0 := S_1.out.cell (i := 0) (v := .int .i64 P) rfl; have yy1 := S_1.out.cell (i := 1) (v := .int .i64 N) rfl; have yy2 := S_1.out.cell (i := 2) (v := .slice A ds.length c) rfl
        go_wp2_with fail
        refine (HC1.out _).mono ?_
        rintro e v1 ⟨rfl, hb⟩
        clear yy0 yy1 yy2
        have S_2 : Hid (Blk v1 w.heap.size 27 #[.int .i64 P, .int .i64 N, .slice A ds.length c]) := Lib.hid (S_1.out.below hb S_1.out.lt)
        have HB_2 : Hid (Below w.heap.size w v1) := Lib.hid (HB_1.out.trans (hb.mono HB_1.out.size))
        clear hb S_1 HB_1
        have yy0 := S_2.out.cell (i := 0) (v := .int .i64 P) rfl; have yy1 := S_2.out.cell (i := 1) (v := .int .i64 N) rfl; have yy2 := S_2.out.cell (i := 2) (v := .slice A ds.length c) rfl
        go_wp2_with fail
        refine (HC2.out _).mono ?_
        rintro e v2 ⟨rfl, hb⟩
        clear yy0 yy1 yy2
        have S_3 : Hid (Blk v2 w.heap.size 27 #[.int .i64 P, .int .i64 N, .slice A ds.length c]) := Lib.hid (S_2.out.below hb S_2.out.lt)
        have HB_3 : Hid (Below w.heap.size w v2) := Lib.hid (HB_2.out.trans (hb.mono HB_2.out.size))
        clear hb S_2 HB_2
        have hundef := un_none
        go_wp2_with fail
        go_ret
        exact ⟨by rw [HN.out]; rfl, HB_3.out⟩
      case pos =>
        exact pvalid_go P N ds A c w hA h0 h1 h2
theorem pvalid_yes (P N : Int) (ds : List Dt) (A : Option Addr) (c : Nat) (w : World) (hA : Dz w A ds) (hz : ds.length ≤ 9000000000000000000) (hv : Vd P N ds) :
    Calls Try.prog 20 #[.agg #[.int .i64 P, .int .i64 N, .slice A ds.length c]] w fun e w' => e = .returned (.bool true) ∧ Below w.heap.size w w' := by
  have := pvalid_any P N ds A c w hA hz
  rwa [decide_eq_true hv] at this
theorem pvalid_not (P N : Int) (ds : List Dt) (A : Option Addr) (c : Nat) (w : World) (hA : Dz w A ds) (hz : ds.length ≤ 9000000000000000000) (hv : ¬ Vd P N ds) :
    Calls Try.prog 20 #[.agg #[.int .i64 P, .int .i64 N, .slice A ds.length c]] w fun e w' => e = .returned (.bool false) ∧ Below w.heap.size w w' := by
  have := pvalid_any P N ds A c w hA hz
  rwa [decide_eq_false hv] at this
end Go.Proofs.Ytamogfcedkjmcaa
