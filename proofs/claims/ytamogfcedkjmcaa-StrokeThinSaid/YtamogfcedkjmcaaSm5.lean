
/- The contract of the reference's Same. Conditions: the slices read. -/
import Derived.Test.YtamogfcedkjmcaaSt5
namespace Go.Proofs.Ytamogfcedkjmcaa
open Go.RowKit Go.Lib Go.Shelf

/-- Equal strokes. -/
def SameS (P N P2 N2 : Int) (ds es : List Dt) : Prop := P = P2 ∧ N = N2 ∧ ds = es
instance (P N P2 N2 : Int) (ds es : List Dt) : Decidable (SameS P N P2 N2 ds es) := by unfold SameS; infer_instance
set_option maxRecDepth 100000 in
set_option maxHeartbeats 4000000 in
theorem rsame_any (P N P2 N2 : Int) (ds es : List Dt) (A A2 : Option Addr) (c c2 : Nat) (w : World) (hA : Dz w A ds) (hA2 : Dz w A2 es) (hz : ds.length ≤ 9000000000000000000) (hz2 : es.length ≤ 9000000000000000000) :
    Calls Try.prog 25 #[.agg #[.int .i64 P, .int .i64 N, .slice A ds.length c], .agg #[.int .i64 P2, .int .i64 N2, .slice A2 es.length c2]] w fun e w' => e = .returned (.bool (decide (SameS P N P2 N2 ds es))) ∧ Below w.heap.size w w' := by
  have S_0 : Hid (Blk ((w.alloc (.cells #[.int .i64 P, .int .i64 N, .slice A ds.length c] 27)).alloc (.cells #[.int .i64 P2, .int .i64 N2, .slice A2 es.length c2] 27)) w.heap.size 27 #[.int .i64 P, .int .i64 N, .slice A ds.length c]) := allocs_blk [(#[.int .i64 P, .int .i64 N, .slice A ds.length c], 27), (#[.int .i64 P2, .int .i64 N2, .slice A2 es.length c2], 27)] w 0 _ rfl
  have T_0 : Hid (Blk ((w.alloc (.cells #[.int .i64 P, .int .i64 N, .slice A ds.length c] 27)).alloc (.cells #[.int .i64 P2, .int .i64 N2, .slice A2 es.length c2] 27)) (w.heap.size + 1) 27 #[.int .i64 P2, .int .i64 N2, .slice A2 es.length c2]) := allocs_blk [(#[.int .i64 P, .int .i64 N, .slice A ds.length c], 27), (#[.int .i64 P2, .int .i64 N2, .slice A2 es.length c2], 27)] w 1 _ rfl
  have HB_0 : Hid (Below w.heap.size w ((w.alloc (.cells #[.int .i64 P, .int .i64 N, .slice A ds.length c] 27)).alloc (.cells #[.int .i64 P2, .int .i64 N2, .slice A2 es.length c2] 27))) := allocs_below [(#[.int .i64 P, .int .i64 N, .slice A ds.length c], 27), (#[.int .i64 P2, .int .i64 N2, .slice A2 es.length c2], 27)] w (Below.refl w.heap.size w) (Nat.le_refl _)
  by_cases h1 : P = P2
  case neg =>
    have HR : Hid (decide (SameS P N P2 N2 ds es) = false) := Lib.hid (decide_eq_false fun h => h1 h.1)
    clear hA hA2 hz hz2
    have yy0 := S_0.out.cell (i := 0) (v := .int .i64 P) rfl; have yy1 := S_0.out.cell (i := 1) (v := .int .i64 N) rfl; have yy2 := S_0.out.cell (i := 2) (v := .slice A ds.length c) rfl
    have yy3 := T_0.out.cell (i := 0) (v := .int .i64 P2) rfl; have yy4 := T_0.out.cell (i := 1) (v := .int .i64 N2) rfl; have yy5 := T_0.out.cell (i := 2) (v := .slice A2 es.length c2) rfl
    go_enter Try.func25, Try.ntmps25
    go_wp2_with fail
    go_ret
    exact ⟨by rw [HR.out]; rfl, HB_0.out⟩
  case pos =>
    subst h1
    by_cases h2 : N = N2
    case neg =>
      have HR : Hid (decide (SameS P N P N2 ds es) = false) := Lib.hid (decide_eq_false fun h => h2 h.2.1)
      clear hA hA2 hz hz2
      have yy0 := S_0.out.cell (i := 0) (v := .int .i64 P) rfl; have yy1 := S_0.out.cell (i := 1) (v := .int .i64 N) rfl; have yy2 := S_0.out.cell (i := 2) (v := .slice A ds.length c) rfl
      have yy3 := T_0.out.cell (i := 0) (v := .int .i64 P) rfl; have yy4 := T_0.out.cell (i := 1) (v := .int .i64 N2) rfl; have yy5 := T_0.out.cell (i := 2) (v := .slice A2 es.length c2) rfl
      go_enter Try.func25, Try.ntmps25
      go_wp2_with fail
      go_ret
      exact ⟨by rw [HR.out]; rfl, HB_0.out⟩
    case pos =>
      subst h2
      by_cases h3 : ds.length = es.length
      case neg =>
        have HR : Hid (decide (SameS P N P N ds es) = false) := Lib.hid (decide_eq_false fun h => h3 (by rw [h.2.2]))
        have h3b : ¬ ((ds.length : Int) = (es.length : Int)) := by omega
        clear hA hA2 hz hz2
        have yy0 := S_0.out.cell (i := 0) (v := .int .i64 P) rfl; have yy1 := S_0.out.cell (i := 1) (v := .int .i64 N) rfl; have yy2 := S_0.out.cell (i := 2) (v := .slice A ds.length c) rfl
        have yy3 := T_0.out.cell (i := 0) (v := .int .i64 P) rfl; have yy4 := T_0.out.cell (i := 1) (v := .int .i64 N) rfl; have yy5 := T_0.out.cell (i := 2) (v := .slice A2 es.length c2) rfl
        go_enter Try.func25, Try.ntmps25
        go_wp2_with fail
        go_ret
        exact ⟨by rw [HR.out]; rfl, HB_0.out⟩
      case pos =>
        have HL := Lib.hid h3; clear h3
        have HSP : Hid (∀ v, (v = true ↔ ∀ i, i < ds.length → ds[i]? = es[i]?) → decide (SameS P N P N ds es) = v) := fun v hv => by
          have h9 : SameS P N P N ds es ↔ ∀ i, i < ds.length → ds[i]? = es[i]? := ⟨fun h i hi => by have h8 := h.2.2; subst h8; rfl, fun h => ⟨rfl, rfl, List.ext_getElem? fun i => by
            by_cases hi : i < ds.length
            · exact h i hi
            · rw [List.getElem?_eq_none (by omega), List.getElem?_eq_none (by have := HL.out; omega)]⟩⟩
          cases v with
          | true => exact decide_eq_true (h9.2 (hv.1 rfl))
          | false => exact decide_eq_false fun h => by cases hv.2 (h9.1 h)
        have HAT : Hid (∀ W, Below w.heap.size w W → 0 < ds.length → ∃ b o, A = some ⟨b, o, none⟩ ∧ ∀ i (hi : i < ds.length), W.cell? ⟨b, o + i * 4, none⟩ = some (.int .i64 ds[i].x) ∧ W.cell? ⟨b, o + i * 4 + 1, none⟩ = some (.int .i64 ds[i].y) ∧ W.cell? ⟨b, o + i * 4 + 2, none⟩ = some (.int .i64 ds[i].t) ∧ W.cell? ⟨b, o + i * 4 + 3, none⟩ = some (.int .i64 ds[i].p)) := fun W hb h0 => by
          obtain ⟨b, o, he, -, hc⟩ := (hA.below hb (Nat.le_refl _)) h0
          exact ⟨b, o, he, hc⟩
        have HAU : Hid (∀ W, Below w.heap.size w W → 0 < es.length → ∃ b o, A2 = some ⟨b, o, none⟩ ∧ ∀ i (hi : i < es.length), W.cell? ⟨b, o + i * 4, none⟩ = some (.int .i64 es[i].x) ∧ W.cell? ⟨b, o + i * 4 + 1, none⟩ = some (.int .i64 es[i].y) ∧ W.cell? ⟨b, o + i * 4 + 2, none⟩ = some (.int .i64 es[i].t) ∧ W.cell? ⟨b, o + i * 4 + 3, none⟩ = some (.int .i64 es[i].p)) := fun W hb h0 => by
          obtain ⟨b, o, he, -, hc⟩ := (hA2.below hb (Nat.le_refl _)) h0
          exact ⟨b, o, he, hc⟩
        have HZ := Lib.hid hz
        clear hA hA2 hz hz2
        have h3i : (ds.length : Int) = (es.length : Int) := by have := HL.out; omega
        have yy0 := S_0.out.cell (i := 0) (v := .int .i64 P) rfl; have yy1 := S_0.out.cell (i := 1) (v := .int .i64 N) rfl; have yy2 := S_0.out.cell (i := 2) (v := .slice A ds.length c) rfl
        have yy3 := T_0.out.cell (i := 0) (v := .int .i64 P) rfl; have yy4 := T_0.out.cell (i := 1) (v := .int .i64 N) rfl; have yy5 := T_0.out.cell (i := 2) (v := .slice A2 es.length c2) rfl
        go_enter Try.func25, Try.ntmps25
        go_wp2_with fail
        clear yy0 yy1 yy2 yy3 yy4 yy5
        go_loopw [5] (fun ii wr => ∃ i : Nat, ii = .int .i64 i ∧ i ≤ ds.length ∧ (∀ j, j < i → ds[j]? = es[j]?) ∧ Below ((w.alloc (.cells #[.int .i64 P, .int .i64 N, .slice A ds.length c] 27)).alloc (.cells #[.int .i64 P, .int .i64 N, .slice A2 es.length c2] 27)).heap.size ((w.alloc (.cells #[.int .i64 P, .int .i64 N, .slice A ds.length c] 27)).alloc (.cells #[.int .i64 P, .int .i64 N, .slice A2 es.length c2] 27)) wr) (fun ii _ => ds.length - (intOf ii).toNat)
        case atStart => exact ⟨0, rfl, by omega, fun j h => absurd h (by omega), Below.refl _ _⟩
        case round =>
          clear h3i
          obtain ⟨i, rfl, hi, hok, hb⟩ := hrel
          have HBR := Lib.hid hb; have HOK := Lib.hid hok; clear hok
          have S_1 : Hid (Blk wr w.heap.size 27 #[.int .i64 P, .int .i64 N, .slice A ds.length c]) := Lib.hid (S_0.out.below hb S_0.out.lt)
          have T_1 : Hid (Blk wr (w.heap.size + 1) 27 #[.int .i64 P, .int .i64 N, .slice A2 es.length c2]) := Lib.hid (T_0.out.below hb T_0.out.lt)
          have HB_1 : Hid (Below w.heap.size w wr) := Lib.hid (HB_0.out.trans (hb.mono HB_0.out.size))
          clear hb S_0 T_0 HB_0
          by_cases hlt : i < ds.length
          case neg =>
            have HR := Lib.hid (HSP.out true ⟨fun _ j hj => HOK.out j (by omega), fun _ => rfl⟩)
            obtain rfl : i = ds.length := by omega
            have yy0 := S_1.out.cell (i := 0) (v := .int .i64 P) rfl; have yy1 := S_1.out.cell (i := 1) (v := .int .i64 N) rfl; have yy2 := S_1.out.cell (i := 2) (v := .slice A ds.length c) rfl
            have yy3 := T_1.out.cell (i := 0) (v := .int .i64 P) rfl; have yy4 := T_1.out.cell (i := 1) (v := .int .i64 N) rfl; have yy5 := T_1.out.cell (i := 2) (v := .slice A2 es.length c2) rfl
            go_wp2_with fail
            go_ret
            exact ⟨by rw [HR.out]; rfl, HB_1.out⟩
          case pos =>
            obtain ⟨b, o, rfl, hc⟩ := HAT.out wr HB_1.out (by omega)
            obtain ⟨b2, o2, rfl, hc2⟩ := HAU.out wr HB_1.out (by have := HL.out; omega)
            have hlt2 : i < es.length := by have := HL.out; omega
            have hD := hc i hlt
            have hE := hc2 i hlt2
            obtain ⟨d, hd⟩ : ∃ d, d = ds[i] := ⟨_, rfl⟩
            obtain ⟨e, he⟩ : ∃ e, e = es[i] := ⟨_, rfl⟩
            rw [← hd] at hD; rw [← he] at hE
            obtain ⟨d0, d1, d2, d3⟩ := hD
            obtain ⟨e0, e1, e2, e3⟩ := hE
            have q1 : (0 : Int) ≤ (i : Int) := by omega
            have q2 : (i : Int) < (ds.length : Int) := by omega
            have q4 : (i : Int) < (es.length : Int) := by omega
            have hde1 : ds[i]? = some d := by rw [hd]; exact List.getElem?_eq_getElem hlt
            have hde2 : es[i]? = some e := by rw [he]; exact List.getElem?_eq_getElem hlt2
            have HDE := Lib.hid (And.intro hde1 hde2)
            have HI := Lib.hid hlt
            clear hc hc2 hd he hde1 hde2 hlt hlt2 hi
            by_cases hde : d = e
            case pos =>
              subst hde
              have yy0 := S_1.out.cell (i := 0) (v := .int .i64 P) rfl; have yy1 := S_1.out.cell (i := 1) (v := .int .i64 N) rfl; have yy2 := S_1.out.cell (i := 2) (v := .slice (some ⟨b, o, none⟩) ds.length c) rfl
              have yy3 := T_1.out.cell (i := 0) (v := .int .i64 P) rfl; have yy4 := T_1.out.cell (i := 1) (v := .int .i64 N) rfl; have yy5 := T_1.out.cell (i := 2) (v := .slice (some ⟨b2, o2, none⟩) es.length c2) rfl
              go_wp2_with fail
              refine wp_region_held_drew (S := (fun w' => w'.cell? ⟨w.heap.size, 2, none⟩ = some (.slice (some ⟨b, o, none⟩) ds.length c) ∧ w'.cell? ⟨(w.heap.size + 1), 2, none⟩ = some (.slice (some ⟨b2, o2, none⟩) es.length c2) ∧ w'.cell? ⟨b, o + i * 4, none⟩ = some (.int .i64 d.x) ∧ w'.cell? ⟨b, o + i * 4 + 1, none⟩ = some (.int .i64 d.y) ∧ w'.cell? ⟨b, o + i * 4 + 2, none⟩ = some (.int .i64 d.t) ∧ w'.cell? ⟨b, o + i * 4 + 3, none⟩ = some (.int .i64 d.p) ∧ w'.cell? ⟨b2, o2 + i * 4, none⟩ = some (.int .i64 d.x) ∧ w'.cell? ⟨b2, o2 + i * 4 + 1, none⟩ = some (.int .i64 d.y) ∧ w'.cell? ⟨b2, o2 + i * 4 + 2, none⟩ = some (.int .i64 d.t) ∧ w'.cell? ⟨b2, o2 + i * 4 + 3, none⟩ = some (.int .i64 d.p))) (by kernel_rfl) (⟨yy2, yy5, d0, d1, d2, d3, e0, e1, e2, e3⟩) (fun hHeld => ?_)
              refine held_take 0 (some 34) ?_ rfl rfl (by kernel_rfl) (fun _ _ _ h => h) (by kernel_rfl) ?_ (by assumption) ?_
              rotate_left
              · intro wS hS; (try dsimp only at hS); go_simp <;> with_reducible rfl
              simp only [Act.put, List.setIfInBounds_toArray, List.set_cons_zero, List.set_cons_succ]
              refine held_take 1 (some 35) ?_ rfl rfl (by kernel_rfl) (fun _ _ _ h => h) (by kernel_rfl) ?_ (by assumption) ?_
              rotate_left
              · intro wS hS; (try dsimp only at hS); go_simp <;> with_reducible rfl
              simp only [Act.put, List.setIfInBounds_toArray, List.set_cons_zero, List.set_cons_succ]
              refine held_take 2 (some 36) ?_ rfl rfl (by kernel_rfl) (fun _ _ _ h => h) (by kernel_rfl) ?_ (by assumption) ?_
              rotate_left
              · intro wS hS; (try dsimp only at hS); go_simp <;> with_reducible rfl
              simp only [Act.put, List.setIfInBounds_toArray, List.set_cons_zero, List.set_cons_succ]
              refine held_take 3 (some 37) ?_ rfl rfl (by kernel_rfl) (fun _ _ _ h => h) (by kernel_rfl) ?_ (by assumption) ?_
              rotate_left
              · intro wS hS; (try dsimp only at hS); go_simp <;> with_reducible rfl
              simp only [Act.put, List.setIfInBounds_toArray, List.set_cons_zero, List.set_cons_succ]
              refine held_take 4 (some 38) ?_ rfl rfl (by kernel_rfl) (fun _ _ _ h => h) (by kernel_rfl) ?_ (by assumption) ?_
              rotate_left
              · intro wS hS; (try dsimp only at hS); go_simp <;> with_reducible rfl
              simp only [Act.put, List.setIfInBounds_toArray, List.set_cons_zero, List.set_cons_succ]
              refine held_take 5 (some 39) ?_ rfl rfl (by kernel_rfl) (fun _ _ _ h => h) (by kernel_rfl) ?_ (by assumption) ?_
              rotate_left
              · intro wS hS; (try dsimp only at hS); go_simp <;> with_reducible rfl
              simp only [Act.put, List.setIfInBounds_toArray, List.set_cons_zero, List.set_cons_succ]
              refine held_take 6 (some 40) ?_ rfl rfl (by kernel_rfl) (fun _ _ _ h => h) (by kernel_rfl) ?_ (by assumption) ?_
              rotate_left
              · intro wS hS; (try dsimp only at hS); go_simp <;> with_reducible rfl
              simp only [Act.put, List.setIfInBounds_toArray, List.set_cons_zero, List.set_cons_succ]
              refine held_take 7 (some 41) ?_ rfl rfl (by kernel_rfl) (fun _ _ _ h => h) (by kernel_rfl) ?_ (by assumption) ?_
              rotate_left
              · intro wS hS; (try dsimp only at hS); go_simp <;> with_reducible rfl
              simp only [Act.put, List.setIfInBounds_toArray, List.set_cons_zero, List.set_cons_succ]
              refine held_take 8 (some 42) ?_ rfl rfl (by kernel_rfl) (fun _ _ _ h => h) (by kernel_rfl) ?_ (by assumption) ?_
              rotate_left
              · intro wS hS; (try dsimp only at hS); go_simp <;> with_reducible rfl
              simp only [Act.put, List.setIfInBounds_toArray, List.set_cons_zero, List.set_cons_succ]
              refine held_take 9 (some 43) ?_ rfl rfl (by kernel_rfl) (fun _ _ _ h => h) (by kernel_rfl) ?_ (by assumption) ?_
              rotate_left
              · intro wS hS; (try dsimp only at hS); go_simp <;> with_reducible rfl
              simp only [Act.put, List.setIfInBounds_toArray, List.set_cons_zero, List.set_cons_succ]
              refine held_take 10 (some 44) ?_ rfl rfl (by kernel_rfl) (fun _ _ _ h => h) (by kernel_rfl) ?_ (by assumption) ?_
              rotate_left
              · intro wS hS; (try dsimp only at hS); go_simp <;> with_reducible rfl
              simp only [Act.put, List.setIfInBounds_toArray, List.set_cons_zero, List.set_cons_succ]
              refine wpAnyH_done (by kernel_rfl) ?_ _
              have q5 : (i : Int) + 1 ≤ 9223372036854775807 := by have := HI.out; have := HZ.out; omega
              go_wp2_with fail
              go_roundw
              case rel => exact ⟨i + 1, by go_num, by have := HI.out; omega, fun j hj => by
                by_cases hji : j = i
                · rw [hji, HDE.out.1, HDE.out.2]
                · exact HOK.out j (by omega), HBR.out.trans (((Below.refl wr.heap.size wr).drew).mono HBR.out.size)⟩
              case measure => have := HI.out; simp [intOf]; omega
            case neg =>
              have hne : ¬ (d.x = e.x ∧ d.y = e.y ∧ d.t = e.t ∧ d.p = e.p) := fun h => hde (by cases d; cases e; simp only [Dt.mk.injEq]; exact h)
              have HNE := Lib.hid hne; clear hde hne
              have yy0 := S_1.out.cell (i := 0) (v := .int .i64 P) rfl; have yy1 := S_1.out.cell (i := 1) (v := .int .i64 N) rfl; have yy2 := S_1.out.cell (i := 2) (v := .slice (some ⟨b, o, none⟩) ds.length c) rfl
              have yy3 := T_1.out.cell (i := 0) (v := .int .i64 P) rfl; have yy4 := T_1.out.cell (i := 1) (v := .int .i64 N) rfl; have yy5 := T_1.out.cell (i := 2) (v := .slice (some ⟨b2, o2, none⟩) es.length c2) rfl
              go_wp2_with fail
              refine wp_region_held_drew (S := (fun w' => w'.cell? ⟨w.heap.size, 2, none⟩ = some (.slice (some ⟨b, o, none⟩) ds.length c) ∧ w'.cell? ⟨(w.heap.size + 1), 2, none⟩ = some (.slice (some ⟨b2, o2, none⟩) es.length c2) ∧ w'.cell? ⟨b, o + i * 4, none⟩ = some (.int .i64 d.x) ∧ w'.cell? ⟨b, o + i * 4 + 1, none⟩ = some (.int .i64 d.y) ∧ w'.cell? ⟨b, o + i * 4 + 2, none⟩ = some (.int .i64 d.t) ∧ w'.cell? ⟨b, o + i * 4 + 3, none⟩ = some (.int .i64 d.p) ∧ w'.cell? ⟨b2, o2 + i * 4, none⟩ = some (.int .i64 e.x) ∧ w'.cell? ⟨b2, o2 + i * 4 + 1, none⟩ = some (.int .i64 e.y) ∧ w'.cell? ⟨b2, o2 + i * 4 + 2, none⟩ = some (.int .i64 e.t) ∧ w'.cell? ⟨b2, o2 + i * 4 + 3, none⟩ = some (.int .i64 e.p))) (by kernel_rfl) (⟨yy2, yy5, d0, d1, d2, d3, e0, e1, e2, e3⟩) (fun hHeld => ?_)
              refine held_take 0 (some 34) ?_ rfl rfl (by kernel_rfl) (fun _ _ _ h => h) (by kernel_rfl) ?_ (by assumption) ?_
              rotate_left
              · intro wS hS; (try dsimp only at hS); go_simp <;> with_reducible rfl
              simp only [Act.put, List.setIfInBounds_toArray, List.set_cons_zero, List.set_cons_succ]
              refine held_take 1 (some 35) ?_ rfl rfl (by kernel_rfl) (fun _ _ _ h => h) (by kernel_rfl) ?_ (by assumption) ?_
              rotate_left
              · intro wS hS; (try dsimp only at hS); go_simp <;> with_reducible rfl
              simp only [Act.put, List.setIfInBounds_toArray, List.set_cons_zero, List.set_cons_succ]
              refine held_take 2 (some 36) ?_ rfl rfl (by kernel_rfl) (fun _ _ _ h => h) (by kernel_rfl) ?_ (by assumption) ?_
              rotate_left
              · intro wS hS; (try dsimp only at hS); go_simp <;> with_reducible rfl
              simp only [Act.put, List.setIfInBounds_toArray, List.set_cons_zero, List.set_cons_succ]
              refine held_take 3 (some 37) ?_ rfl rfl (by kernel_rfl) (fun _ _ _ h => h) (by kernel_rfl) ?_ (by assumption) ?_
              rotate_left
              · intro wS hS; (try dsimp only at hS); go_simp <;> with_reducible rfl
              simp only [Act.put, List.setIfInBounds_toArray, List.set_cons_zero, List.set_cons_succ]
              refine held_take 4 (some 38) ?_ rfl rfl (by kernel_rfl) (fun _ _ _ h => h) (by kernel_rfl) ?_ (by assumption) ?_
              rotate_left
              · intro wS hS; (try dsimp only at hS); go_simp <;> with_reducible rfl
              simp only [Act.put, List.setIfInBounds_toArray, List.set_cons_zero, List.set_cons_succ]
              refine held_take 5 (some 39) ?_ rfl rfl (by kernel_rfl) (fun _ _ _ h => h) (by kernel_rfl) ?_ (by assumption) ?_
              rotate_left
              · intro wS hS; (try dsimp only at hS); go_simp <;> with_reducible rfl
              simp only [Act.put, List.setIfInBounds_toArray, List.set_cons_zero, List.set_cons_succ]
              refine held_take 6 (some 40) ?_ rfl rfl (by kernel_rfl) (fun _ _ _ h => h) (by kernel_rfl) ?_ (by assumption) ?_
              rotate_left
              · intro wS hS; (try dsimp only at hS); go_simp <;> with_reducible rfl
              simp only [Act.put, List.setIfInBounds_toArray, List.set_cons_zero, List.set_cons_succ]
              refine held_take 7 (some 41) ?_ rfl rfl (by kernel_rfl) (fun _ _ _ h => h) (by kernel_rfl) ?_ (by assumption) ?_
              rotate_left
              · intro wS hS; (try dsimp only at hS); go_simp <;> with_reducible rfl
              simp only [Act.put, List.setIfInBounds_toArray, List.set_cons_zero, List.set_cons_succ]
              refine held_take 8 (some 42) ?_ rfl rfl (by kernel_rfl) (fun _ _ _ h => h) (by kernel_rfl) ?_ (by assumption) ?_
              rotate_left
              · intro wS hS; (try dsimp only at hS); go_simp <;> with_reducible rfl
              simp only [Act.put, List.setIfInBounds_toArray, List.set_cons_zero, List.set_cons_succ]
              refine held_take 9 (some 43) ?_ rfl rfl (by kernel_rfl) (fun _ _ _ h => h) (by kernel_rfl) ?_ (by assumption) ?_
              rotate_left
              · intro wS hS; (try dsimp only at hS); go_simp <;> with_reducible rfl
              simp only [Act.put, List.setIfInBounds_toArray, List.set_cons_zero, List.set_cons_succ]
              refine held_take 10 (some 44) (.bool true) rfl rfl (by kernel_rfl) (fun _ _ _ h => h) (by kernel_rfl) ?_ (by assumption) ?_
              · intro wS hS; (try dsimp only at hS); go_simp
                intro a1 a2 a3 a4; exact HNE.out ⟨a1, a2, a3, a4⟩
              simp only [Act.put, List.setIfInBounds_toArray, List.set_cons_zero, List.set_cons_succ]
              refine wpAnyH_done (by kernel_rfl) ?_ _
              have HR := Lib.hid (HSP.out false ⟨fun h => (by cases h), fun h => by
                have h5 := h i HI.out
                rw [HDE.out.1, HDE.out.2, Option.some.injEq] at h5
                exact absurd (by rw [h5]; exact ⟨rfl, rfl, rfl, rfl⟩) HNE.out⟩)
              go_wp2_with fail
              go_ret
              exact ⟨by rw [HR.out]; rfl, HB_1.out.drew⟩
end Go.Proofs.Ytamogfcedkjmcaa
