
/- The contracts of the reference's SameSkews and SameStamps. Conditions: the slices read. -/
import Derived.Test.YtbcgfohacbapoaaNx6
import Derived.Laws.StructEq
namespace Go.Proofs.Ytbcgfohacbapoaa
open Go.RowKit Go.Lib

theorem Rz.cell0 {α : Type} {cs : α → List Value} {k : Nat} {w : World} {b o : Nat} {l : List α} (h : Rz cs k w (Option.some ⟨b, o, none⟩) l) {i : Nat} (hi : i < l.length) {v : Value} (hv : (cs l[i])[0]? = Option.some v) : w.cell? ⟨b, o + i * k, none⟩ = Option.some v := h.at hi (j := 0) hv
set_option maxRecDepth 100000 in
set_option maxHeartbeats 8000000 in
theorem rsameskews_any (a b : List Sk) (A B : Option Addr) (c d : Nat) (w : World) (hA : Kz w A a) (hB : Kz w B b) (hz : a.length ≤ 9000000000000000000) (_ : b.length ≤ 9000000000000000000) :
    Calls Try.prog 56 #[.slice A a.length c, .slice B b.length d] w fun e w' => e = .returned (.bool (decide (a = b))) ∧ Below w.heap.size w w' := by
  have HA := Lib.hid (fun W (hb : Below w.heap.size w W) => hA.below hb (Nat.le_refl _)); have HB := Lib.hid (fun W (hb : Below w.heap.size w W) => hB.below hb (Nat.le_refl _))
  clear hA hB
  by_cases hl : a.length = b.length
  case neg =>
    have HE : Hid (decide (a = b) = false) := Lib.hid (decide_eq_false fun h => hl (by rw [h]))
    have d1 : ((a.length : Int) == (b.length : Int)) = false := by rw [beq_eq_false_iff_ne]; omega
    have d2 : (a.length == b.length) = false := by rw [beq_eq_false_iff_ne]; exact hl
    clear hl
    go_enter Try.func56, Try.ntmps56
    go_wp2_with fail
    go_ret
    exact ⟨by rw [HE.out]; rfl, Below.refl _ _⟩
  case pos =>
    obtain ⟨n, hn⟩ : ∃ n, n = a.length := ⟨_, rfl⟩
    have hn2 : b.length = n := by omega
    have HN := Lib.hid (And.intro hn hn2)
    rw [← hn, hn2]
    have hz2 : n ≤ 9000000000000000000 := by omega
    clear hl hn hn2 hz
    go_enter Try.func56, Try.ntmps56
    go_wp2_with fail
    go_loopw [5] (fun ii wr => ∃ i : Nat, ii = .int .i64 i ∧ i ≤ n ∧ (∀ j (h1 : j < a.length) (h2 : j < b.length), j < i → a[j] = b[j]) ∧ Below w.heap.size w wr) (fun ii _ => n - (intOf ii).toNat)
    case atStart => exact ⟨0, rfl, Nat.zero_le _, fun j _ _ h => absurd h (by omega), Below.refl _ _⟩
    case round =>
      obtain ⟨i, rfl, hi, heq, hB⟩ := hrel
      have HEQ := Lib.hid heq; have HBB := Lib.hid hB; clear heq hB
      by_cases hlt : i < n
      case neg =>
        obtain rfl : i = n := by omega
        have HE : Hid (decide (a = b) = true) := Lib.hid (decide_eq_true (List.ext_getElem (by have := HN.out; omega) fun j h1 h2 => HEQ.out j h1 h2 (by have := HN.out; omega)))
        clear hlt hi
        go_wp2_with fail
        go_ret
        exact ⟨by rw [HE.out]; rfl, HBB.out⟩
      case pos =>
        have hia : i < a.length := by have := HN.out; omega
        have hib : i < b.length := by have := HN.out; omega
        obtain ⟨ba, oa, rfl⟩ := Rz.some (HA.out wr HBB.out) (by omega)
        obtain ⟨bb, ob, rfl⟩ := Rz.some (HB.out wr HBB.out) (by omega)
        have HXX := Lib.hid (fun W (hb : Below w.heap.size w W) => Kz.cell (HA.out W hb) (Below.refl W.heap.size W) (Nat.le_refl _) hia)
        have HYY := Lib.hid (fun W (hb : Below w.heap.size w W) => Kz.cell (HB.out W hb) (Below.refl W.heap.size W) (Nat.le_refl _) hib)
        have HNE : Hid (a[i] ≠ b[i] → decide (a = b) = false) := Lib.hid (fun h => decide_eq_false fun hh => h (by subst hh; rfl))
        have HGO : Hid (a[i] = b[i] → ∀ j (h1 : j < a.length) (h2 : j < b.length), j < i + 1 → a[j] = b[j]) := Lib.hid (fun h j h1 h2 hj => by
          by_cases e : j = i
          · subst e; exact h
          · exact HEQ.out j h1 h2 (by omega))
        obtain ⟨x, hx⟩ : ∃ x, x = a[i] := ⟨_, rfl⟩
        obtain ⟨y, hy⟩ : ∃ y, y = b[i] := ⟨_, rfl⟩
        rw [← hx] at HXX HNE HGO; rw [← hy] at HYY HNE HGO
        have q1 : (0 : Int) ≤ (i : Int) := by omega
        have q2 : (i : Int) < (n : Int) := by omega
        have q5 : (i : Int) + 1 ≤ 9223372036854775807 := by omega
        have HI := Lib.hid hlt
        clear hx hy hlt hi hia hib
        obtain ⟨x1, x2, x3⟩ := x
        obtain ⟨y1, y2, y3⟩ := y
        dsimp only at HXX HYY HNE HGO
        by_cases c1 : x1 = y1
        case neg =>
          have HN2 := Lib.hid (HNE.out (fun h => c1 (by simp only [Sk.mk.injEq] at h; exact h.1)))
          have t1 : (x1 == y1) = false := by simpa using c1
          clear c1
          go_wp2_with fail
          refine wp_region_grow (S := (fun w' => w'.cell? ⟨ba, oa + i * 3, none⟩ = some (.int .i64 x1) ∧ w'.cell? ⟨ba, oa + i * 3 + 1, none⟩ = some (.int .i64 x2) ∧ w'.cell? ⟨ba, oa + i * 3 + 2, none⟩ = some (.int .i64 x3) ∧ w'.cell? ⟨bb, ob + i * 3, none⟩ = some (.int .i64 y1) ∧ w'.cell? ⟨bb, ob + i * 3 + 1, none⟩ = some (.int .i64 y2) ∧ w'.cell? ⟨bb, ob + i * 3 + 2, none⟩ = some (.int .i64 y3))) ((fun w' => Below wr.heap.size wr w')) (by kernel_rfl) (⟨fun w2 h2 => ⟨(HXX.out _ (HBB.out.trans (h2.mono HBB.out.size))).1, (HXX.out _ (HBB.out.trans (h2.mono HBB.out.size))).2.1, (HXX.out _ (HBB.out.trans (h2.mono HBB.out.size))).2.2, (HYY.out _ (HBB.out.trans (h2.mono HBB.out.size))).1, (HYY.out _ (HBB.out.trans (h2.mono HBB.out.size))).2.1, (HYY.out _ (HBB.out.trans (h2.mono HBB.out.size))).2.2⟩, fun w2 w3 h2 hb2 => h2.trans (hb2.mono h2.size)⟩) ((Below.refl wr.heap.size wr).drew) (fun hCalm => ?_)
          refine grow_take 0 (some 17) ?_ rfl rfl (by kernel_rfl) (fun _ _ _ h => h) (by kernel_rfl) hCalm ?_ ?_
          rotate_left
          · intro wS hS; (try dsimp only at hS); go_simp <;> with_reducible rfl
          try simp only [Act.put, List.setIfInBounds_toArray, List.set_cons_zero, List.set_cons_succ]
          refine grow_take 1 (some 18) ?_ rfl rfl (by kernel_rfl) (fun _ _ _ h => h) (by kernel_rfl) hCalm ?_ ?_
          rotate_left
          · intro wS hS; (try dsimp only at hS); go_simp <;> with_reducible rfl
          try simp only [Act.put, List.setIfInBounds_toArray, List.set_cons_zero, List.set_cons_succ]
          refine grow_take 2 (some 19) ?_ rfl rfl (by kernel_rfl) (fun _ _ _ h => h) (by kernel_rfl) hCalm ?_ ?_
          rotate_left
          · intro wS hS; (try dsimp only at hS); go_simp <;> with_reducible rfl
          try simp only [Act.put, List.setIfInBounds_toArray, List.set_cons_zero, List.set_cons_succ]
          refine grow_take 3 (some 20) ?_ rfl rfl (by kernel_rfl) (fun _ _ _ h => h) (by kernel_rfl) hCalm ?_ ?_
          rotate_left
          · intro wS hS; (try dsimp only at hS); go_simp <;> with_reducible rfl
          try simp only [Act.put, List.setIfInBounds_toArray, List.set_cons_zero, List.set_cons_succ]
          refine grow_take 4 (some 21) ?_ rfl rfl (by kernel_rfl) (fun _ _ _ h => h) (by kernel_rfl) hCalm ?_ ?_
          rotate_left
          · intro wS hS; (try dsimp only at hS); go_simp <;> with_reducible rfl
          try simp only [Act.put, List.setIfInBounds_toArray, List.set_cons_zero, List.set_cons_succ]
          refine grow_take 5 (some 22) ?_ rfl rfl (by kernel_rfl) (fun _ _ _ h => h) (by kernel_rfl) hCalm ?_ ?_
          rotate_left
          · intro wS hS; (try dsimp only at hS); go_simp <;> with_reducible rfl
          try simp only [Act.put, List.setIfInBounds_toArray, List.set_cons_zero, List.set_cons_succ]
          refine grow_take 6 (some 23) ?_ rfl rfl (by kernel_rfl) (fun _ _ _ h => h) (by kernel_rfl) hCalm ?_ ?_
          rotate_left
          · intro wS hS; (try dsimp only at hS); go_simp <;> with_reducible rfl
          try simp only [Act.put, List.setIfInBounds_toArray, List.set_cons_zero, List.set_cons_succ]
          refine grow_take 7 (some 24) ?_ rfl rfl (by kernel_rfl) (fun _ _ _ h => h) (by kernel_rfl) hCalm ?_ ?_
          rotate_left
          · intro wS hS; (try dsimp only at hS); go_simp <;> with_reducible rfl
          try simp only [Act.put, List.setIfInBounds_toArray, List.set_cons_zero, List.set_cons_succ]
          refine grow_take 8 (some 25) (.bool true) rfl rfl (by kernel_rfl) (fun _ _ _ h => h) (by kernel_rfl) hCalm ?_ ?_
          · intro wS hS; (try dsimp only at hS); go_simp
          try simp only [Act.put, List.setIfInBounds_toArray, List.set_cons_zero, List.set_cons_succ]
          refine grow_done (by kernel_rfl) (fun wA hA => ?_) _
          have HB5 := Lib.hid (HBB.out.trans (hA.mono HBB.out.size)); clear hA
          go_wp2_with fail
          go_ret
          exact ⟨by rw [HN2.out]; rfl, HB5.out⟩
        case pos =>
          subst c1
          by_cases c2 : x2 = y2
          case neg =>
            have HN2 := Lib.hid (HNE.out (fun h => c2 (by simp only [Sk.mk.injEq] at h; exact h.2.1)))
            have t2 : (x2 == y2) = false := by simpa using c2
            clear c2
            go_wp2_with fail
            refine wp_region_grow (S := (fun w' => w'.cell? ⟨ba, oa + i * 3, none⟩ = some (.int .i64 x1) ∧ w'.cell? ⟨ba, oa + i * 3 + 1, none⟩ = some (.int .i64 x2) ∧ w'.cell? ⟨ba, oa + i * 3 + 2, none⟩ = some (.int .i64 x3) ∧ w'.cell? ⟨bb, ob + i * 3, none⟩ = some (.int .i64 x1) ∧ w'.cell? ⟨bb, ob + i * 3 + 1, none⟩ = some (.int .i64 y2) ∧ w'.cell? ⟨bb, ob + i * 3 + 2, none⟩ = some (.int .i64 y3))) ((fun w' => Below wr.heap.size wr w')) (by kernel_rfl) (⟨fun w2 h2 => ⟨(HXX.out _ (HBB.out.trans (h2.mono HBB.out.size))).1, (HXX.out _ (HBB.out.trans (h2.mono HBB.out.size))).2.1, (HXX.out _ (HBB.out.trans (h2.mono HBB.out.size))).2.2, (HYY.out _ (HBB.out.trans (h2.mono HBB.out.size))).1, (HYY.out _ (HBB.out.trans (h2.mono HBB.out.size))).2.1, (HYY.out _ (HBB.out.trans (h2.mono HBB.out.size))).2.2⟩, fun w2 w3 h2 hb2 => h2.trans (hb2.mono h2.size)⟩) ((Below.refl wr.heap.size wr).drew) (fun hCalm => ?_)
            refine grow_take 0 (some 17) ?_ rfl rfl (by kernel_rfl) (fun _ _ _ h => h) (by kernel_rfl) hCalm ?_ ?_
            rotate_left
            · intro wS hS; (try dsimp only at hS); go_simp <;> with_reducible rfl
            try simp only [Act.put, List.setIfInBounds_toArray, List.set_cons_zero, List.set_cons_succ]
            refine grow_take 1 (some 18) ?_ rfl rfl (by kernel_rfl) (fun _ _ _ h => h) (by kernel_rfl) hCalm ?_ ?_
            rotate_left
            · intro wS hS; (try dsimp only at hS); go_simp <;> with_reducible rfl
            try simp only [Act.put, List.setIfInBounds_toArray, List.set_cons_zero, List.set_cons_succ]
            refine grow_take 2 (some 19) ?_ rfl rfl (by kernel_rfl) (fun _ _ _ h => h) (by kernel_rfl) hCalm ?_ ?_
            rotate_left
            · intro wS hS; (try dsimp only at hS); go_simp <;> with_reducible rfl
            try simp only [Act.put, List.setIfInBounds_toArray, List.set_cons_zero, List.set_cons_succ]
            refine grow_take 3 (some 20) ?_ rfl rfl (by kernel_rfl) (fun _ _ _ h => h) (by kernel_rfl) hCalm ?_ ?_
            rotate_left
            · intro wS hS; (try dsimp only at hS); go_simp <;> with_reducible rfl
            try simp only [Act.put, List.setIfInBounds_toArray, List.set_cons_zero, List.set_cons_succ]
            refine grow_take 4 (some 21) ?_ rfl rfl (by kernel_rfl) (fun _ _ _ h => h) (by kernel_rfl) hCalm ?_ ?_
            rotate_left
            · intro wS hS; (try dsimp only at hS); go_simp <;> with_reducible rfl
            try simp only [Act.put, List.setIfInBounds_toArray, List.set_cons_zero, List.set_cons_succ]
            refine grow_take 5 (some 22) ?_ rfl rfl (by kernel_rfl) (fun _ _ _ h => h) (by kernel_rfl) hCalm ?_ ?_
            rotate_left
            · intro wS hS; (try dsimp only at hS); go_simp <;> with_reducible rfl
            try simp only [Act.put, List.setIfInBounds_toArray, List.set_cons_zero, List.set_cons_succ]
            refine grow_take 6 (some 23) ?_ rfl rfl (by kernel_rfl) (fun _ _ _ h => h) (by kernel_rfl) hCalm ?_ ?_
            rotate_left
            · intro wS hS; (try dsimp only at hS); go_simp <;> with_reducible rfl
            try simp only [Act.put, List.setIfInBounds_toArray, List.set_cons_zero, List.set_cons_succ]
            refine grow_take 7 (some 24) ?_ rfl rfl (by kernel_rfl) (fun _ _ _ h => h) (by kernel_rfl) hCalm ?_ ?_
            rotate_left
            · intro wS hS; (try dsimp only at hS); go_simp <;> with_reducible rfl
            try simp only [Act.put, List.setIfInBounds_toArray, List.set_cons_zero, List.set_cons_succ]
            refine grow_take 8 (some 25) (.bool true) rfl rfl (by kernel_rfl) (fun _ _ _ h => h) (by kernel_rfl) hCalm ?_ ?_
            · intro wS hS; (try dsimp only at hS); go_simp
            try simp only [Act.put, List.setIfInBounds_toArray, List.set_cons_zero, List.set_cons_succ]
            refine grow_done (by kernel_rfl) (fun wA hA => ?_) _
            have HB5 := Lib.hid (HBB.out.trans (hA.mono HBB.out.size)); clear hA
            go_wp2_with fail
            go_ret
            exact ⟨by rw [HN2.out]; rfl, HB5.out⟩
          case pos =>
            subst c2
            by_cases c3 : x3 = y3
            case neg =>
              have HN2 := Lib.hid (HNE.out (fun h => c3 (by simp only [Sk.mk.injEq] at h; exact h.2.2)))
              have t3 : (x3 == y3) = false := by simpa using c3
              clear c3
              go_wp2_with fail
              refine wp_region_grow (S := (fun w' => w'.cell? ⟨ba, oa + i * 3, none⟩ = some (.int .i64 x1) ∧ w'.cell? ⟨ba, oa + i * 3 + 1, none⟩ = some (.int .i64 x2) ∧ w'.cell? ⟨ba, oa + i * 3 + 2, none⟩ = some (.int .i64 x3) ∧ w'.cell? ⟨bb, ob + i * 3, none⟩ = some (.int .i64 x1) ∧ w'.cell? ⟨bb, ob + i * 3 + 1, none⟩ = some (.int .i64 x2) ∧ w'.cell? ⟨bb, ob + i * 3 + 2, none⟩ = some (.int .i64 y3))) ((fun w' => Below wr.heap.size wr w')) (by kernel_rfl) (⟨fun w2 h2 => ⟨(HXX.out _ (HBB.out.trans (h2.mono HBB.out.size))).1, (HXX.out _ (HBB.out.trans (h2.mono HBB.out.size))).2.1, (HXX.out _ (HBB.out.trans (h2.mono HBB.out.size))).2.2, (HYY.out _ (HBB.out.trans (h2.mono HBB.out.size))).1, (HYY.out _ (HBB.out.trans (h2.mono HBB.out.size))).2.1, (HYY.out _ (HBB.out.trans (h2.mono HBB.out.size))).2.2⟩, fun w2 w3 h2 hb2 => h2.trans (hb2.mono h2.size)⟩) ((Below.refl wr.heap.size wr).drew) (fun hCalm => ?_)
              refine grow_take 0 (some 17) ?_ rfl rfl (by kernel_rfl) (fun _ _ _ h => h) (by kernel_rfl) hCalm ?_ ?_
              rotate_left
              · intro wS hS; (try dsimp only at hS); go_simp <;> with_reducible rfl
              try simp only [Act.put, List.setIfInBounds_toArray, List.set_cons_zero, List.set_cons_succ]
              refine grow_take 1 (some 18) ?_ rfl rfl (by kernel_rfl) (fun _ _ _ h => h) (by kernel_rfl) hCalm ?_ ?_
              rotate_left
              · intro wS hS; (try dsimp only at hS); go_simp <;> with_reducible rfl
              try simp only [Act.put, List.setIfInBounds_toArray, List.set_cons_zero, List.set_cons_succ]
              refine grow_take 2 (some 19) ?_ rfl rfl (by kernel_rfl) (fun _ _ _ h => h) (by kernel_rfl) hCalm ?_ ?_
              rotate_left
              · intro wS hS; (try dsimp only at hS); go_simp <;> with_reducible rfl
              try simp only [Act.put, List.setIfInBounds_toArray, List.set_cons_zero, List.set_cons_succ]
              refine grow_take 3 (some 20) ?_ rfl rfl (by kernel_rfl) (fun _ _ _ h => h) (by kernel_rfl) hCalm ?_ ?_
              rotate_left
              · intro wS hS; (try dsimp only at hS); go_simp <;> with_reducible rfl
              try simp only [Act.put, List.setIfInBounds_toArray, List.set_cons_zero, List.set_cons_succ]
              refine grow_take 4 (some 21) ?_ rfl rfl (by kernel_rfl) (fun _ _ _ h => h) (by kernel_rfl) hCalm ?_ ?_
              rotate_left
              · intro wS hS; (try dsimp only at hS); go_simp <;> with_reducible rfl
              try simp only [Act.put, List.setIfInBounds_toArray, List.set_cons_zero, List.set_cons_succ]
              refine grow_take 5 (some 22) ?_ rfl rfl (by kernel_rfl) (fun _ _ _ h => h) (by kernel_rfl) hCalm ?_ ?_
              rotate_left
              · intro wS hS; (try dsimp only at hS); go_simp <;> with_reducible rfl
              try simp only [Act.put, List.setIfInBounds_toArray, List.set_cons_zero, List.set_cons_succ]
              refine grow_take 6 (some 23) ?_ rfl rfl (by kernel_rfl) (fun _ _ _ h => h) (by kernel_rfl) hCalm ?_ ?_
              rotate_left
              · intro wS hS; (try dsimp only at hS); go_simp <;> with_reducible rfl
              try simp only [Act.put, List.setIfInBounds_toArray, List.set_cons_zero, List.set_cons_succ]
              refine grow_take 7 (some 24) ?_ rfl rfl (by kernel_rfl) (fun _ _ _ h => h) (by kernel_rfl) hCalm ?_ ?_
              rotate_left
              · intro wS hS; (try dsimp only at hS); go_simp <;> with_reducible rfl
              try simp only [Act.put, List.setIfInBounds_toArray, List.set_cons_zero, List.set_cons_succ]
              refine grow_take 8 (some 25) (.bool true) rfl rfl (by kernel_rfl) (fun _ _ _ h => h) (by kernel_rfl) hCalm ?_ ?_
              · intro wS hS; (try dsimp only at hS); go_simp
              try simp only [Act.put, List.setIfInBounds_toArray, List.set_cons_zero, List.set_cons_succ]
              refine grow_done (by kernel_rfl) (fun wA hA => ?_) _
              have HB5 := Lib.hid (HBB.out.trans (hA.mono HBB.out.size)); clear hA
              go_wp2_with fail
              go_ret
              exact ⟨by rw [HN2.out]; rfl, HB5.out⟩
            case pos =>
              subst c3
              have HG2 := Lib.hid (HGO.out rfl)
              go_wp2_with fail
              refine wp_region_grow (S := (fun w' => w'.cell? ⟨ba, oa + i * 3, none⟩ = some (.int .i64 x1) ∧ w'.cell? ⟨ba, oa + i * 3 + 1, none⟩ = some (.int .i64 x2) ∧ w'.cell? ⟨ba, oa + i * 3 + 2, none⟩ = some (.int .i64 x3) ∧ w'.cell? ⟨bb, ob + i * 3, none⟩ = some (.int .i64 x1) ∧ w'.cell? ⟨bb, ob + i * 3 + 1, none⟩ = some (.int .i64 x2) ∧ w'.cell? ⟨bb, ob + i * 3 + 2, none⟩ = some (.int .i64 x3))) ((fun w' => Below wr.heap.size wr w')) (by kernel_rfl) (⟨fun w2 h2 => ⟨(HXX.out _ (HBB.out.trans (h2.mono HBB.out.size))).1, (HXX.out _ (HBB.out.trans (h2.mono HBB.out.size))).2.1, (HXX.out _ (HBB.out.trans (h2.mono HBB.out.size))).2.2, (HYY.out _ (HBB.out.trans (h2.mono HBB.out.size))).1, (HYY.out _ (HBB.out.trans (h2.mono HBB.out.size))).2.1, (HYY.out _ (HBB.out.trans (h2.mono HBB.out.size))).2.2⟩, fun w2 w3 h2 hb2 => h2.trans (hb2.mono h2.size)⟩) ((Below.refl wr.heap.size wr).drew) (fun hCalm => ?_)
              refine grow_take 0 (some 17) ?_ rfl rfl (by kernel_rfl) (fun _ _ _ h => h) (by kernel_rfl) hCalm ?_ ?_
              rotate_left
              · intro wS hS; (try dsimp only at hS); go_simp <;> with_reducible rfl
              try simp only [Act.put, List.setIfInBounds_toArray, List.set_cons_zero, List.set_cons_succ]
              refine grow_take 1 (some 18) ?_ rfl rfl (by kernel_rfl) (fun _ _ _ h => h) (by kernel_rfl) hCalm ?_ ?_
              rotate_left
              · intro wS hS; (try dsimp only at hS); go_simp <;> with_reducible rfl
              try simp only [Act.put, List.setIfInBounds_toArray, List.set_cons_zero, List.set_cons_succ]
              refine grow_take 2 (some 19) ?_ rfl rfl (by kernel_rfl) (fun _ _ _ h => h) (by kernel_rfl) hCalm ?_ ?_
              rotate_left
              · intro wS hS; (try dsimp only at hS); go_simp <;> with_reducible rfl
              try simp only [Act.put, List.setIfInBounds_toArray, List.set_cons_zero, List.set_cons_succ]
              refine grow_take 3 (some 20) ?_ rfl rfl (by kernel_rfl) (fun _ _ _ h => h) (by kernel_rfl) hCalm ?_ ?_
              rotate_left
              · intro wS hS; (try dsimp only at hS); go_simp <;> with_reducible rfl
              try simp only [Act.put, List.setIfInBounds_toArray, List.set_cons_zero, List.set_cons_succ]
              refine grow_take 4 (some 21) ?_ rfl rfl (by kernel_rfl) (fun _ _ _ h => h) (by kernel_rfl) hCalm ?_ ?_
              rotate_left
              · intro wS hS; (try dsimp only at hS); go_simp <;> with_reducible rfl
              try simp only [Act.put, List.setIfInBounds_toArray, List.set_cons_zero, List.set_cons_succ]
              refine grow_take 5 (some 22) ?_ rfl rfl (by kernel_rfl) (fun _ _ _ h => h) (by kernel_rfl) hCalm ?_ ?_
              rotate_left
              · intro wS hS; (try dsimp only at hS); go_simp <;> with_reducible rfl
              try simp only [Act.put, List.setIfInBounds_toArray, List.set_cons_zero, List.set_cons_succ]
              refine grow_take 6 (some 23) ?_ rfl rfl (by kernel_rfl) (fun _ _ _ h => h) (by kernel_rfl) hCalm ?_ ?_
              rotate_left
              · intro wS hS; (try dsimp only at hS); go_simp <;> with_reducible rfl
              try simp only [Act.put, List.setIfInBounds_toArray, List.set_cons_zero, List.set_cons_succ]
              refine grow_take 7 (some 24) ?_ rfl rfl (by kernel_rfl) (fun _ _ _ h => h) (by kernel_rfl) hCalm ?_ ?_
              rotate_left
              · intro wS hS; (try dsimp only at hS); go_simp <;> with_reducible rfl
              try simp only [Act.put, List.setIfInBounds_toArray, List.set_cons_zero, List.set_cons_succ]
              refine grow_take 8 (some 25) (.bool false) rfl rfl (by kernel_rfl) (fun _ _ _ h => h) (by kernel_rfl) hCalm ?_ ?_
              · intro wS hS; (try dsimp only at hS); go_simp
              try simp only [Act.put, List.setIfInBounds_toArray, List.set_cons_zero, List.set_cons_succ]
              refine grow_done (by kernel_rfl) (fun wA hA => ?_) _
              have HB5 := Lib.hid (HBB.out.trans (hA.mono HBB.out.size)); clear hA
              go_wp2_with fail
              go_roundw
              case rel => exact ⟨i + 1, by go_num, HI.out, HG2.out, HB5.out⟩
              case measure => have := HI.out; simp [intOf]; omega
set_option maxRecDepth 100000 in
set_option maxHeartbeats 8000000 in
theorem rsamestamps_any (a b : List Sm) (A B : Option Addr) (c d : Nat) (w : World) (hA : Smz w A a) (hB : Smz w B b) (hz : a.length ≤ 9000000000000000000) (_ : b.length ≤ 9000000000000000000) :
    Calls Try.prog 42 #[.slice A a.length c, .slice B b.length d] w fun e w' => e = .returned (.bool (decide (a = b))) ∧ Below w.heap.size w w' := by
  have HA := Lib.hid (fun W (hb : Below w.heap.size w W) => hA.below hb (Nat.le_refl _)); have HB := Lib.hid (fun W (hb : Below w.heap.size w W) => hB.below hb (Nat.le_refl _))
  clear hA hB
  by_cases hl : a.length = b.length
  case neg =>
    have HE : Hid (decide (a = b) = false) := Lib.hid (decide_eq_false fun h => hl (by rw [h]))
    have d1 : ((a.length : Int) == (b.length : Int)) = false := by rw [beq_eq_false_iff_ne]; omega
    have d2 : (a.length == b.length) = false := by rw [beq_eq_false_iff_ne]; exact hl
    clear hl
    go_enter Try.func42, Try.ntmps42
    go_wp2_with fail
    go_ret
    exact ⟨by rw [HE.out]; rfl, Below.refl _ _⟩
  case pos =>
    obtain ⟨n, hn⟩ : ∃ n, n = a.length := ⟨_, rfl⟩
    have hn2 : b.length = n := by omega
    have HN := Lib.hid (And.intro hn hn2)
    rw [← hn, hn2]
    have hz2 : n ≤ 9000000000000000000 := by omega
    clear hl hn hn2 hz
    go_enter Try.func42, Try.ntmps42
    go_wp2_with fail
    go_loopw [5] (fun ii wr => ∃ i : Nat, ii = .int .i64 i ∧ i ≤ n ∧ (∀ j (h1 : j < a.length) (h2 : j < b.length), j < i → a[j] = b[j]) ∧ Below w.heap.size w wr) (fun ii _ => n - (intOf ii).toNat)
    case atStart => exact ⟨0, rfl, Nat.zero_le _, fun j _ _ h => absurd h (by omega), Below.refl _ _⟩
    case round =>
      obtain ⟨i, rfl, hi, heq, hB⟩ := hrel
      have HEQ := Lib.hid heq; have HBB := Lib.hid hB; clear heq hB
      by_cases hlt : i < n
      case neg =>
        obtain rfl : i = n := by omega
        have HE : Hid (decide (a = b) = true) := Lib.hid (decide_eq_true (List.ext_getElem (by have := HN.out; omega) fun j h1 h2 => HEQ.out j h1 h2 (by have := HN.out; omega)))
        clear hlt hi
        go_wp2_with fail
        go_ret
        exact ⟨by rw [HE.out]; rfl, HBB.out⟩
      case pos =>
        have hia : i < a.length := by have := HN.out; omega
        have hib : i < b.length := by have := HN.out; omega
        obtain ⟨ba, oa, rfl⟩ := Rz.some (HA.out wr HBB.out) (by omega)
        obtain ⟨bb, ob, rfl⟩ := Rz.some (HB.out wr HBB.out) (by omega)
        have HXX := Lib.hid (fun W (hb : Below w.heap.size w W) => Smz.cell (HA.out W hb) (Below.refl W.heap.size W) (Nat.le_refl _) hia)
        have HYY := Lib.hid (fun W (hb : Below w.heap.size w W) => Smz.cell (HB.out W hb) (Below.refl W.heap.size W) (Nat.le_refl _) hib)
        have HNE : Hid (a[i] ≠ b[i] → decide (a = b) = false) := Lib.hid (fun h => decide_eq_false fun hh => h (by subst hh; rfl))
        have HGO : Hid (a[i] = b[i] → ∀ j (h1 : j < a.length) (h2 : j < b.length), j < i + 1 → a[j] = b[j]) := Lib.hid (fun h j h1 h2 hj => by
          by_cases e : j = i
          · subst e; exact h
          · exact HEQ.out j h1 h2 (by omega))
        obtain ⟨x, hx⟩ : ∃ x, x = a[i] := ⟨_, rfl⟩
        obtain ⟨y, hy⟩ : ∃ y, y = b[i] := ⟨_, rfl⟩
        rw [← hx] at HXX HNE HGO; rw [← hy] at HYY HNE HGO
        have q1 : (0 : Int) ≤ (i : Int) := by omega
        have q2 : (i : Int) < (n : Int) := by omega
        have q5 : (i : Int) + 1 ≤ 9223372036854775807 := by omega
        have HI := Lib.hid hlt
        clear hx hy hlt hi hia hib
        obtain ⟨x1, x2, x3⟩ := x
        obtain ⟨y1, y2, y3⟩ := y
        dsimp only at HXX HYY HNE HGO
        by_cases c1 : x1 = y1
        case neg =>
          have HN2 := Lib.hid (HNE.out (fun h => c1 (by simp only [Sm.mk.injEq] at h; exact h.1)))
          have t1 : (x1 == y1) = false := by simpa using c1
          clear c1
          go_wp2_with fail
          refine wp_region_grow (S := (fun w' => w'.cell? ⟨ba, oa + i * 3, none⟩ = some (.int .i64 x1) ∧ w'.cell? ⟨ba, oa + i * 3 + 1, none⟩ = some (.int .i64 x2) ∧ w'.cell? ⟨ba, oa + i * 3 + 2, none⟩ = some (.int .i64 x3) ∧ w'.cell? ⟨bb, ob + i * 3, none⟩ = some (.int .i64 y1) ∧ w'.cell? ⟨bb, ob + i * 3 + 1, none⟩ = some (.int .i64 y2) ∧ w'.cell? ⟨bb, ob + i * 3 + 2, none⟩ = some (.int .i64 y3))) ((fun w' => Below wr.heap.size wr w')) (by kernel_rfl) (⟨fun w2 h2 => ⟨(HXX.out _ (HBB.out.trans (h2.mono HBB.out.size))).1, (HXX.out _ (HBB.out.trans (h2.mono HBB.out.size))).2.1, (HXX.out _ (HBB.out.trans (h2.mono HBB.out.size))).2.2, (HYY.out _ (HBB.out.trans (h2.mono HBB.out.size))).1, (HYY.out _ (HBB.out.trans (h2.mono HBB.out.size))).2.1, (HYY.out _ (HBB.out.trans (h2.mono HBB.out.size))).2.2⟩, fun w2 w3 h2 hb2 => h2.trans (hb2.mono h2.size)⟩) ((Below.refl wr.heap.size wr).drew) (fun hCalm => ?_)
          refine grow_take 0 (some 17) ?_ rfl rfl (by kernel_rfl) (fun _ _ _ h => h) (by kernel_rfl) hCalm ?_ ?_
          rotate_left
          · intro wS hS; (try dsimp only at hS); go_simp <;> with_reducible rfl
          try simp only [Act.put, List.setIfInBounds_toArray, List.set_cons_zero, List.set_cons_succ]
          refine grow_take 1 (some 18) ?_ rfl rfl (by kernel_rfl) (fun _ _ _ h => h) (by kernel_rfl) hCalm ?_ ?_
          rotate_left
          · intro wS hS; (try dsimp only at hS); go_simp <;> with_reducible rfl
          try simp only [Act.put, List.setIfInBounds_toArray, List.set_cons_zero, List.set_cons_succ]
          refine grow_take 2 (some 19) ?_ rfl rfl (by kernel_rfl) (fun _ _ _ h => h) (by kernel_rfl) hCalm ?_ ?_
          rotate_left
          · intro wS hS; (try dsimp only at hS); go_simp <;> with_reducible rfl
          try simp only [Act.put, List.setIfInBounds_toArray, List.set_cons_zero, List.set_cons_succ]
          refine grow_take 3 (some 20) ?_ rfl rfl (by kernel_rfl) (fun _ _ _ h => h) (by kernel_rfl) hCalm ?_ ?_
          rotate_left
          · intro wS hS; (try dsimp only at hS); go_simp <;> with_reducible rfl
          try simp only [Act.put, List.setIfInBounds_toArray, List.set_cons_zero, List.set_cons_succ]
          refine grow_take 4 (some 21) ?_ rfl rfl (by kernel_rfl) (fun _ _ _ h => h) (by kernel_rfl) hCalm ?_ ?_
          rotate_left
          · intro wS hS; (try dsimp only at hS); go_simp <;> with_reducible rfl
          try simp only [Act.put, List.setIfInBounds_toArray, List.set_cons_zero, List.set_cons_succ]
          refine grow_take 5 (some 22) ?_ rfl rfl (by kernel_rfl) (fun _ _ _ h => h) (by kernel_rfl) hCalm ?_ ?_
          rotate_left
          · intro wS hS; (try dsimp only at hS); go_simp <;> with_reducible rfl
          try simp only [Act.put, List.setIfInBounds_toArray, List.set_cons_zero, List.set_cons_succ]
          refine grow_take 6 (some 23) ?_ rfl rfl (by kernel_rfl) (fun _ _ _ h => h) (by kernel_rfl) hCalm ?_ ?_
          rotate_left
          · intro wS hS; (try dsimp only at hS); go_simp <;> with_reducible rfl
          try simp only [Act.put, List.setIfInBounds_toArray, List.set_cons_zero, List.set_cons_succ]
          refine grow_take 7 (some 24) ?_ rfl rfl (by kernel_rfl) (fun _ _ _ h => h) (by kernel_rfl) hCalm ?_ ?_
          rotate_left
          · intro wS hS; (try dsimp only at hS); go_simp <;> with_reducible rfl
          try simp only [Act.put, List.setIfInBounds_toArray, List.set_cons_zero, List.set_cons_succ]
          refine grow_take 8 (some 25) (.bool true) rfl rfl (by kernel_rfl) (fun _ _ _ h => h) (by kernel_rfl) hCalm ?_ ?_
          · intro wS hS; (try dsimp only at hS); go_simp
          try simp only [Act.put, List.setIfInBounds_toArray, List.set_cons_zero, List.set_cons_succ]
          refine grow_done (by kernel_rfl) (fun wA hA => ?_) _
          have HB5 := Lib.hid (HBB.out.trans (hA.mono HBB.out.size)); clear hA
          go_wp2_with fail
          go_ret
          exact ⟨by rw [HN2.out]; rfl, HB5.out⟩
        case pos =>
          subst c1
          by_cases c2 : x2 = y2
          case neg =>
            have HN2 := Lib.hid (HNE.out (fun h => c2 (by simp only [Sm.mk.injEq] at h; exact h.2.1)))
            have t2 : (x2 == y2) = false := by simpa using c2
            clear c2
            go_wp2_with fail
            refine wp_region_grow (S := (fun w' => w'.cell? ⟨ba, oa + i * 3, none⟩ = some (.int .i64 x1) ∧ w'.cell? ⟨ba, oa + i * 3 + 1, none⟩ = some (.int .i64 x2) ∧ w'.cell? ⟨ba, oa + i * 3 + 2, none⟩ = some (.int .i64 x3) ∧ w'.cell? ⟨bb, ob + i * 3, none⟩ = some (.int .i64 x1) ∧ w'.cell? ⟨bb, ob + i * 3 + 1, none⟩ = some (.int .i64 y2) ∧ w'.cell? ⟨bb, ob + i * 3 + 2, none⟩ = some (.int .i64 y3))) ((fun w' => Below wr.heap.size wr w')) (by kernel_rfl) (⟨fun w2 h2 => ⟨(HXX.out _ (HBB.out.trans (h2.mono HBB.out.size))).1, (HXX.out _ (HBB.out.trans (h2.mono HBB.out.size))).2.1, (HXX.out _ (HBB.out.trans (h2.mono HBB.out.size))).2.2, (HYY.out _ (HBB.out.trans (h2.mono HBB.out.size))).1, (HYY.out _ (HBB.out.trans (h2.mono HBB.out.size))).2.1, (HYY.out _ (HBB.out.trans (h2.mono HBB.out.size))).2.2⟩, fun w2 w3 h2 hb2 => h2.trans (hb2.mono h2.size)⟩) ((Below.refl wr.heap.size wr).drew) (fun hCalm => ?_)
            refine grow_take 0 (some 17) ?_ rfl rfl (by kernel_rfl) (fun _ _ _ h => h) (by kernel_rfl) hCalm ?_ ?_
            rotate_left
            · intro wS hS; (try dsimp only at hS); go_simp <;> with_reducible rfl
            try simp only [Act.put, List.setIfInBounds_toArray, List.set_cons_zero, List.set_cons_succ]
            refine grow_take 1 (some 18) ?_ rfl rfl (by kernel_rfl) (fun _ _ _ h => h) (by kernel_rfl) hCalm ?_ ?_
            rotate_left
            · intro wS hS; (try dsimp only at hS); go_simp <;> with_reducible rfl
            try simp only [Act.put, List.setIfInBounds_toArray, List.set_cons_zero, List.set_cons_succ]
            refine grow_take 2 (some 19) ?_ rfl rfl (by kernel_rfl) (fun _ _ _ h => h) (by kernel_rfl) hCalm ?_ ?_
            rotate_left
            · intro wS hS; (try dsimp only at hS); go_simp <;> with_reducible rfl
            try simp only [Act.put, List.setIfInBounds_toArray, List.set_cons_zero, List.set_cons_succ]
            refine grow_take 3 (some 20) ?_ rfl rfl (by kernel_rfl) (fun _ _ _ h => h) (by kernel_rfl) hCalm ?_ ?_
            rotate_left
            · intro wS hS; (try dsimp only at hS); go_simp <;> with_reducible rfl
            try simp only [Act.put, List.setIfInBounds_toArray, List.set_cons_zero, List.set_cons_succ]
            refine grow_take 4 (some 21) ?_ rfl rfl (by kernel_rfl) (fun _ _ _ h => h) (by kernel_rfl) hCalm ?_ ?_
            rotate_left
            · intro wS hS; (try dsimp only at hS); go_simp <;> with_reducible rfl
            try simp only [Act.put, List.setIfInBounds_toArray, List.set_cons_zero, List.set_cons_succ]
            refine grow_take 5 (some 22) ?_ rfl rfl (by kernel_rfl) (fun _ _ _ h => h) (by kernel_rfl) hCalm ?_ ?_
            rotate_left
            · intro wS hS; (try dsimp only at hS); go_simp <;> with_reducible rfl
            try simp only [Act.put, List.setIfInBounds_toArray, List.set_cons_zero, List.set_cons_succ]
            refine grow_take 6 (some 23) ?_ rfl rfl (by kernel_rfl) (fun _ _ _ h => h) (by kernel_rfl) hCalm ?_ ?_
            rotate_left
            · intro wS hS; (try dsimp only at hS); go_simp <;> with_reducible rfl
            try simp only [Act.put, List.setIfInBounds_toArray, List.set_cons_zero, List.set_cons_succ]
            refine grow_take 7 (some 24) ?_ rfl rfl (by kernel_rfl) (fun _ _ _ h => h) (by kernel_rfl) hCalm ?_ ?_
            rotate_left
            · intro wS hS; (try dsimp only at hS); go_simp <;> with_reducible rfl
            try simp only [Act.put, List.setIfInBounds_toArray, List.set_cons_zero, List.set_cons_succ]
            refine grow_take 8 (some 25) (.bool true) rfl rfl (by kernel_rfl) (fun _ _ _ h => h) (by kernel_rfl) hCalm ?_ ?_
            · intro wS hS; (try dsimp only at hS); go_simp
            try simp only [Act.put, List.setIfInBounds_toArray, List.set_cons_zero, List.set_cons_succ]
            refine grow_done (by kernel_rfl) (fun wA hA => ?_) _
            have HB5 := Lib.hid (HBB.out.trans (hA.mono HBB.out.size)); clear hA
            go_wp2_with fail
            go_ret
            exact ⟨by rw [HN2.out]; rfl, HB5.out⟩
          case pos =>
            subst c2
            by_cases c3 : x3 = y3
            case neg =>
              have HN2 := Lib.hid (HNE.out (fun h => c3 (by simp only [Sm.mk.injEq] at h; exact h.2.2)))
              have t3 : (x3 == y3) = false := by simpa using c3
              clear c3
              go_wp2_with fail
              refine wp_region_grow (S := (fun w' => w'.cell? ⟨ba, oa + i * 3, none⟩ = some (.int .i64 x1) ∧ w'.cell? ⟨ba, oa + i * 3 + 1, none⟩ = some (.int .i64 x2) ∧ w'.cell? ⟨ba, oa + i * 3 + 2, none⟩ = some (.int .i64 x3) ∧ w'.cell? ⟨bb, ob + i * 3, none⟩ = some (.int .i64 x1) ∧ w'.cell? ⟨bb, ob + i * 3 + 1, none⟩ = some (.int .i64 x2) ∧ w'.cell? ⟨bb, ob + i * 3 + 2, none⟩ = some (.int .i64 y3))) ((fun w' => Below wr.heap.size wr w')) (by kernel_rfl) (⟨fun w2 h2 => ⟨(HXX.out _ (HBB.out.trans (h2.mono HBB.out.size))).1, (HXX.out _ (HBB.out.trans (h2.mono HBB.out.size))).2.1, (HXX.out _ (HBB.out.trans (h2.mono HBB.out.size))).2.2, (HYY.out _ (HBB.out.trans (h2.mono HBB.out.size))).1, (HYY.out _ (HBB.out.trans (h2.mono HBB.out.size))).2.1, (HYY.out _ (HBB.out.trans (h2.mono HBB.out.size))).2.2⟩, fun w2 w3 h2 hb2 => h2.trans (hb2.mono h2.size)⟩) ((Below.refl wr.heap.size wr).drew) (fun hCalm => ?_)
              refine grow_take 0 (some 17) ?_ rfl rfl (by kernel_rfl) (fun _ _ _ h => h) (by kernel_rfl) hCalm ?_ ?_
              rotate_left
              · intro wS hS; (try dsimp only at hS); go_simp <;> with_reducible rfl
              try simp only [Act.put, List.setIfInBounds_toArray, List.set_cons_zero, List.set_cons_succ]
              refine grow_take 1 (some 18) ?_ rfl rfl (by kernel_rfl) (fun _ _ _ h => h) (by kernel_rfl) hCalm ?_ ?_
              rotate_left
              · intro wS hS; (try dsimp only at hS); go_simp <;> with_reducible rfl
              try simp only [Act.put, List.setIfInBounds_toArray, List.set_cons_zero, List.set_cons_succ]
              refine grow_take 2 (some 19) ?_ rfl rfl (by kernel_rfl) (fun _ _ _ h => h) (by kernel_rfl) hCalm ?_ ?_
              rotate_left
              · intro wS hS; (try dsimp only at hS); go_simp <;> with_reducible rfl
              try simp only [Act.put, List.setIfInBounds_toArray, List.set_cons_zero, List.set_cons_succ]
              refine grow_take 3 (some 20) ?_ rfl rfl (by kernel_rfl) (fun _ _ _ h => h) (by kernel_rfl) hCalm ?_ ?_
              rotate_left
              · intro wS hS; (try dsimp only at hS); go_simp <;> with_reducible rfl
              try simp only [Act.put, List.setIfInBounds_toArray, List.set_cons_zero, List.set_cons_succ]
              refine grow_take 4 (some 21) ?_ rfl rfl (by kernel_rfl) (fun _ _ _ h => h) (by kernel_rfl) hCalm ?_ ?_
              rotate_left
              · intro wS hS; (try dsimp only at hS); go_simp <;> with_reducible rfl
              try simp only [Act.put, List.setIfInBounds_toArray, List.set_cons_zero, List.set_cons_succ]
              refine grow_take 5 (some 22) ?_ rfl rfl (by kernel_rfl) (fun _ _ _ h => h) (by kernel_rfl) hCalm ?_ ?_
              rotate_left
              · intro wS hS; (try dsimp only at hS); go_simp <;> with_reducible rfl
              try simp only [Act.put, List.setIfInBounds_toArray, List.set_cons_zero, List.set_cons_succ]
              refine grow_take 6 (some 23) ?_ rfl rfl (by kernel_rfl) (fun _ _ _ h => h) (by kernel_rfl) hCalm ?_ ?_
              rotate_left
              · intro wS hS; (try dsimp only at hS); go_simp <;> with_reducible rfl
              try simp only [Act.put, List.setIfInBounds_toArray, List.set_cons_zero, List.set_cons_succ]
              refine grow_take 7 (some 24) ?_ rfl rfl (by kernel_rfl) (fun _ _ _ h => h) (by kernel_rfl) hCalm ?_ ?_
              rotate_left
              · intro wS hS; (try dsimp only at hS); go_simp <;> with_reducible rfl
              try simp only [Act.put, List.setIfInBounds_toArray, List.set_cons_zero, List.set_cons_succ]
              refine grow_take 8 (some 25) (.bool true) rfl rfl (by kernel_rfl) (fun _ _ _ h => h) (by kernel_rfl) hCalm ?_ ?_
              · intro wS hS; (try dsimp only at hS); go_simp
              try simp only [Act.put, List.setIfInBounds_toArray, List.set_cons_zero, List.set_cons_succ]
              refine grow_done (by kernel_rfl) (fun wA hA => ?_) _
              have HB5 := Lib.hid (HBB.out.trans (hA.mono HBB.out.size)); clear hA
              go_wp2_with fail
              go_ret
              exact ⟨by rw [HN2.out]; rfl, HB5.out⟩
            case pos =>
              subst c3
              have HG2 := Lib.hid (HGO.out rfl)
              go_wp2_with fail
              refine wp_region_grow (S := (fun w' => w'.cell? ⟨ba, oa + i * 3, none⟩ = some (.int .i64 x1) ∧ w'.cell? ⟨ba, oa + i * 3 + 1, none⟩ = some (.int .i64 x2) ∧ w'.cell? ⟨ba, oa + i * 3 + 2, none⟩ = some (.int .i64 x3) ∧ w'.cell? ⟨bb, ob + i * 3, none⟩ = some (.int .i64 x1) ∧ w'.cell? ⟨bb, ob + i * 3 + 1, none⟩ = some (.int .i64 x2) ∧ w'.cell? ⟨bb, ob + i * 3 + 2, none⟩ = some (.int .i64 x3))) ((fun w' => Below wr.heap.size wr w')) (by kernel_rfl) (⟨fun w2 h2 => ⟨(HXX.out _ (HBB.out.trans (h2.mono HBB.out.size))).1, (HXX.out _ (HBB.out.trans (h2.mono HBB.out.size))).2.1, (HXX.out _ (HBB.out.trans (h2.mono HBB.out.size))).2.2, (HYY.out _ (HBB.out.trans (h2.mono HBB.out.size))).1, (HYY.out _ (HBB.out.trans (h2.mono HBB.out.size))).2.1, (HYY.out _ (HBB.out.trans (h2.mono HBB.out.size))).2.2⟩, fun w2 w3 h2 hb2 => h2.trans (hb2.mono h2.size)⟩) ((Below.refl wr.heap.size wr).drew) (fun hCalm => ?_)
              refine grow_take 0 (some 17) ?_ rfl rfl (by kernel_rfl) (fun _ _ _ h => h) (by kernel_rfl) hCalm ?_ ?_
              rotate_left
              · intro wS hS; (try dsimp only at hS); go_simp <;> with_reducible rfl
              try simp only [Act.put, List.setIfInBounds_toArray, List.set_cons_zero, List.set_cons_succ]
              refine grow_take 1 (some 18) ?_ rfl rfl (by kernel_rfl) (fun _ _ _ h => h) (by kernel_rfl) hCalm ?_ ?_
              rotate_left
              · intro wS hS; (try dsimp only at hS); go_simp <;> with_reducible rfl
              try simp only [Act.put, List.setIfInBounds_toArray, List.set_cons_zero, List.set_cons_succ]
              refine grow_take 2 (some 19) ?_ rfl rfl (by kernel_rfl) (fun _ _ _ h => h) (by kernel_rfl) hCalm ?_ ?_
              rotate_left
              · intro wS hS; (try dsimp only at hS); go_simp <;> with_reducible rfl
              try simp only [Act.put, List.setIfInBounds_toArray, List.set_cons_zero, List.set_cons_succ]
              refine grow_take 3 (some 20) ?_ rfl rfl (by kernel_rfl) (fun _ _ _ h => h) (by kernel_rfl) hCalm ?_ ?_
              rotate_left
              · intro wS hS; (try dsimp only at hS); go_simp <;> with_reducible rfl
              try simp only [Act.put, List.setIfInBounds_toArray, List.set_cons_zero, List.set_cons_succ]
              refine grow_take 4 (some 21) ?_ rfl rfl (by kernel_rfl) (fun _ _ _ h => h) (by kernel_rfl) hCalm ?_ ?_
              rotate_left
              · intro wS hS; (try dsimp only at hS); go_simp <;> with_reducible rfl
              try simp only [Act.put, List.setIfInBounds_toArray, List.set_cons_zero, List.set_cons_succ]
              refine grow_take 5 (some 22) ?_ rfl rfl (by kernel_rfl) (fun _ _ _ h => h) (by kernel_rfl) hCalm ?_ ?_
              rotate_left
              · intro wS hS; (try dsimp only at hS); go_simp <;> with_reducible rfl
              try simp only [Act.put, List.setIfInBounds_toArray, List.set_cons_zero, List.set_cons_succ]
              refine grow_take 6 (some 23) ?_ rfl rfl (by kernel_rfl) (fun _ _ _ h => h) (by kernel_rfl) hCalm ?_ ?_
              rotate_left
              · intro wS hS; (try dsimp only at hS); go_simp <;> with_reducible rfl
              try simp only [Act.put, List.setIfInBounds_toArray, List.set_cons_zero, List.set_cons_succ]
              refine grow_take 7 (some 24) ?_ rfl rfl (by kernel_rfl) (fun _ _ _ h => h) (by kernel_rfl) hCalm ?_ ?_
              rotate_left
              · intro wS hS; (try dsimp only at hS); go_simp <;> with_reducible rfl
              try simp only [Act.put, List.setIfInBounds_toArray, List.set_cons_zero, List.set_cons_succ]
              refine grow_take 8 (some 25) (.bool false) rfl rfl (by kernel_rfl) (fun _ _ _ h => h) (by kernel_rfl) hCalm ?_ ?_
              · intro wS hS; (try dsimp only at hS); go_simp
              try simp only [Act.put, List.setIfInBounds_toArray, List.set_cons_zero, List.set_cons_succ]
              refine grow_done (by kernel_rfl) (fun wA hA => ?_) _
              have HB5 := Lib.hid (HBB.out.trans (hA.mono HBB.out.size)); clear hA
              go_wp2_with fail
              go_roundw
              case rel => exact ⟨i + 1, by go_num, HI.out, HG2.out, HB5.out⟩
              case measure => have := HI.out; simp [intOf]; omega
end Go.Proofs.Ytbcgfohacbapoaa
