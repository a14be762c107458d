
/- The contract of the reference's Valid. No conditions. -/
import Derived.Test.YtamogfcedkjmcaaDt5
import Derived.Test.YtamogfcedkjmcaaPl5
import Derived.Test.YtamogfcedkjmcaaHel5
import Derived.Deep.CutRange
import Derived.Shelf.Abstract
namespace Go.Proofs.Ytamogfcedkjmcaa
open Go.RowKit Go.Lib Go.Shelf
set_option maxRecDepth 100000 in
set_option maxHeartbeats 1000000 in
theorem rat_any (x y t p : Int) (w : World) :
    Calls Try.prog 46 #[.agg #[.int .i64 x, .int .i64 y, .int .i64 t, .int .i64 p]] w fun e w' => e = .returned (.agg #[.int .i64 x, .int .i64 y]) ∧ Below w.heap.size w w' := by
  have HB : Hid (Below w.heap.size w (w.alloc (.cells #[.int .i64 x, .int .i64 y, .int .i64 t, .int .i64 p] 24))) := (Below.refl _ _).alloc (Nat.le_refl _) _
  have c0 := (Blk.new w 24 #[.int .i64 x, .int .i64 y, .int .i64 t, .int .i64 p]).cell (i := 0) rfl
  have c1 := (Blk.new w 24 #[.int .i64 x, .int .i64 y, .int .i64 t, .int .i64 p]).cell (i := 1) rfl
  go_enter Try.func46, Try.ntmps46
  go_wp2_with fail
  have HR := (Blk.new (w.alloc (.cells #[.int .i64 x, .int .i64 y, .int .i64 t, .int .i64 p] 24)) 29 #[.int .i64 x, .int .i64 y])
  have r0 := HR.cell (i := 0) rfl; have r1 := HR.cell (i := 1) rfl
  simp at r0 r1
  exact bodyPost_ret (v := .agg #[.int .i64 x, .int .i64 y]) (by simp [results, Try.results46, go_sem]) rfl ⟨rfl, HB.out.alloc HB.out.size _⟩
theorem okAt_iff {ds : List Dt} {i : Nat} (h : i < ds.length) : OkAt ds i ↔ ds[i].ok ∧ (0 < i → (ds[i - 1]'(by omega)).t ≤ ds[i].t) := by
  unfold OkAt
  constructor
  · intro h1
    obtain ⟨a, b⟩ := h1 ds[i] (List.getElem?_eq_getElem h)
    exact ⟨a, fun _ => b _ (List.getElem?_eq_getElem (by omega))⟩
  · rintro ⟨a, b⟩ d hd
    rw [List.getElem?_eq_getElem h, Option.some.injEq] at hd
    subst hd
    refine ⟨a, fun e he => ?_⟩
    rw [List.getElem?_eq_getElem (by omega), Option.some.injEq] at he
    subst he
    by_cases h0 : 0 < i
    · exact b h0
    · obtain rfl : i = 0 := by omega
      exact Int.le_refl _
set_option maxRecDepth 100000 in
set_option maxHeartbeats 4000000 in
theorem rvalid_go (P N : Int) (ds : List Dt) (A : Option Addr) (c : Nat) (w : World) (hA : Dz w A ds) (h1 : 0 ≤ P) (h2 : P ≤ 39) (h3 : 1 ≤ N) (h4 : N ≤ 999) (h5 : 1 ≤ ds.length) (h6 : ds.length ≤ 200) :
    Calls Try.prog 21 #[.agg #[.int .i64 P, .int .i64 N, .slice A ds.length c]] w fun e w' => e = .returned (.bool (decide (Vd P N ds))) ∧ Below w.heap.size w w' := by
  have HB : Hid (Below w.heap.size w (w.alloc (.cells #[.int .i64 P, .int .i64 N, .slice A ds.length c] 27))) := (Below.refl _ _).alloc (Nat.le_refl _) _
  have HS := Lib.hid (Blk.new w 27 #[.int .i64 P, .int .i64 N, .slice A ds.length c])
  obtain ⟨b, o, rfl, hbl, hcc⟩ := hA (by omega)
  have HC := Lib.hid hcc
  have c0 := HS.out.cell (i := 0) rfl
  have c1 := HS.out.cell (i := 1) rfl
  have c2 := HS.out.cell (i := 2) rfl
  have HV : Hid (∀ v, (v = true ↔ ∀ i, i < ds.length → OkAt ds i) → v = decide (Vd P N ds)) := fun v hv => by
    by_cases h : Vd P N ds
    · rw [decide_eq_true h]; exact hv.2 h.2.2.2
    · rw [decide_eq_false h]
      cases v with
      | false => rfl
      | true => exact absurd ⟨⟨h1, h2⟩, ⟨h3, h4⟩, ⟨h5, h6⟩, hv.1 rfl⟩ h
  have HBAD : Hid (∀ i, i < ds.length → ¬ OkAt ds i → decide (Vd P N ds) = false) := fun i hi hn => (HV.out false ⟨fun h => (by cases h), fun h => absurd (h i hi) hn⟩).symm
  have HFIT : Hid (w.heap.size + 1 ≤ (w.alloc (.cells #[.int .i64 P, .int .i64 N, .slice (some ⟨b, o, none⟩) ds.length c] 27)).heap.size) := by show _ ≤ _; simp
  have HBL := Lib.hid hbl
  clear hA hcc hbl
  go_enter Try.func21, Try.ntmps21
  go_wp2_with fail
  go_loopw [3] (fun ii wr => ∃ i : Nat, ii = .int .i64 i ∧ i ≤ ds.length ∧ (∀ j, j < i → OkAt ds j) ∧ Below (w.heap.size + 1) (w.alloc (.cells #[.int .i64 P, .int .i64 N, .slice (some ⟨b, o, none⟩) ds.length c] 27)) wr) (fun ii _ => ds.length - (intOf ii).toNat)
  case atStart => exact ⟨0, rfl, Nat.zero_le _, fun j hj => absurd hj (by omega), Below.refl _ _⟩
  case round =>
    obtain ⟨i, rfl, hi, hok, hb⟩ := hrel
    clear c0 c1 c2
    have c2 := (HS.out.below hb (by omega)).cell (i := 2) rfl
    have HW := Lib.hid hb
    have HOK := Lib.hid hok
    have HBW : Hid (Below w.heap.size w wr) := Lib.hid (HB.out.trans (hb.mono (by omega)))
    clear hb hok
    by_cases hlt : i < ds.length
    case neg =>
      have HT := Lib.hid (HV.out true ⟨fun _ j hj => HOK.out j (by omega), fun _ => rfl⟩)
      go_wp2_with fail
      go_ret
      exact ⟨by rw [← HT.out]; rfl, HBW.out⟩
    case pos =>
      have hil := okAt_iff hlt
      obtain ⟨k0, k1, k2, k3⟩ := HC.out i hlt
      rw [← HBW.out.cell (p := ⟨b, _, none⟩) HBL.out] at k0 k1 k2 k3
      obtain ⟨pt, hpt, kp⟩ : ∃ pt : Int, (0 < i → (ds[i - 1]'(by omega)).t = pt) ∧ (0 < i → wr.cell? ⟨b, o + (i - 1) * 4 + 2, none⟩ = some (.int .i64 pt)) := by
        by_cases h0 : 0 < i
        · obtain ⟨-, -, kk, -⟩ := HC.out (i - 1) (by omega)
          exact ⟨_, fun _ => rfl, fun _ => (HBW.out.cell (p := ⟨b, _, none⟩) HBL.out).trans kk⟩
        · exact ⟨0, fun h => absurd h h0, fun h => absurd h h0⟩
      obtain ⟨x, hx⟩ : ∃ x, x = ds[i].x := ⟨_, rfl⟩
      obtain ⟨y, hy⟩ : ∃ y, y = ds[i].y := ⟨_, rfl⟩
      obtain ⟨t, ht⟩ : ∃ t, t = ds[i].t := ⟨_, rfl⟩
      obtain ⟨p, hp⟩ : ∃ p, p = ds[i].p := ⟨_, rfl⟩
      unfold Dt.ok at hil
      rw [← hx] at k0; rw [← hy] at k1; rw [← ht] at k2; rw [← hp] at k3
      rw [← hx, ← hy, ← ht, ← hp] at hil
      have hil2 : OkAt ds i ↔ ((0 ≤ x ∧ x ≤ 4095 ∧ 0 ≤ y ∧ y ≤ 4095) ∧ (0 ≤ t ∧ t ≤ 1000000) ∧ 0 ≤ p ∧ p ≤ 100) ∧ (0 < i → pt ≤ t) := by
        rw [hil]; exact and_congr_right fun _ => forall_congr' fun h => by rw [hpt h]
      have HIL := Lib.hid hil2
      clear hx hy ht hp hil hpt hil2
      have q1 : (0 : Int) ≤ (i : Int) := by omega
      have q2 : (i : Int) < (ds.length : Int) := by omega
      have HP1 := Lib.hid (fun h W => rplace_yes x y W h); have HP2 := Lib.hid (fun h W => rplace_no x y W h); have HA := Lib.hid (fun W => rat_any x y t p W)
      have HD := Lib.hid (Blk.new wr 24 #[.int .i64 x, .int .i64 y, .int .i64 t, .int .i64 p])
      have HS2 := Lib.hid ((HS.out.below HW.out (by omega)).alloc (.cells #[.int .i64 x, .int .i64 y, .int .i64 t, .int .i64 p] 24))
      have d0 := HD.out.cell (i := 0) (v := .int .i64 x) rfl; have d1 := HD.out.cell (i := 1) (v := .int .i64 y) rfl
      have d2 := HD.out.cell (i := 2) (v := .int .i64 t) rfl; have d3 := HD.out.cell (i := 3) (v := .int .i64 p) rfl
      have HI := Lib.hid (And.intro hi hlt)
      clear hi hlt
      have KP : Hid (∀ w', Below (wr.alloc (.cells #[.int .i64 x, .int .i64 y, .int .i64 t, .int .i64 p] 24)).heap.size (wr.alloc (.cells #[.int .i64 x, .int .i64 y, .int .i64 t, .int .i64 p] 24)) w' → 0 < i → w'.cell? ⟨b, o + (i - 1) * 4 + 2, none⟩ = some (.int .i64 pt)) := fun w' hW h => by
        have h8 := HBW.out.size
        have h9 : Below w.heap.size wr w' := ((Below.refl _ _).alloc h8 _).trans (hW.mono (by simp; omega))
        exact (h9.cell (p := ⟨b, _, none⟩) HBL.out).trans (kp h)
      clear kp
      go_upto_region 7 with fail
      go_cut [86] from 47 to 86 (fun v wx => ∃ bv : Bool, v = .bool bv ∧ (bv = false ↔ OkAt ds i) ∧ Below (wr.alloc (.cells #[.int .i64 x, .int .i64 y, .int .i64 t, .int .i64 p] 24)).heap.size (wr.alloc (.cells #[.int .i64 x, .int .i64 y, .int .i64 t, .int .i64 p] 24)) wx)
      case first =>
        have HK : Hid (∀ w', Below (wr.alloc (.cells #[.int .i64 x, .int .i64 y, .int .i64 t, .int .i64 p] 24)).heap.size (wr.alloc (.cells #[.int .i64 x, .int .i64 y, .int .i64 t, .int .i64 p] 24)) w' → w'.cell? ⟨wr.heap.size, 0, none⟩ = some (.int .i64 x) ∧ w'.cell? ⟨wr.heap.size, 1, none⟩ = some (.int .i64 y) ∧ w'.cell? ⟨wr.heap.size, 2, none⟩ = some (.int .i64 t) ∧ w'.cell? ⟨wr.heap.size, 3, none⟩ = some (.int .i64 p) ∧ w'.cell? ⟨w.heap.size, 2, none⟩ = some (.slice (some ⟨b, o, none⟩) ds.length c) ∧ (0 < i → w'.cell? ⟨b, o + (i - 1) * 4 + 2, none⟩ = some (.int .i64 pt))) := fun w' hW => ⟨((HD.out.below hW HD.out.lt).cell (i := 0) rfl), ((HD.out.below hW HD.out.lt).cell (i := 1) rfl), ((HD.out.below hW HD.out.lt).cell (i := 2) rfl), ((HD.out.below hW HD.out.lt).cell (i := 3) rfl), ((HS2.out.below hW HS2.out.lt).cell (i := 2) rfl), (fun h => KP.out w' hW h)⟩
        have HY : Hid (Below (wr.alloc (.cells #[.int .i64 x, .int .i64 y, .int .i64 t, .int .i64 p] 24)).heap.size (wr.alloc (.cells #[.int .i64 x, .int .i64 y, .int .i64 t, .int .i64 p] 24)) (wr.alloc (.cells #[.int .i64 x, .int .i64 y, .int .i64 t, .int .i64 p] 24)).drew) := (Below.refl _ _).drew
        refine wp_region_held_drew (S := (fun w' => w'.cell? ⟨wr.heap.size, 0, none⟩ = some (.int .i64 x) ∧ w'.cell? ⟨wr.heap.size, 1, none⟩ = some (.int .i64 y) ∧ w'.cell? ⟨wr.heap.size, 2, none⟩ = some (.int .i64 t) ∧ w'.cell? ⟨wr.heap.size, 3, none⟩ = some (.int .i64 p) ∧ w'.cell? ⟨w.heap.size, 2, none⟩ = some (.slice (some ⟨b, o, none⟩) ds.length c) ∧ (0 < i → w'.cell? ⟨b, o + (i - 1) * 4 + 2, none⟩ = some (.int .i64 pt)))) (by kernel_rfl) (HK.out _ HY.out) (fun hHeld => ?_)
        refine held_take 0 (some 47) ?_ rfl rfl (by kernel_rfl) (fun _ _ _ h => h) (by kernel_rfl) ?_ (by assumption) ?_
        rotate_left
        · intro wS hS; (try dsimp only at hS); go_simp <;> with_reducible rfl
        simp only [Act.put, List.setIfInBounds_toArray, List.set_cons_zero, List.set_cons_succ]
        refine held_call 1 (some 48) 46 [.tmp 47] #[24] rfl rfl (by kernel_rfl) (by kernel_rfl) rfl (enters_of Try.func46 (by kernel_rfl) rfl) (HA.out _) (by kernel_rfl) ?_
        rintro e wq ⟨rfl, hq⟩
        have HY := Lib.hid (HY.out.trans (hq.mono HY.out.size)); clear hq
        refine ⟨_, rfl, (HK.out _ HY.out), ?_⟩
        have hHeld := (HK.out _ HY.out)
        simp only [Act.put, List.setIfInBounds_toArray, List.set_cons_zero, List.set_cons_succ]
        by_cases h0 : 0 ≤ x ∧ x ≤ 4095 ∧ 0 ≤ y ∧ y ≤ 4095
        case pos =>
          refine held_call 2 (some 49) 49 [.tmp 48] #[29] rfl rfl (by kernel_rfl) (by kernel_rfl) rfl (enters_of Try.func49 (by kernel_rfl) rfl) (HP1.out h0 _) (by kernel_rfl) ?_
          rintro e wq ⟨rfl, hq⟩
          have HY := Lib.hid (HY.out.trans (hq.mono HY.out.size)); clear hq
          refine ⟨_, rfl, (HK.out _ HY.out), ?_⟩
          have hHeld := (HK.out _ HY.out)
          simp only [Act.put, List.setIfInBounds_toArray, List.set_cons_zero, List.set_cons_succ]
          refine held_take 3 (some 50) ?_ rfl rfl (by kernel_rfl) (fun _ _ _ h => h) (by kernel_rfl) ?_ (by assumption) ?_
          rotate_left
          · intro wS hS; (try dsimp only at hS); go_simp <;> with_reducible rfl
          simp only [Act.put, List.setIfInBounds_toArray, List.set_cons_zero, List.set_cons_succ]
          refine held_take 4 (some 51) ?_ rfl rfl (by kernel_rfl) (fun _ _ _ h => h) (by kernel_rfl) ?_ (by assumption) ?_
          rotate_left
          · intro wS hS; (try dsimp only at hS); go_simp <;> with_reducible rfl
          simp only [Act.put, List.setIfInBounds_toArray, List.set_cons_zero, List.set_cons_succ]
          refine held_take 5 (some 52) ?_ rfl rfl (by kernel_rfl) (fun _ _ _ h => h) (by kernel_rfl) ?_ (by assumption) ?_
          rotate_left
          · intro wS hS; (try dsimp only at hS); go_simp <;> with_reducible rfl
          simp only [Act.put, List.setIfInBounds_toArray, List.set_cons_zero, List.set_cons_succ]
          refine held_take 6 (some 53) ?_ rfl rfl (by kernel_rfl) (fun _ _ _ h => h) (by kernel_rfl) ?_ (by assumption) ?_
          rotate_left
          · intro wS hS; (try dsimp only at hS); go_simp <;> with_reducible rfl
          simp only [Act.put, List.setIfInBounds_toArray, List.set_cons_zero, List.set_cons_succ]
          by_cases h1 : t < 0
          case pos =>
            have h1_d := decide_eq_true h1
            refine held_take 7 (some 54) (.bool true) rfl rfl (by kernel_rfl) (fun _ _ _ h => h) (by kernel_rfl) ?_ (by assumption) ?_
            · intro wS hS; (try dsimp only at hS); go_simp
            simp only [Act.put, List.setIfInBounds_toArray, List.set_cons_zero, List.set_cons_succ]
            refine held_take 8 (some 55) ?_ rfl rfl (by kernel_rfl) (fun _ _ _ h => h) (by kernel_rfl) ?_ (by assumption) ?_
            rotate_left
            · intro wS hS; (try dsimp only at hS); go_simp <;> with_reducible rfl
            simp only [Act.put, List.setIfInBounds_toArray, List.set_cons_zero, List.set_cons_succ]
            refine held_take 9 (some 56) ?_ rfl rfl (by kernel_rfl) (fun _ _ _ h => h) (by kernel_rfl) ?_ (by assumption) ?_
            rotate_left
            · intro wS hS; (try dsimp only at hS); go_simp <;> with_reducible rfl
            simp only [Act.put, List.setIfInBounds_toArray, List.set_cons_zero, List.set_cons_succ]
            refine held_skips [(10, some 57), (11, some 58), (12, some 59)] 27 (fun _ _ _ _ h => h) rfl (by kernel_rfl) (by assumption) ?_
            simp only [skipL, skipA, List.foldl_cons, List.foldl_nil, Act.put, List.setIfInBounds_toArray, List.set_cons_zero, List.set_cons_succ]
            refine held_take 13 (some 60) ?_ rfl rfl (by kernel_rfl) (fun _ _ _ h => h) (by kernel_rfl) ?_ (by assumption) ?_
            rotate_left
            · intro wS hS; (try dsimp only at hS); go_simp <;> with_reducible rfl
            simp only [Act.put, List.setIfInBounds_toArray, List.set_cons_zero, List.set_cons_succ]
            refine held_take 14 (some 61) ?_ rfl rfl (by kernel_rfl) (fun _ _ _ h => h) (by kernel_rfl) ?_ (by assumption) ?_
            rotate_left
            · intro wS hS; (try dsimp only at hS); go_simp <;> with_reducible rfl
            simp only [Act.put, List.setIfInBounds_toArray, List.set_cons_zero, List.set_cons_succ]
            refine held_skips [(15, some 62), (16, some 63), (17, some 64)] 22 (fun _ _ _ _ h => h) rfl (by kernel_rfl) (by assumption) ?_
            simp only [skipL, skipA, List.foldl_cons, List.foldl_nil, Act.put, List.setIfInBounds_toArray, List.set_cons_zero, List.set_cons_succ]
            refine held_take 18 (some 65) ?_ rfl rfl (by kernel_rfl) (fun _ _ _ h => h) (by kernel_rfl) ?_ (by assumption) ?_
            rotate_left
            · intro wS hS; (try dsimp only at hS); go_simp <;> with_reducible rfl
            simp only [Act.put, List.setIfInBounds_toArray, List.set_cons_zero, List.set_cons_succ]
            refine held_take 19 (some 66) ?_ rfl rfl (by kernel_rfl) (fun _ _ _ h => h) (by kernel_rfl) ?_ (by assumption) ?_
            rotate_left
            · intro wS hS; (try dsimp only at hS); go_simp <;> with_reducible rfl
            simp only [Act.put, List.setIfInBounds_toArray, List.set_cons_zero, List.set_cons_succ]
            refine held_skips [(20, some 67), (21, some 68), (22, some 69)] 17 (fun _ _ _ _ h => h) rfl (by kernel_rfl) (by assumption) ?_
            simp only [skipL, skipA, List.foldl_cons, List.foldl_nil, Act.put, List.setIfInBounds_toArray, List.set_cons_zero, List.set_cons_succ]
            refine held_take 23 (some 70) ?_ rfl rfl (by kernel_rfl) (fun _ _ _ h => h) (by kernel_rfl) ?_ (by assumption) ?_
            rotate_left
            · intro wS hS; (try dsimp only at hS); go_simp <;> with_reducible rfl
            simp only [Act.put, List.setIfInBounds_toArray, List.set_cons_zero, List.set_cons_succ]
            refine held_take 24 (some 71) ?_ rfl rfl (by kernel_rfl) (fun _ _ _ h => h) (by kernel_rfl) ?_ (by assumption) ?_
            rotate_left
            · intro wS hS; (try dsimp only at hS); go_simp <;> with_reducible rfl
            simp only [Act.put, List.setIfInBounds_toArray, List.set_cons_zero, List.set_cons_succ]
            refine held_skips [(25, some 72), (26, some 73), (27, some 74), (28, some 75), (29, some 76), (30, some 77), (31, some 78), (32, some 79), (33, some 80), (34, some 81), (35, some 82), (36, some 83), (37, some 84), (38, some 85)] 1 (fun _ _ _ _ h => h) rfl (by kernel_rfl) (by assumption) ?_
            simp only [skipL, skipA, List.foldl_cons, List.foldl_nil, Act.put, List.setIfInBounds_toArray, List.set_cons_zero, List.set_cons_succ]
            refine held_take 39 (some 86) ?_ rfl rfl (by kernel_rfl) (fun _ _ _ h => h) (by kernel_rfl) ?_ (by assumption) ?_
            rotate_left
            · intro wS hS; (try dsimp only at hS); go_simp <;> with_reducible rfl
            simp only [Act.put, List.setIfInBounds_toArray, List.set_cons_zero, List.set_cons_succ]
            refine wpAnyH_done (by kernel_rfl) ?_ _
            go_wp2_with fail
            go_meet
            exact ⟨_, rfl, ⟨fun h => (by cases h), fun h => absurd (HIL.out.1 h) (by omega)⟩, HY.out⟩
          case neg =>
            have h1_d := decide_eq_false h1
            refine held_take 7 (some 54) (.bool false) rfl rfl (by kernel_rfl) (fun _ _ _ h => h) (by kernel_rfl) ?_ (by assumption) ?_
            · intro wS hS; (try dsimp only at hS); go_simp
            simp only [Act.put, List.setIfInBounds_toArray, List.set_cons_zero, List.set_cons_succ]
            refine held_take 8 (some 55) ?_ rfl rfl (by kernel_rfl) (fun _ _ _ h => h) (by kernel_rfl) ?_ (by assumption) ?_
            rotate_left
            · intro wS hS; (try dsimp only at hS); go_simp <;> with_reducible rfl
            simp only [Act.put, List.setIfInBounds_toArray, List.set_cons_zero, List.set_cons_succ]
            refine held_take 9 (some 56) ?_ rfl rfl (by kernel_rfl) (fun _ _ _ h => h) (by kernel_rfl) ?_ (by assumption) ?_
            rotate_left
            · intro wS hS; (try dsimp only at hS); go_simp <;> with_reducible rfl
            simp only [Act.put, List.setIfInBounds_toArray, List.set_cons_zero, List.set_cons_succ]
            refine held_take 10 (some 57) ?_ rfl rfl (by kernel_rfl) (fun _ _ _ h => h) (by kernel_rfl) ?_ (by assumption) ?_
            rotate_left
            · intro wS hS; (try dsimp only at hS); go_simp <;> with_reducible rfl
            simp only [Act.put, List.setIfInBounds_toArray, List.set_cons_zero, List.set_cons_succ]
            refine held_take 11 (some 58) ?_ rfl rfl (by kernel_rfl) (fun _ _ _ h => h) (by kernel_rfl) ?_ (by assumption) ?_
            rotate_left
            · intro wS hS; (try dsimp only at hS); go_simp <;> with_reducible rfl
            simp only [Act.put, List.setIfInBounds_toArray, List.set_cons_zero, List.set_cons_succ]
            by_cases h2 : 1000000 < t
            case pos =>
              have h2_d := decide_eq_true h2
              refine held_take 12 (some 59) (.bool true) rfl rfl (by kernel_rfl) (fun _ _ _ h => h) (by kernel_rfl) ?_ (by assumption) ?_
              · intro wS hS; (try dsimp only at hS); go_simp
              simp only [Act.put, List.setIfInBounds_toArray, List.set_cons_zero, List.set_cons_succ]
              refine held_take 13 (some 60) ?_ rfl rfl (by kernel_rfl) (fun _ _ _ h => h) (by kernel_rfl) ?_ (by assumption) ?_
              rotate_left
              · intro wS hS; (try dsimp only at hS); go_simp <;> with_reducible rfl
              simp only [Act.put, List.setIfInBounds_toArray, List.set_cons_zero, List.set_cons_succ]
              refine held_take 14 (some 61) ?_ rfl rfl (by kernel_rfl) (fun _ _ _ h => h) (by kernel_rfl) ?_ (by assumption) ?_
              rotate_left
              · intro wS hS; (try dsimp only at hS); go_simp <;> with_reducible rfl
              simp only [Act.put, List.setIfInBounds_toArray, List.set_cons_zero, List.set_cons_succ]
              refine held_skips [(15, some 62), (16, some 63), (17, some 64)] 22 (fun _ _ _ _ h => h) rfl (by kernel_rfl) (by assumption) ?_
              simp only [skipL, skipA, List.foldl_cons, List.foldl_nil, Act.put, List.setIfInBounds_toArray, List.set_cons_zero, List.set_cons_succ]
              refine held_take 18 (some 65) ?_ rfl rfl (by kernel_rfl) (fun _ _ _ h => h) (by kernel_rfl) ?_ (by assumption) ?_
              rotate_left
              · intro wS hS; (try dsimp only at hS); go_simp <;> with_reducible rfl
              simp only [Act.put, List.setIfInBounds_toArray, List.set_cons_zero, List.set_cons_succ]
              refine held_take 19 (some 66) ?_ rfl rfl (by kernel_rfl) (fun _ _ _ h => h) (by kernel_rfl) ?_ (by assumption) ?_
              rotate_left
              · intro wS hS; (try dsimp only at hS); go_simp <;> with_reducible rfl
              simp only [Act.put, List.setIfInBounds_toArray, List.set_cons_zero, List.set_cons_succ]
              refine held_skips [(20, some 67), (21, some 68), (22, some 69)] 17 (fun _ _ _ _ h => h) rfl (by kernel_rfl) (by assumption) ?_
              simp only [skipL, skipA, List.foldl_cons, List.foldl_nil, Act.put, List.setIfInBounds_toArray, List.set_cons_zero, List.set_cons_succ]
              refine held_take 23 (some 70) ?_ rfl rfl (by kernel_rfl) (fun _ _ _ h => h) (by kernel_rfl) ?_ (by assumption) ?_
              rotate_left
              · intro wS hS; (try dsimp only at hS); go_simp <;> with_reducible rfl
              simp only [Act.put, List.setIfInBounds_toArray, List.set_cons_zero, List.set_cons_succ]
              refine held_take 24 (some 71) ?_ rfl rfl (by kernel_rfl) (fun _ _ _ h => h) (by kernel_rfl) ?_ (by assumption) ?_
              rotate_left
              · intro wS hS; (try dsimp only at hS); go_simp <;> with_reducible rfl
              simp only [Act.put, List.setIfInBounds_toArray, List.set_cons_zero, List.set_cons_succ]
              refine held_skips [(25, some 72), (26, some 73), (27, some 74), (28, some 75), (29, some 76), (30, some 77), (31, some 78), (32, some 79), (33, some 80), (34, some 81), (35, some 82), (36, some 83), (37, some 84), (38, some 85)] 1 (fun _ _ _ _ h => h) rfl (by kernel_rfl) (by assumption) ?_
              simp only [skipL, skipA, List.foldl_cons, List.foldl_nil, Act.put, List.setIfInBounds_toArray, List.set_cons_zero, List.set_cons_succ]
              refine held_take 39 (some 86) ?_ rfl rfl (by kernel_rfl) (fun _ _ _ h => h) (by kernel_rfl) ?_ (by assumption) ?_
              rotate_left
              · intro wS hS; (try dsimp only at hS); go_simp <;> with_reducible rfl
              simp only [Act.put, List.setIfInBounds_toArray, List.set_cons_zero, List.set_cons_succ]
              refine wpAnyH_done (by kernel_rfl) ?_ _
              go_wp2_with fail
              go_meet
              exact ⟨_, rfl, ⟨fun h => (by cases h), fun h => absurd (HIL.out.1 h) (by omega)⟩, HY.out⟩
            case neg =>
              have h2_d := decide_eq_false h2
              refine held_take 12 (some 59) (.bool false) rfl rfl (by kernel_rfl) (fun _ _ _ h => h) (by kernel_rfl) ?_ (by assumption) ?_
              · intro wS hS; (try dsimp only at hS); go_simp
              simp only [Act.put, List.setIfInBounds_toArray, List.set_cons_zero, List.set_cons_succ]
              refine held_take 13 (some 60) ?_ rfl rfl (by kernel_rfl) (fun _ _ _ h => h) (by kernel_rfl) ?_ (by assumption) ?_
              rotate_left
              · intro wS hS; (try dsimp only at hS); go_simp <;> with_reducible rfl
              simp only [Act.put, List.setIfInBounds_toArray, List.set_cons_zero, List.set_cons_succ]
              refine held_take 14 (some 61) ?_ rfl rfl (by kernel_rfl) (fun _ _ _ h => h) (by kernel_rfl) ?_ (by assumption) ?_
              rotate_left
              · intro wS hS; (try dsimp only at hS); go_simp <;> with_reducible rfl
              simp only [Act.put, List.setIfInBounds_toArray, List.set_cons_zero, List.set_cons_succ]
              refine held_take 15 (some 62) ?_ rfl rfl (by kernel_rfl) (fun _ _ _ h => h) (by kernel_rfl) ?_ (by assumption) ?_
              rotate_left
              · intro wS hS; (try dsimp only at hS); go_simp <;> with_reducible rfl
              simp only [Act.put, List.setIfInBounds_toArray, List.set_cons_zero, List.set_cons_succ]
              refine held_take 16 (some 63) ?_ rfl rfl (by kernel_rfl) (fun _ _ _ h => h) (by kernel_rfl) ?_ (by assumption) ?_
              rotate_left
              · intro wS hS; (try dsimp only at hS); go_simp <;> with_reducible rfl
              simp only [Act.put, List.setIfInBounds_toArray, List.set_cons_zero, List.set_cons_succ]
              by_cases h3 : p < 0
              case pos =>
                have h3_d := decide_eq_true h3
                refine held_take 17 (some 64) (.bool true) rfl rfl (by kernel_rfl) (fun _ _ _ h => h) (by kernel_rfl) ?_ (by assumption) ?_
                · intro wS hS; (try dsimp only at hS); go_simp
                simp only [Act.put, List.setIfInBounds_toArray, List.set_cons_zero, List.set_cons_succ]
                refine held_take 18 (some 65) ?_ rfl rfl (by kernel_rfl) (fun _ _ _ h => h) (by kernel_rfl) ?_ (by assumption) ?_
                rotate_left
                · intro wS hS; (try dsimp only at hS); go_simp <;> with_reducible rfl
                simp only [Act.put, List.setIfInBounds_toArray, List.set_cons_zero, List.set_cons_succ]
                refine held_take 19 (some 66) ?_ rfl rfl (by kernel_rfl) (fun _ _ _ h => h) (by kernel_rfl) ?_ (by assumption) ?_
                rotate_left
                · intro wS hS; (try dsimp only at hS); go_simp <;> with_reducible rfl
                simp only [Act.put, List.setIfInBounds_toArray, List.set_cons_zero, List.set_cons_succ]
                refine held_skips [(20, some 67), (21, some 68), (22, some 69)] 17 (fun _ _ _ _ h => h) rfl (by kernel_rfl) (by assumption) ?_
                simp only [skipL, skipA, List.foldl_cons, List.foldl_nil, Act.put, List.setIfInBounds_toArray, List.set_cons_zero, List.set_cons_succ]
                refine held_take 23 (some 70) ?_ rfl rfl (by kernel_rfl) (fun _ _ _ h => h) (by kernel_rfl) ?_ (by assumption) ?_
                rotate_left
                · intro wS hS; (try dsimp only at hS); go_simp <;> with_reducible rfl
                simp only [Act.put, List.setIfInBounds_toArray, List.set_cons_zero, List.set_cons_succ]
                refine held_take 24 (some 71) ?_ rfl rfl (by kernel_rfl) (fun _ _ _ h => h) (by kernel_rfl) ?_ (by assumption) ?_
                rotate_left
                · intro wS hS; (try dsimp only at hS); go_simp <;> with_reducible rfl
                simp only [Act.put, List.setIfInBounds_toArray, List.set_cons_zero, List.set_cons_succ]
                refine held_skips [(25, some 72), (26, some 73), (27, some 74), (28, some 75), (29, some 76), (30, some 77), (31, some 78), (32, some 79), (33, some 80), (34, some 81), (35, some 82), (36, some 83), (37, some 84), (38, some 85)] 1 (fun _ _ _ _ h => h) rfl (by kernel_rfl) (by assumption) ?_
                simp only [skipL, skipA, List.foldl_cons, List.foldl_nil, Act.put, List.setIfInBounds_toArray, List.set_cons_zero, List.set_cons_succ]
                refine held_take 39 (some 86) ?_ rfl rfl (by kernel_rfl) (fun _ _ _ h => h) (by kernel_rfl) ?_ (by assumption) ?_
                rotate_left
                · intro wS hS; (try dsimp only at hS); go_simp <;> with_reducible rfl
                simp only [Act.put, List.setIfInBounds_toArray, List.set_cons_zero, List.set_cons_succ]
                refine wpAnyH_done (by kernel_rfl) ?_ _
                go_wp2_with fail
                go_meet
                exact ⟨_, rfl, ⟨fun h => (by cases h), fun h => absurd (HIL.out.1 h) (by omega)⟩, HY.out⟩
              case neg =>
                have h3_d := decide_eq_false h3
                refine held_take 17 (some 64) (.bool false) rfl rfl (by kernel_rfl) (fun _ _ _ h => h) (by kernel_rfl) ?_ (by assumption) ?_
                · intro wS hS; (try dsimp only at hS); go_simp
                simp only [Act.put, List.setIfInBounds_toArray, List.set_cons_zero, List.set_cons_succ]
                refine held_take 18 (some 65) ?_ rfl rfl (by kernel_rfl) (fun _ _ _ h => h) (by kernel_rfl) ?_ (by assumption) ?_
                rotate_left
                · intro wS hS; (try dsimp only at hS); go_simp <;> with_reducible rfl
                simp only [Act.put, List.setIfInBounds_toArray, List.set_cons_zero, List.set_cons_succ]
                refine held_take 19 (some 66) ?_ rfl rfl (by kernel_rfl) (fun _ _ _ h => h) (by kernel_rfl) ?_ (by assumption) ?_
                rotate_left
                · intro wS hS; (try dsimp only at hS); go_simp <;> with_reducible rfl
                simp only [Act.put, List.setIfInBounds_toArray, List.set_cons_zero, List.set_cons_succ]
                refine held_take 20 (some 67) ?_ rfl rfl (by kernel_rfl) (fun _ _ _ h => h) (by kernel_rfl) ?_ (by assumption) ?_
                rotate_left
                · intro wS hS; (try dsimp only at hS); go_simp <;> with_reducible rfl
                simp only [Act.put, List.setIfInBounds_toArray, List.set_cons_zero, List.set_cons_succ]
                refine held_take 21 (some 68) ?_ rfl rfl (by kernel_rfl) (fun _ _ _ h => h) (by kernel_rfl) ?_ (by assumption) ?_
                rotate_left
                · intro wS hS; (try dsimp only at hS); go_simp <;> with_reducible rfl
                simp only [Act.put, List.setIfInBounds_toArray, List.set_cons_zero, List.set_cons_succ]
                by_cases h4 : 100 < p
                case pos =>
                  have h4_d := decide_eq_true h4
                  refine held_take 22 (some 69) (.bool true) rfl rfl (by kernel_rfl) (fun _ _ _ h => h) (by kernel_rfl) ?_ (by assumption) ?_
                  · intro wS hS; (try dsimp only at hS); go_simp
                  simp only [Act.put, List.setIfInBounds_toArray, List.set_cons_zero, List.set_cons_succ]
                  refine held_take 23 (some 70) ?_ rfl rfl (by kernel_rfl) (fun _ _ _ h => h) (by kernel_rfl) ?_ (by assumption) ?_
                  rotate_left
                  · intro wS hS; (try dsimp only at hS); go_simp <;> with_reducible rfl
                  simp only [Act.put, List.setIfInBounds_toArray, List.set_cons_zero, List.set_cons_succ]
                  refine held_take 24 (some 71) ?_ rfl rfl (by kernel_rfl) (fun _ _ _ h => h) (by kernel_rfl) ?_ (by assumption) ?_
                  rotate_left
                  · intro wS hS; (try dsimp only at hS); go_simp <;> with_reducible rfl
                  simp only [Act.put, List.setIfInBounds_toArray, List.set_cons_zero, List.set_cons_succ]
                  refine held_skips [(25, some 72), (26, some 73), (27, some 74), (28, some 75), (29, some 76), (30, some 77), (31, some 78), (32, some 79), (33, some 80), (34, some 81), (35, some 82), (36, some 83), (37, some 84), (38, some 85)] 1 (fun _ _ _ _ h => h) rfl (by kernel_rfl) (by assumption) ?_
                  simp only [skipL, skipA, List.foldl_cons, List.foldl_nil, Act.put, List.setIfInBounds_toArray, List.set_cons_zero, List.set_cons_succ]
                  refine held_take 39 (some 86) ?_ rfl rfl (by kernel_rfl) (fun _ _ _ h => h) (by kernel_rfl) ?_ (by assumption) ?_
                  rotate_left
                  · intro wS hS; (try dsimp only at hS); go_simp <;> with_reducible rfl
                  simp only [Act.put, List.setIfInBounds_toArray, List.set_cons_zero, List.set_cons_succ]
                  refine wpAnyH_done (by kernel_rfl) ?_ _
                  go_wp2_with fail
                  go_meet
                  exact ⟨_, rfl, ⟨fun h => (by cases h), fun h => absurd (HIL.out.1 h) (by omega)⟩, HY.out⟩
                case neg =>
                  have h4_d := decide_eq_false h4
                  refine held_take 22 (some 69) (.bool false) rfl rfl (by kernel_rfl) (fun _ _ _ h => h) (by kernel_rfl) ?_ (by assumption) ?_
                  · intro wS hS; (try dsimp only at hS); go_simp
                  simp only [Act.put, List.setIfInBounds_toArray, List.set_cons_zero, List.set_cons_succ]
                  refine held_take 23 (some 70) ?_ rfl rfl (by kernel_rfl) (fun _ _ _ h => h) (by kernel_rfl) ?_ (by assumption) ?_
                  rotate_left
                  · intro wS hS; (try dsimp only at hS); go_simp <;> with_reducible rfl
                  simp only [Act.put, List.setIfInBounds_toArray, List.set_cons_zero, List.set_cons_succ]
                  refine held_take 24 (some 71) ?_ rfl rfl (by kernel_rfl) (fun _ _ _ h => h) (by kernel_rfl) ?_ (by assumption) ?_
                  rotate_left
                  · intro wS hS; (try dsimp only at hS); go_simp <;> with_reducible rfl
                  simp only [Act.put, List.setIfInBounds_toArray, List.set_cons_zero, List.set_cons_succ]
                  refine held_take 25 (some 72) ?_ rfl rfl (by kernel_rfl) (fun _ _ _ h => h) (by kernel_rfl) ?_ (by assumption) ?_
                  rotate_left
                  · intro wS hS; (try dsimp only at hS); go_simp <;> with_reducible rfl
                  simp only [Act.put, List.setIfInBounds_toArray, List.set_cons_zero, List.set_cons_succ]
                  by_cases h5 : (0 : Int) < (i : Int)
                  case pos =>
                    have h5_d := decide_eq_true h5
                    have h5n : 0 < i := by omega
                    have e1 : IntKind.i64.wrap ((i : Int) - 1) = ((i - 1 : Nat) : Int) := by have := HI.out.2; rw [IntWalk.i64_in _ (by omega)]; omega
                    have e2 : (0 : Int) ≤ ((i - 1 : Nat) : Int) := by omega
                    have e3 : ((i - 1 : Nat) : Int) < (ds.length : Int) := by have := HI.out.2; omega
                    refine held_take 26 (some 73) (.bool true) rfl rfl (by kernel_rfl) (fun _ _ _ h => h) (by kernel_rfl) ?_ (by assumption) ?_
                    · intro wS hS; (try dsimp only at hS); go_simp
                    simp only [Act.put, List.setIfInBounds_toArray, List.set_cons_zero, List.set_cons_succ]
                    refine held_take 27 (some 74) ?_ rfl rfl (by kernel_rfl) (fun _ _ _ h => h) (by kernel_rfl) ?_ (by assumption) ?_
                    rotate_left
                    · intro wS hS; (try dsimp only at hS); go_simp <;> with_reducible rfl
                    simp only [Act.put, List.setIfInBounds_toArray, List.set_cons_zero, List.set_cons_succ]
                    refine held_take 28 (some 75) ?_ rfl rfl (by kernel_rfl) (fun _ _ _ h => h) (by kernel_rfl) ?_ (by assumption) ?_
                    rotate_left
                    · intro wS hS; (try dsimp only at hS); go_simp <;> with_reducible rfl
                    simp only [Act.put, List.setIfInBounds_toArray, List.set_cons_zero, List.set_cons_succ]
                    refine held_take 29 (some 76) ?_ rfl rfl (by kernel_rfl) (fun _ _ _ h => h) (by kernel_rfl) ?_ (by assumption) ?_
                    rotate_left
                    · intro wS hS; (try dsimp only at hS); go_simp <;> with_reducible rfl
                    simp only [Act.put, List.setIfInBounds_toArray, List.set_cons_zero, List.set_cons_succ]
                    refine held_take 30 (some 77) ?_ rfl rfl (by kernel_rfl) (fun _ _ _ h => h) (by kernel_rfl) ?_ (by assumption) ?_
                    rotate_left
                    · intro wS hS; (try dsimp only at hS); go_simp <;> with_reducible rfl
                    simp only [Act.put, List.setIfInBounds_toArray, List.set_cons_zero, List.set_cons_succ]
                    refine held_take 31 (some 78) ?_ rfl rfl (by kernel_rfl) (fun _ _ _ h => h) (by kernel_rfl) ?_ (by assumption) ?_
                    rotate_left
                    · intro wS hS; (try dsimp only at hS); go_simp <;> with_reducible rfl
                    simp only [Act.put, List.setIfInBounds_toArray, List.set_cons_zero, List.set_cons_succ]
                    refine held_take 32 (some 79) ?_ rfl rfl (by kernel_rfl) (fun _ _ _ h => h) (by kernel_rfl) ?_ (by assumption) ?_
                    rotate_left
                    · intro wS hS; (try dsimp only at hS); go_simp <;> with_reducible rfl
                    simp only [Act.put, List.setIfInBounds_toArray, List.set_cons_zero, List.set_cons_succ]
                    refine held_take 33 (some 80) ?_ rfl rfl (by kernel_rfl) (fun _ _ _ h => h) (by kernel_rfl) ?_ (by assumption) ?_
                    rotate_left
                    · intro wS hS; (try dsimp only at hS); go_simp <;> with_reducible rfl
                    simp only [Act.put, List.setIfInBounds_toArray, List.set_cons_zero, List.set_cons_succ]
                    refine held_take 34 (some 81) ?_ rfl rfl (by kernel_rfl) (fun _ _ _ h => h) (by kernel_rfl) ?_ (by assumption) ?_
                    rotate_left
                    · intro wS hS; (try dsimp only at hS); go_simp <;> with_reducible rfl
                    simp only [Act.put, List.setIfInBounds_toArray, List.set_cons_zero, List.set_cons_succ]
                    refine held_take 35 (some 82) ?_ rfl rfl (by kernel_rfl) (fun _ _ _ h => h) (by kernel_rfl) ?_ (by assumption) ?_
                    rotate_left
                    · intro wS hS; (try dsimp only at hS); go_simp <;> with_reducible rfl
                    simp only [Act.put, List.setIfInBounds_toArray, List.set_cons_zero, List.set_cons_succ]
                    refine held_take 36 (some 83) ?_ rfl rfl (by kernel_rfl) (fun _ _ _ h => h) (by kernel_rfl) ?_ (by assumption) ?_
                    rotate_left
                    · intro wS hS; (try dsimp only at hS); go_simp <;> with_reducible rfl
                    simp only [Act.put, List.setIfInBounds_toArray, List.set_cons_zero, List.set_cons_succ]
                    by_cases h6 : t < pt
                    case pos =>
                      have h6_d := decide_eq_true h6
                      refine held_take 37 (some 84) (.bool true) rfl rfl (by kernel_rfl) (fun _ _ _ h => h) (by kernel_rfl) ?_ (by assumption) ?_
                      · intro wS hS; (try dsimp only at hS); go_simp
                      simp only [Act.put, List.setIfInBounds_toArray, List.set_cons_zero, List.set_cons_succ]
                      refine held_take 38 (some 85) ?_ rfl rfl (by kernel_rfl) (fun _ _ _ h => h) (by kernel_rfl) ?_ (by assumption) ?_
                      rotate_left
                      · intro wS hS; (try dsimp only at hS); go_simp <;> with_reducible rfl
                      simp only [Act.put, List.setIfInBounds_toArray, List.set_cons_zero, List.set_cons_succ]
                      refine held_take 39 (some 86) ?_ rfl rfl (by kernel_rfl) (fun _ _ _ h => h) (by kernel_rfl) ?_ (by assumption) ?_
                      rotate_left
                      · intro wS hS; (try dsimp only at hS); go_simp <;> with_reducible rfl
                      simp only [Act.put, List.setIfInBounds_toArray, List.set_cons_zero, List.set_cons_succ]
                      refine wpAnyH_done (by kernel_rfl) ?_ _
                      go_wp2_with fail
                      go_meet
                      exact ⟨_, rfl, ⟨fun h => (by cases h), fun h => absurd (HIL.out.1 h) (by omega)⟩, HY.out⟩
                    case neg =>
                      have h6_d := decide_eq_false h6
                      refine held_take 37 (some 84) (.bool false) rfl rfl (by kernel_rfl) (fun _ _ _ h => h) (by kernel_rfl) ?_ (by assumption) ?_
                      · intro wS hS; (try dsimp only at hS); go_simp
                      simp only [Act.put, List.setIfInBounds_toArray, List.set_cons_zero, List.set_cons_succ]
                      refine held_take 38 (some 85) ?_ rfl rfl (by kernel_rfl) (fun _ _ _ h => h) (by kernel_rfl) ?_ (by assumption) ?_
                      rotate_left
                      · intro wS hS; (try dsimp only at hS); go_simp <;> with_reducible rfl
                      simp only [Act.put, List.setIfInBounds_toArray, List.set_cons_zero, List.set_cons_succ]
                      refine held_take 39 (some 86) ?_ rfl rfl (by kernel_rfl) (fun _ _ _ h => h) (by kernel_rfl) ?_ (by assumption) ?_
                      rotate_left
                      · intro wS hS; (try dsimp only at hS); go_simp <;> with_reducible rfl
                      simp only [Act.put, List.setIfInBounds_toArray, List.set_cons_zero, List.set_cons_succ]
                      refine wpAnyH_done (by kernel_rfl) ?_ _
                      go_wp2_with fail
                      go_meet
                      exact ⟨_, rfl, ⟨fun _ => HIL.out.2 (by omega), fun _ => rfl⟩, HY.out⟩
                  case neg =>
                    have h5_d := decide_eq_false h5
                    have h5z : i = 0 := by omega
                    refine held_take 26 (some 73) (.bool false) rfl rfl (by kernel_rfl) (fun _ _ _ h => h) (by kernel_rfl) ?_ (by assumption) ?_
                    · intro wS hS; (try dsimp only at hS); go_simp
                    clear h5z
                    simp only [Act.put, List.setIfInBounds_toArray, List.set_cons_zero, List.set_cons_succ]
                    refine held_take 27 (some 74) ?_ rfl rfl (by kernel_rfl) (fun _ _ _ h => h) (by kernel_rfl) ?_ (by assumption) ?_
                    rotate_left
                    · intro wS hS; (try dsimp only at hS); go_simp <;> with_reducible rfl
                    simp only [Act.put, List.setIfInBounds_toArray, List.set_cons_zero, List.set_cons_succ]
                    refine held_skips [(28, some 75), (29, some 76), (30, some 77), (31, some 78), (32, some 79), (33, some 80), (34, some 81), (35, some 82), (36, some 83), (37, some 84)] 2 (fun _ _ _ _ h => h) rfl (by kernel_rfl) (by assumption) ?_
                    simp only [skipL, skipA, List.foldl_cons, List.foldl_nil, Act.put, List.setIfInBounds_toArray, List.set_cons_zero, List.set_cons_succ]
                    refine held_take 38 (some 85) ?_ rfl rfl (by kernel_rfl) (fun _ _ _ h => h) (by kernel_rfl) ?_ (by assumption) ?_
                    rotate_left
                    · intro wS hS; (try dsimp only at hS); go_simp <;> with_reducible rfl
                    simp only [Act.put, List.setIfInBounds_toArray, List.set_cons_zero, List.set_cons_succ]
                    refine held_take 39 (some 86) ?_ rfl rfl (by kernel_rfl) (fun _ _ _ h => h) (by kernel_rfl) ?_ (by assumption) ?_
                    rotate_left
                    · intro wS hS; (try dsimp only at hS); go_simp <;> with_reducible rfl
                    simp only [Act.put, List.setIfInBounds_toArray, List.set_cons_zero, List.set_cons_succ]
                    refine wpAnyH_done (by kernel_rfl) ?_ _
                    go_wp2_with fail
                    go_meet
                    exact ⟨_, rfl, ⟨fun _ => HIL.out.2 (by omega), fun _ => rfl⟩, HY.out⟩
        case neg =>
          refine held_call 2 (some 49) 49 [.tmp 48] #[29] rfl rfl (by kernel_rfl) (by kernel_rfl) rfl (enters_of Try.func49 (by kernel_rfl) rfl) (HP2.out h0 _) (by kernel_rfl) ?_
          rintro e wq ⟨rfl, hq⟩
          have HY := Lib.hid (HY.out.trans (hq.mono HY.out.size)); clear hq
          refine ⟨_, rfl, (HK.out _ HY.out), ?_⟩
          have hHeld := (HK.out _ HY.out)
          simp only [Act.put, List.setIfInBounds_toArray, List.set_cons_zero, List.set_cons_succ]
          refine held_take 3 (some 50) ?_ rfl rfl (by kernel_rfl) (fun _ _ _ h => h) (by kernel_rfl) ?_ (by assumption) ?_
          rotate_left
          · intro wS hS; (try dsimp only at hS); go_simp <;> with_reducible rfl
          simp only [Act.put, List.setIfInBounds_toArray, List.set_cons_zero, List.set_cons_succ]
          refine held_take 4 (some 51) ?_ rfl rfl (by kernel_rfl) (fun _ _ _ h => h) (by kernel_rfl) ?_ (by assumption) ?_
          rotate_left
          · intro wS hS; (try dsimp only at hS); go_simp <;> with_reducible rfl
          simp only [Act.put, List.setIfInBounds_toArray, List.set_cons_zero, List.set_cons_succ]
          refine held_skips [(5, some 52), (6, some 53), (7, some 54)] 32 (fun _ _ _ _ h => h) rfl (by kernel_rfl) (by assumption) ?_
          simp only [skipL, skipA, List.foldl_cons, List.foldl_nil, Act.put, List.setIfInBounds_toArray, List.set_cons_zero, List.set_cons_succ]
          refine held_take 8 (some 55) ?_ rfl rfl (by kernel_rfl) (fun _ _ _ h => h) (by kernel_rfl) ?_ (by assumption) ?_
          rotate_left
          · intro wS hS; (try dsimp only at hS); go_simp <;> with_reducible rfl
          simp only [Act.put, List.setIfInBounds_toArray, List.set_cons_zero, List.set_cons_succ]
          refine held_take 9 (some 56) ?_ rfl rfl (by kernel_rfl) (fun _ _ _ h => h) (by kernel_rfl) ?_ (by assumption) ?_
          rotate_left
          · intro wS hS; (try dsimp only at hS); go_simp <;> with_reducible rfl
          simp only [Act.put, List.setIfInBounds_toArray, List.set_cons_zero, List.set_cons_succ]
          refine held_skips [(10, some 57), (11, some 58), (12, some 59)] 27 (fun _ _ _ _ h => h) rfl (by kernel_rfl) (by assumption) ?_
          simp only [skipL, skipA, List.foldl_cons, List.foldl_nil, Act.put, List.setIfInBounds_toArray, List.set_cons_zero, List.set_cons_succ]
          refine held_take 13 (some 60) ?_ rfl rfl (by kernel_rfl) (fun _ _ _ h => h) (by kernel_rfl) ?_ (by assumption) ?_
          rotate_left
          · intro wS hS; (try dsimp only at hS); go_simp <;> with_reducible rfl
          simp only [Act.put, List.setIfInBounds_toArray, List.set_cons_zero, List.set_cons_succ]
          refine held_take 14 (some 61) ?_ rfl rfl (by kernel_rfl) (fun _ _ _ h => h) (by kernel_rfl) ?_ (by assumption) ?_
          rotate_left
          · intro wS hS; (try dsimp only at hS); go_simp <;> with_reducible rfl
          simp only [Act.put, List.setIfInBounds_toArray, List.set_cons_zero, List.set_cons_succ]
          refine held_skips [(15, some 62), (16, some 63), (17, some 64)] 22 (fun _ _ _ _ h => h) rfl (by kernel_rfl) (by assumption) ?_
          simp only [skipL, skipA, List.foldl_cons, List.foldl_nil, Act.put, List.setIfInBounds_toArray, List.set_cons_zero, List.set_cons_succ]
          refine held_take 18 (some 65) ?_ rfl rfl (by kernel_rfl) (fun _ _ _ h => h) (by kernel_rfl) ?_ (by assumption) ?_
          rotate_left
          · intro wS hS; (try dsimp only at hS); go_simp <;> with_reducible rfl
          simp only [Act.put, List.setIfInBounds_toArray, List.set_cons_zero, List.set_cons_succ]
          refine held_take 19 (some 66) ?_ rfl rfl (by kernel_rfl) (fun _ _ _ h => h) (by kernel_rfl) ?_ (by assumption) ?_
          rotate_left
          · intro wS hS; (try dsimp only at hS); go_simp <;> with_reducible rfl
          simp only [Act.put, List.setIfInBounds_toArray, List.set_cons_zero, List.set_cons_succ]
          refine held_skips [(20, some 67), (21, some 68), (22, some 69)] 17 (fun _ _ _ _ h => h) rfl (by kernel_rfl) (by assumption) ?_
          simp only [skipL, skipA, List.foldl_cons, List.foldl_nil, Act.put, List.setIfInBounds_toArray, List.set_cons_zero, List.set_cons_succ]
          refine held_take 23 (some 70) ?_ rfl rfl (by kernel_rfl) (fun _ _ _ h => h) (by kernel_rfl) ?_ (by assumption) ?_
          rotate_left
          · intro wS hS; (try dsimp only at hS); go_simp <;> with_reducible rfl
          simp only [Act.put, List.setIfInBounds_toArray, List.set_cons_zero, List.set_cons_succ]
          refine held_take 24 (some 71) ?_ rfl rfl (by kernel_rfl) (fun _ _ _ h => h) (by kernel_rfl) ?_ (by assumption) ?_
          rotate_left
          · intro wS hS; (try dsimp only at hS); go_simp <;> with_reducible rfl
          simp only [Act.put, List.setIfInBounds_toArray, List.set_cons_zero, List.set_cons_succ]
          refine held_skips [(25, some 72), (26, some 73), (27, some 74), (28, some 75), (29, some 76), (30, some 77), (31, some 78), (32, some 79), (33, some 80), (34, some 81), (35, some 82), (36, some 83), (37, some 84), (38, some 85)] 1 (fun _ _ _ _ h => h) rfl (by kernel_rfl) (by assumption) ?_
          simp only [skipL, skipA, List.foldl_cons, List.foldl_nil, Act.put, List.setIfInBounds_toArray, List.set_cons_zero, List.set_cons_succ]
          refine held_take 39 (some 86) ?_ rfl rfl (by kernel_rfl) (fun _ _ _ h => h) (by kernel_rfl) ?_ (by assumption) ?_
          rotate_left
          · intro wS hS; (try dsimp only at hS); go_simp <;> with_reducible rfl
          simp only [Act.put, List.setIfInBounds_toArray, List.set_cons_zero, List.set_cons_succ]
          refine wpAnyH_done (by kernel_rfl) ?_ _
          go_wp2_with fail
          go_meet
          exact ⟨_, rfl, ⟨fun h => (by cases h), fun h => absurd (HIL.out.1 h) (by omega)⟩, HY.out⟩
      case rest =>
        obtain ⟨bv, rfl, hbv, hcb⟩ := hcut
        have HBV := Lib.hid hbv
        have HW2 := Lib.hid hcb
        have HFW : Hid (Below (w.heap.size + 1) (w.alloc (.cells #[.int .i64 P, .int .i64 N, .slice (some ⟨b, o, none⟩) ds.length c] 27)) wc) := by
          have h8 := HW.out.size
          have h7 := HFIT.out
          exact Lib.hid (HW.out.trans ((((Below.refl _ _).alloc (Nat.le_refl _) _).trans (HW2.out.mono (by simp))).mono (by omega)))
        clear hbv hcb
        cases bv with
        | true =>
          have HN : Hid (¬ OkAt ds i) := Lib.hid (fun h => by cases HBV.out.2 h)
          go_wp2_with fail
          go_ret
          exact ⟨by rw [HBAD.out i HI.out.2 HN.out]; rfl, HB.out.trans (HFW.out.mono (by omega))⟩
        | false =>
          have HN : Hid (OkAt ds i) := Lib.hid (HBV.out.1 rfl)
          have q5 : (i : Int) + 1 ≤ 9223372036854775807 := by have := HI.out.2; omega
          go_wp2_with fail
          go_roundw
          case rel => exact ⟨i + 1, by go_num, by have := HI.out.2; omega, fun j hj => by
            by_cases hji : j = i
            · rw [hji]; exact HN.out
            · exact HOK.out j (by omega), HFW.out⟩
          case measure => have := HI.out.2; simp [intOf]; omega
set_option maxRecDepth 100000 in
set_option maxHeartbeats 4000000 in
theorem rvalid_any (P N : Int) (ds : List Dt) (A : Option Addr) (c : Nat) (w : World) (hA : Dz w A ds) (hz : ds.length ≤ 9000000000000000000) :
    Calls Try.prog 21 #[.agg #[.int .i64 P, .int .i64 N, .slice A ds.length c]] w fun e w' => e = .returned (.bool (decide (Vd P N ds))) ∧ Below w.heap.size w w' := by
  have HB : Hid (Below w.heap.size w (w.alloc (.cells #[.int .i64 P, .int .i64 N, .slice A ds.length c] 27))) := (Below.refl _ _).alloc (Nat.le_refl _) _
  have HS := Lib.hid (Blk.new w 27 #[.int .i64 P, .int .i64 N, .slice A ds.length c])
  have c0 := HS.out.cell (i := 0) (v := .int .i64 P) rfl
  have c1 := HS.out.cell (i := 1) (v := .int .i64 N) rfl
  have c2 := HS.out.cell (i := 2) (v := .slice A ds.length c) rfl
  by_cases h1 : 0 ≤ P
  case neg =>
    have HN : Hid (decide (Vd P N ds) = false) := Lib.hid (decide_eq_false fun h => by unfold Vd at h; omega)
    have g0 : (P < 0) := by omega
    clear hA hz
    go_enter Try.func21, Try.ntmps21
    go_wp2_with fail
    go_ret
    exact ⟨by rw [HN.out]; rfl, HB.out⟩
  case pos =>
    by_cases h2 : P ≤ 39
    case neg =>
      have HN : Hid (decide (Vd P N ds) = false) := Lib.hid (decide_eq_false fun h => by unfold Vd at h; omega)
      have g1 : (39 < P) := by omega
      clear hA hz
      go_enter Try.func21, Try.ntmps21
      go_wp2_with fail
      go_ret
      exact ⟨by rw [HN.out]; rfl, HB.out⟩
    case pos =>
      by_cases h3 : 1 ≤ N
      case neg =>
        have HN : Hid (decide (Vd P N ds) = false) := Lib.hid (decide_eq_false fun h => by unfold Vd at h; omega)
        have g2 : (N < 1) := by omega
        clear hA hz
        go_enter Try.func21, Try.ntmps21
        go_wp2_with fail
        go_ret
        exact ⟨by rw [HN.out]; rfl, HB.out⟩
      case pos =>
        by_cases h4 : N ≤ 999
        case neg =>
          have HN : Hid (decide (Vd P N ds) = false) := Lib.hid (decide_eq_false fun h => by unfold Vd at h; omega)
          have g3 : (999 < N) := by omega
          clear hA hz
          go_enter Try.func21, Try.ntmps21
          go_wp2_with fail
          go_ret
          exact ⟨by rw [HN.out]; rfl, HB.out⟩
        case pos =>
          by_cases h5 : 1 ≤ ds.length
          case neg =>
            have HN : Hid (decide (Vd P N ds) = false) := Lib.hid (decide_eq_false fun h => by unfold Vd at h; omega)
            have g4 : ((ds.length : Int) < 1) := by omega
            clear hA hz
            go_enter Try.func21, Try.ntmps21
            go_wp2_with fail
            go_ret
            exact ⟨by rw [HN.out]; rfl, HB.out⟩
          case pos =>
            by_cases h6 : ds.length ≤ 200
            case neg =>
              have HN : Hid (decide (Vd P N ds) = false) := Lib.hid (decide_eq_false fun h => by unfold Vd at h; omega)
              have g5 : (200 < (ds.length : Int)) := by omega
              clear hA hz
              go_enter Try.func21, Try.ntmps21
              go_wp2_with fail
              go_ret
              exact ⟨by rw [HN.out]; rfl, HB.out⟩
            case pos =>
              exact rvalid_go P N ds A c w hA h1 h2 h3 h4 h5 h6
end Go.Proofs.Ytamogfcedkjmcaa
