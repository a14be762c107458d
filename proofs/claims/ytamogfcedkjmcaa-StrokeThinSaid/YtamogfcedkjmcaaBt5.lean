
/- The contracts of the reference's between and Within. Conditions: the slices read; indices of dots. -/
import Derived.Test.YtamogfcedkjmcaaSt5
namespace Go.Proofs.Ytamogfcedkjmcaa
open Go.RowKit Go.Lib Go.Shelf

/-- Dot n is near dots i and k. -/
def NearAt (ds : List Dt) (z : Int) (i k n : Nat) : Prop := ∀ d e f, ds[i]? = some d → ds[k]? = some e → ds[n]? = some f → NearP d.x d.y e.x e.y f.x f.y z
/-- All dots between are near. -/
def BetwP (ds : List Dt) (z : Int) (i k : Nat) : Prop := ∀ n, i < n → n < k → NearAt ds z i k n
noncomputable instance (ds : List Dt) (z : Int) (i k : Nat) : Decidable (BetwP ds z i k) := Classical.propDecidable _
theorem rnear_yes (ax ay bx by_ px py z : Int) (w : World) (h : NearP ax ay bx by_ px py z) :
    Calls Try.prog 38 #[.agg #[.int .i64 ax, .int .i64 ay], .agg #[.int .i64 bx, .int .i64 by_], .agg #[.int .i64 px, .int .i64 py], .int .i64 z] w fun e w' => e = .returned (.bool true) ∧ Below w.heap.size w w' := by
  have := rnear_any ax ay bx by_ px py z w
  rwa [decide_eq_true h] at this
theorem rnear_not (ax ay bx by_ px py z : Int) (w : World) (h : ¬ NearP ax ay bx by_ px py z) :
    Calls Try.prog 38 #[.agg #[.int .i64 ax, .int .i64 ay], .agg #[.int .i64 bx, .int .i64 by_], .agg #[.int .i64 px, .int .i64 py], .int .i64 z] w fun e w' => e = .returned (.bool false) ∧ Below w.heap.size w w' := by
  have := rnear_any ax ay bx by_ px py z w
  rwa [decide_eq_false h] at this
set_option maxRecDepth 100000 in
set_option maxHeartbeats 8000000 in
theorem rbetween_any (P N : Int) (ds : List Dt) (A : Option Addr) (c : Nat) (z : Int) (i k : Nat) (w : World) (hA : Dz w A ds) (hz : ds.length ≤ 9000000000000000000) (hi : i < ds.length) (hk : k < ds.length) :
    Calls Try.prog 54 #[.agg #[.int .i64 P, .int .i64 N, .slice A ds.length c], .int .i64 (i : Nat), .int .i64 (k : Nat), .int .i64 z] w fun e w' => e = .returned (.bool (decide (BetwP ds z i k))) ∧ Below w.heap.size w w' := by
  obtain ⟨b, o, rfl⟩ := hA.some (by omega)
  have HAT := Lib.hid hA.at
  have HZ := Lib.hid (And.intro hz (And.intro hi hk))
  clear hA
  have HSP : Hid (∀ v, (v = true ↔ ∀ n, i < n → n < k → NearAt ds z i k n) → decide (BetwP ds z i k) = v) := fun v hv => by
    cases v with
    | true => exact decide_eq_true (hv.1 rfl)
    | false => exact decide_eq_false fun h => by cases hv.2 h
  have S_0 : Hid (Blk (w.alloc (.cells #[.int .i64 P, .int .i64 N, .slice (some ⟨b, o, none⟩) ds.length c] 27)) w.heap.size 27 #[.int .i64 P, .int .i64 N, .slice (some ⟨b, o, none⟩) ds.length c]) := allocs_blk [(#[.int .i64 P, .int .i64 N, .slice (some ⟨b, o, none⟩) ds.length c], 27)] w 0 _ rfl
  have HB_0 : Hid (Below w.heap.size w (w.alloc (.cells #[.int .i64 P, .int .i64 N, .slice (some ⟨b, o, none⟩) ds.length c] 27))) := allocs_below [(#[.int .i64 P, .int .i64 N, .slice (some ⟨b, o, none⟩) ds.length c], 27)] w (Below.refl w.heap.size w) (Nat.le_refl _)
  have hi1 : (i : Int) + 1 ≤ 9223372036854775807 := by omega
  clear hz hi hk
  go_enter Try.func54, Try.ntmps54
  go_wp2_with fail
  go_loopw [9] (fun ii wr => ∃ n : Nat, ii = .int .i64 n ∧ i < n ∧ (n ≤ k ∨ n = i + 1) ∧ (∀ j, i < j → j < n → NearAt ds z i k j) ∧ Below (w.alloc (.cells #[.int .i64 P, .int .i64 N, .slice (some ⟨b, o, none⟩) ds.length c] 27)).heap.size (w.alloc (.cells #[.int .i64 P, .int .i64 N, .slice (some ⟨b, o, none⟩) ds.length c] 27)) wr) (fun ii _ => k - (intOf ii).toNat)
  case atStart => exact ⟨i + 1, by go_num, by omega, .inr rfl, fun j h1 h2 => absurd h1 (by omega), Below.refl _ _⟩
  case round =>
    obtain ⟨n, rfl, hin, hnk, hok, hb⟩ := hrel
    clear hi1
    have HBR := Lib.hid hb; have HOK := Lib.hid hok; have HIN := Lib.hid (And.intro hin hnk); clear hok hin hnk
    have S_1 : Hid (Blk wr w.heap.size 27 #[.int .i64 P, .int .i64 N, .slice (some ⟨b, o, none⟩) ds.length c]) := Lib.hid (S_0.out.below hb S_0.out.lt)
    have HB_1 : Hid (Below w.heap.size w wr) := Lib.hid (HB_0.out.trans (hb.mono HB_0.out.size))
    clear hb S_0 HB_0
    by_cases hlt : n < k
    case neg =>
      have HR := Lib.hid (HSP.out true ⟨fun _ j h1 h2 => HOK.out j h1 (by have := HIN.out; omega), fun _ => rfl⟩)
      have hni : ¬ ((n : Int) < (k : Int)) := by omega
      go_wp2_with fail
      go_ret
      exact ⟨by rw [HR.out]; rfl, HB_1.out⟩
    case pos =>
      have hz := HZ.out
      have hin := HIN.out
      have hni2 : i < ds.length := hz.2.1
      have hnk2 : k < ds.length := hz.2.2
      have hnn : n < ds.length := by omega
      obtain ⟨d, hd⟩ : ∃ d, d = ds[i] := ⟨_, rfl⟩
      obtain ⟨e, he⟩ : ∃ e, e = ds[k] := ⟨_, rfl⟩
      obtain ⟨f, hf⟩ : ∃ f, f = ds[n] := ⟨_, rfl⟩
      have hD := fun W hb => HAT.out W hb i hni2
      have hE := fun W hb => HAT.out W hb k hnk2
      have hF := fun W hb => HAT.out W hb n hnn
      rw [← hd] at hD; rw [← he] at hE; rw [← hf] at hF
      have hna : NearAt ds z i k n ↔ NearP d.x d.y e.x e.y f.x f.y z := ⟨fun h => h d e f (by rw [hd]; exact List.getElem?_eq_getElem _) (by rw [he]; exact List.getElem?_eq_getElem _) (by rw [hf]; exact List.getElem?_eq_getElem _), fun h d2 e2 f2 h1 h2 h3 => by
        rw [List.getElem?_eq_getElem hni2, Option.some.injEq, ← hd] at h1
        rw [List.getElem?_eq_getElem hnk2, Option.some.injEq, ← he] at h2
        rw [List.getElem?_eq_getElem hnn, Option.some.injEq, ← hf] at h3
        rw [← h1, ← h2, ← h3]; exact h⟩
      have HNA := Lib.hid hna
      have HD := Lib.hid hD; have HE := Lib.hid hE; have HF := Lib.hid hF
      have HLT := Lib.hid hlt
      have q1 : (0 : Int) ≤ (i : Int) := by omega
      have q2 : (i : Int) < (ds.length : Int) := by omega
      have q3 : (0 : Int) ≤ (k : Int) := by omega
      have q4 : (k : Int) < (ds.length : Int) := by omega
      have q5 : (0 : Int) ≤ (n : Int) := by omega
      have q6 : (n : Int) < (ds.length : Int) := by omega
      have q7 : (n : Int) < (k : Int) := by omega
      have HA1 := Lib.hid (fun W => rat_any d.x d.y d.t d.p W); have HA2 := Lib.hid (fun W => rat_any e.x e.y e.t e.p W); have HA3 := Lib.hid (fun W => rat_any f.x f.y f.t f.p W)
      clear hD hE hF hd he hf hna hz hin hni2 hnk2 hnn hlt
      go_upto_region 4 with fail
      have HK : Hid (∀ w', Below wr.heap.size wr w' → w'.cell? ⟨w.heap.size, 2, none⟩ = some (.slice (some ⟨b, o, none⟩) ds.length c) ∧ w'.cell? ⟨b, o + i * 4, none⟩ = some (.int .i64 d.x) ∧ w'.cell? ⟨b, o + i * 4 + 1, none⟩ = some (.int .i64 d.y) ∧ w'.cell? ⟨b, o + i * 4 + 2, none⟩ = some (.int .i64 d.t) ∧ w'.cell? ⟨b, o + i * 4 + 3, none⟩ = some (.int .i64 d.p) ∧ w'.cell? ⟨b, o + k * 4, none⟩ = some (.int .i64 e.x) ∧ w'.cell? ⟨b, o + k * 4 + 1, none⟩ = some (.int .i64 e.y) ∧ w'.cell? ⟨b, o + k * 4 + 2, none⟩ = some (.int .i64 e.t) ∧ w'.cell? ⟨b, o + k * 4 + 3, none⟩ = some (.int .i64 e.p) ∧ w'.cell? ⟨b, o + n * 4, none⟩ = some (.int .i64 f.x) ∧ w'.cell? ⟨b, o + n * 4 + 1, none⟩ = some (.int .i64 f.y) ∧ w'.cell? ⟨b, o + n * 4 + 2, none⟩ = some (.int .i64 f.t) ∧ w'.cell? ⟨b, o + n * 4 + 3, none⟩ = some (.int .i64 f.p)) := fun w' hW => ⟨((S_1.out.below hW S_1.out.lt).cell (i := 2) rfl), (HD.out w' (HB_1.out.trans (hW.mono HB_1.out.size))).1, (HD.out w' (HB_1.out.trans (hW.mono HB_1.out.size))).2.1, (HD.out w' (HB_1.out.trans (hW.mono HB_1.out.size))).2.2.1, (HD.out w' (HB_1.out.trans (hW.mono HB_1.out.size))).2.2.2, (HE.out w' (HB_1.out.trans (hW.mono HB_1.out.size))).1, (HE.out w' (HB_1.out.trans (hW.mono HB_1.out.size))).2.1, (HE.out w' (HB_1.out.trans (hW.mono HB_1.out.size))).2.2.1, (HE.out w' (HB_1.out.trans (hW.mono HB_1.out.size))).2.2.2, (HF.out w' (HB_1.out.trans (hW.mono HB_1.out.size))).1, (HF.out w' (HB_1.out.trans (hW.mono HB_1.out.size))).2.1, (HF.out w' (HB_1.out.trans (hW.mono HB_1.out.size))).2.2.1, (HF.out w' (HB_1.out.trans (hW.mono HB_1.out.size))).2.2.2⟩
      have HY : Hid (Below wr.heap.size wr wr.drew) := (Below.refl _ _).drew
      refine wp_region_held_drew (S := (fun w' => w'.cell? ⟨w.heap.size, 2, none⟩ = some (.slice (some ⟨b, o, none⟩) ds.length c) ∧ w'.cell? ⟨b, o + i * 4, none⟩ = some (.int .i64 d.x) ∧ w'.cell? ⟨b, o + i * 4 + 1, none⟩ = some (.int .i64 d.y) ∧ w'.cell? ⟨b, o + i * 4 + 2, none⟩ = some (.int .i64 d.t) ∧ w'.cell? ⟨b, o + i * 4 + 3, none⟩ = some (.int .i64 d.p) ∧ w'.cell? ⟨b, o + k * 4, none⟩ = some (.int .i64 e.x) ∧ w'.cell? ⟨b, o + k * 4 + 1, none⟩ = some (.int .i64 e.y) ∧ w'.cell? ⟨b, o + k * 4 + 2, none⟩ = some (.int .i64 e.t) ∧ w'.cell? ⟨b, o + k * 4 + 3, none⟩ = some (.int .i64 e.p) ∧ w'.cell? ⟨b, o + n * 4, none⟩ = some (.int .i64 f.x) ∧ w'.cell? ⟨b, o + n * 4 + 1, none⟩ = some (.int .i64 f.y) ∧ w'.cell? ⟨b, o + n * 4 + 2, none⟩ = some (.int .i64 f.t) ∧ w'.cell? ⟨b, o + n * 4 + 3, none⟩ = some (.int .i64 f.p))) (by kernel_rfl) (HK.out _ HY.out) (fun hHeld => ?_)
      refine held_take 0 (some 17) ?_ rfl rfl (by kernel_rfl) (fun _ _ _ h => h) (by kernel_rfl) ?_ (by assumption) ?_
      rotate_left
      · intro wS hS; (try dsimp only at hS); go_simp <;> with_reducible rfl
      try simp only [Act.put, List.setIfInBounds_toArray, List.set_cons_zero, List.set_cons_succ]
      refine held_take 1 (some 18) ?_ rfl rfl (by kernel_rfl) (fun _ _ _ h => h) (by kernel_rfl) ?_ (by assumption) ?_
      rotate_left
      · intro wS hS; (try dsimp only at hS); go_simp <;> with_reducible rfl
      try simp only [Act.put, List.setIfInBounds_toArray, List.set_cons_zero, List.set_cons_succ]
      refine held_take 2 (some 19) ?_ rfl rfl (by kernel_rfl) (fun _ _ _ h => h) (by kernel_rfl) ?_ (by assumption) ?_
      rotate_left
      · intro wS hS; (try dsimp only at hS); go_simp <;> with_reducible rfl
      try simp only [Act.put, List.setIfInBounds_toArray, List.set_cons_zero, List.set_cons_succ]
      refine held_take 3 (some 20) ?_ rfl rfl (by kernel_rfl) (fun _ _ _ h => h) (by kernel_rfl) ?_ (by assumption) ?_
      rotate_left
      · intro wS hS; (try dsimp only at hS); go_simp <;> with_reducible rfl
      try simp only [Act.put, List.setIfInBounds_toArray, List.set_cons_zero, List.set_cons_succ]
      refine held_take 4 (some 21) ?_ rfl rfl (by kernel_rfl) (fun _ _ _ h => h) (by kernel_rfl) ?_ (by assumption) ?_
      rotate_left
      · intro wS hS; (try dsimp only at hS); go_simp <;> with_reducible rfl
      try simp only [Act.put, List.setIfInBounds_toArray, List.set_cons_zero, List.set_cons_succ]
      refine held_take 6 (some 23) ?_ rfl rfl (by kernel_rfl) (fun _ _ _ h => h) (by kernel_rfl) ?_ (by assumption) ?_
      rotate_left
      · intro wS hS; (try dsimp only at hS); go_simp <;> with_reducible rfl
      try simp only [Act.put, List.setIfInBounds_toArray, List.set_cons_zero, List.set_cons_succ]
      refine held_take 7 (some 24) ?_ rfl rfl (by kernel_rfl) (fun _ _ _ h => h) (by kernel_rfl) ?_ (by assumption) ?_
      rotate_left
      · intro wS hS; (try dsimp only at hS); go_simp <;> with_reducible rfl
      try simp only [Act.put, List.setIfInBounds_toArray, List.set_cons_zero, List.set_cons_succ]
      refine held_take 8 (some 25) ?_ rfl rfl (by kernel_rfl) (fun _ _ _ h => h) (by kernel_rfl) ?_ (by assumption) ?_
      rotate_left
      · intro wS hS; (try dsimp only at hS); go_simp <;> with_reducible rfl
      try simp only [Act.put, List.setIfInBounds_toArray, List.set_cons_zero, List.set_cons_succ]
      refine held_take 9 (some 26) ?_ rfl rfl (by kernel_rfl) (fun _ _ _ h => h) (by kernel_rfl) ?_ (by assumption) ?_
      rotate_left
      · intro wS hS; (try dsimp only at hS); go_simp <;> with_reducible rfl
      try simp only [Act.put, List.setIfInBounds_toArray, List.set_cons_zero, List.set_cons_succ]
      refine held_take 10 (some 27) ?_ rfl rfl (by kernel_rfl) (fun _ _ _ h => h) (by kernel_rfl) ?_ (by assumption) ?_
      rotate_left
      · intro wS hS; (try dsimp only at hS); go_simp <;> with_reducible rfl
      try simp only [Act.put, List.setIfInBounds_toArray, List.set_cons_zero, List.set_cons_succ]
      refine held_take 12 (some 29) ?_ rfl rfl (by kernel_rfl) (fun _ _ _ h => h) (by kernel_rfl) ?_ (by assumption) ?_
      rotate_left
      · intro wS hS; (try dsimp only at hS); go_simp <;> with_reducible rfl
      try simp only [Act.put, List.setIfInBounds_toArray, List.set_cons_zero, List.set_cons_succ]
      refine held_take 13 (some 30) ?_ rfl rfl (by kernel_rfl) (fun _ _ _ h => h) (by kernel_rfl) ?_ (by assumption) ?_
      rotate_left
      · intro wS hS; (try dsimp only at hS); go_simp <;> with_reducible rfl
      try simp only [Act.put, List.setIfInBounds_toArray, List.set_cons_zero, List.set_cons_succ]
      refine held_take 14 (some 31) ?_ rfl rfl (by kernel_rfl) (fun _ _ _ h => h) (by kernel_rfl) ?_ (by assumption) ?_
      rotate_left
      · intro wS hS; (try dsimp only at hS); go_simp <;> with_reducible rfl
      try simp only [Act.put, List.setIfInBounds_toArray, List.set_cons_zero, List.set_cons_succ]
      refine held_take 15 (some 32) ?_ rfl rfl (by kernel_rfl) (fun _ _ _ h => h) (by kernel_rfl) ?_ (by assumption) ?_
      rotate_left
      · intro wS hS; (try dsimp only at hS); go_simp <;> with_reducible rfl
      try simp only [Act.put, List.setIfInBounds_toArray, List.set_cons_zero, List.set_cons_succ]
      refine held_take 16 (some 33) ?_ rfl rfl (by kernel_rfl) (fun _ _ _ h => h) (by kernel_rfl) ?_ (by assumption) ?_
      rotate_left
      · intro wS hS; (try dsimp only at hS); go_simp <;> with_reducible rfl
      try simp only [Act.put, List.setIfInBounds_toArray, List.set_cons_zero, List.set_cons_succ]
      refine held_take 18 (some 35) ?_ rfl rfl (by kernel_rfl) (fun _ _ _ h => h) (by kernel_rfl) ?_ (by assumption) ?_
      rotate_left
      · intro wS hS; (try dsimp only at hS); go_simp <;> with_reducible rfl
      try simp only [Act.put, List.setIfInBounds_toArray, List.set_cons_zero, List.set_cons_succ]
      refine held_call 5 (some 22) 46 [.tmp 21] #[24] rfl rfl (by kernel_rfl) (by kernel_rfl) rfl (enters_of Try.func46 (by kernel_rfl) rfl) (HA1.out _) (by kernel_rfl) ?_
      rintro e wq ⟨rfl, hq⟩
      have HY := Lib.hid (HY.out.trans (hq.mono HY.out.size)); clear hq
      refine ⟨_, rfl, (HK.out _ HY.out), ?_⟩
      have hHeld := (HK.out _ HY.out)
      try simp only [Act.put, List.setIfInBounds_toArray, List.set_cons_zero, List.set_cons_succ]
      refine held_call 11 (some 28) 46 [.tmp 27] #[24] rfl rfl (by kernel_rfl) (by kernel_rfl) rfl (enters_of Try.func46 (by kernel_rfl) rfl) (HA2.out _) (by kernel_rfl) ?_
      rintro e wq ⟨rfl, hq⟩
      have HY := Lib.hid (HY.out.trans (hq.mono HY.out.size)); clear hq
      refine ⟨_, rfl, (HK.out _ HY.out), ?_⟩
      have hHeld := (HK.out _ HY.out)
      try simp only [Act.put, List.setIfInBounds_toArray, List.set_cons_zero, List.set_cons_succ]
      refine held_call 17 (some 34) 46 [.tmp 33] #[24] rfl rfl (by kernel_rfl) (by kernel_rfl) rfl (enters_of Try.func46 (by kernel_rfl) rfl) (HA3.out _) (by kernel_rfl) ?_
      rintro e wq ⟨rfl, hq⟩
      have HY := Lib.hid (HY.out.trans (hq.mono HY.out.size)); clear hq
      refine ⟨_, rfl, (HK.out _ HY.out), ?_⟩
      have hHeld := (HK.out _ HY.out)
      try simp only [Act.put, List.setIfInBounds_toArray, List.set_cons_zero, List.set_cons_succ]
      by_cases h0 : NearP d.x d.y e.x e.y f.x f.y z
      case pos =>
        refine held_call 19 (some 36) 38 [.tmp 22, .tmp 28, .tmp 34, .tmp 35] #[29, 29, 29, 3] rfl rfl (by kernel_rfl) (by kernel_rfl) rfl (enters_of Try.func38 (by kernel_rfl) rfl) (rnear_yes _ _ _ _ _ _ _ _ h0) (by kernel_rfl) ?_
        rintro e wq ⟨rfl, hq⟩
        have HY := Lib.hid (HY.out.trans (hq.mono HY.out.size)); clear hq
        refine ⟨_, rfl, (HK.out _ HY.out), ?_⟩
        have hHeld := (HK.out _ HY.out)
        try simp only [Act.put, List.setIfInBounds_toArray, List.set_cons_zero, List.set_cons_succ]
        refine held_take 20 (some 37) ?_ rfl rfl (by kernel_rfl) (fun _ _ _ h => h) (by kernel_rfl) ?_ (by assumption) ?_
        rotate_left
        · intro wS hS; (try dsimp only at hS); go_simp <;> with_reducible rfl
        try simp only [Act.put, List.setIfInBounds_toArray, List.set_cons_zero, List.set_cons_succ]
        refine wpAnyH_done (by kernel_rfl) ?_ _
        have HNN := Lib.hid (HNA.out.2 h0)
        have q8 : (n : Int) + 1 ≤ 9223372036854775807 := by have := HZ.out; have := HLT.out; omega
        go_wp2_with fail
        go_roundw
        case rel => exact ⟨n + 1, by go_num, by have := HIN.out; omega, .inl (by have := HLT.out; omega), fun j h1 h2 => by
          by_cases hj : j = n
          · rw [hj]; exact HNN.out
          · exact HOK.out j h1 (by omega), HBR.out.trans (HY.out.mono HBR.out.size)⟩
        case measure => have := HLT.out; simp [intOf]; omega
      case neg =>
        refine held_call 19 (some 36) 38 [.tmp 22, .tmp 28, .tmp 34, .tmp 35] #[29, 29, 29, 3] rfl rfl (by kernel_rfl) (by kernel_rfl) rfl (enters_of Try.func38 (by kernel_rfl) rfl) (rnear_not _ _ _ _ _ _ _ _ h0) (by kernel_rfl) ?_
        rintro e wq ⟨rfl, hq⟩
        have HY := Lib.hid (HY.out.trans (hq.mono HY.out.size)); clear hq
        refine ⟨_, rfl, (HK.out _ HY.out), ?_⟩
        have hHeld := (HK.out _ HY.out)
        try simp only [Act.put, List.setIfInBounds_toArray, List.set_cons_zero, List.set_cons_succ]
        refine held_take 20 (some 37) ?_ rfl rfl (by kernel_rfl) (fun _ _ _ h => h) (by kernel_rfl) ?_ (by assumption) ?_
        rotate_left
        · intro wS hS; (try dsimp only at hS); go_simp <;> with_reducible rfl
        try simp only [Act.put, List.setIfInBounds_toArray, List.set_cons_zero, List.set_cons_succ]
        refine wpAnyH_done (by kernel_rfl) ?_ _
        have HR := Lib.hid (HSP.out false ⟨fun h => (by cases h), fun h => absurd (HNA.out.1 (h n HIN.out.1 HLT.out)) h0⟩)
        go_wp2_with fail
        go_ret
        exact ⟨by rw [HR.out]; rfl, HB_1.out.trans (HY.out.mono HB_1.out.size)⟩
/-- A place is near the ends of the piece from dot i. -/
def NearSeg (ds : List Dt) (x y z : Int) (i : Nat) : Prop := ∃ d e, ds[i]? = some d ∧ ds[min (i + 1) (ds.length - 1)]? = some e ∧ NearP d.x d.y e.x e.y x y z
def WithinP (P N : Int) (ds : List Dt) (x y z : Int) : Prop := Vd P N ds ∧ ∃ i, i < ds.length ∧ NearSeg ds x y z i
noncomputable instance (P N : Int) (ds : List Dt) (x y z : Int) : Decidable (WithinP P N ds x y z) := Classical.propDecidable _
set_option maxRecDepth 100000 in
set_option maxHeartbeats 8000000 in
theorem rwithin_any (P N : Int) (ds : List Dt) (A : Option Addr) (c : Nat) (x y z : Int) (w : World) (hA : Dz w A ds) (hz : ds.length ≤ 9000000000000000000) :
    Calls Try.prog 32 #[.agg #[.int .i64 P, .int .i64 N, .slice A ds.length c], .agg #[.int .i64 x, .int .i64 y], .int .i64 z] w fun e w' => e = .returned (.bool (decide (WithinP P N ds x y z))) ∧ Below w.heap.size w w' := by
  by_cases hv : Vd P N ds
  case neg =>
    have HR : Hid (decide (WithinP P N ds x y z) = false) := Lib.hid (decide_eq_false fun h => hv h.1)
    have HV := Lib.hid (fun W (hb : Below w.heap.size w W) => rvalid_not P N ds A c W (hA.below hb (Nat.le_refl _)) hz hv)
    clear hA hz hv
    have S_0 : Hid (Blk ((w.alloc (.cells #[.int .i64 P, .int .i64 N, .slice A ds.length c] 27)).alloc (.cells #[.int .i64 x, .int .i64 y] 29)) w.heap.size 27 #[.int .i64 P, .int .i64 N, .slice A ds.length c]) := allocs_blk [(#[.int .i64 P, .int .i64 N, .slice A ds.length c], 27), (#[.int .i64 x, .int .i64 y], 29)] w 0 _ rfl
    have Q_0 : Hid (Blk ((w.alloc (.cells #[.int .i64 P, .int .i64 N, .slice A ds.length c] 27)).alloc (.cells #[.int .i64 x, .int .i64 y] 29)) (w.heap.size + 1) 29 #[.int .i64 x, .int .i64 y]) := allocs_blk [(#[.int .i64 P, .int .i64 N, .slice A ds.length c], 27), (#[.int .i64 x, .int .i64 y], 29)] w 1 _ rfl
    have HB_0 : Hid (Below w.heap.size w ((w.alloc (.cells #[.int .i64 P, .int .i64 N, .slice A ds.length c] 27)).alloc (.cells #[.int .i64 x, .int .i64 y] 29))) := allocs_below [(#[.int .i64 P, .int .i64 N, .slice A ds.length c], 27), (#[.int .i64 x, .int .i64 y], 29)] w (Below.refl w.heap.size w) (Nat.le_refl _)
    go_enter Try.func32, Try.ntmps32
    have yy0 := S_0.out.cell (i := 0) (v := .int .i64 P) rfl; have yy1 := S_0.out.cell (i := 1) (v := .int .i64 N) rfl; have yy2 := S_0.out.cell (i := 2) (v := .slice A ds.length c) rfl
    go_wp2_with fail
    refine (HV.out _ HB_0.out).mono ?_
    rintro e v0 ⟨rfl, hb⟩
    clear yy0 yy1 yy2
    have S_1 : Hid (Blk v0 w.heap.size 27 #[.int .i64 P, .int .i64 N, .slice A ds.length c]) := Lib.hid (S_0.out.below hb S_0.out.lt)
    have Q_1 : Hid (Blk v0 (w.heap.size + 1) 29 #[.int .i64 x, .int .i64 y]) := Lib.hid (Q_0.out.below hb Q_0.out.lt)
    have HB_1 : Hid (Below w.heap.size w v0) := Lib.hid (HB_0.out.trans (hb.mono HB_0.out.size))
    clear hb S_0 Q_0 HB_0
    go_wp2_with fail
    go_ret
    exact ⟨by rw [HR.out]; rfl, HB_1.out⟩
  case pos =>
    obtain ⟨b, o, rfl⟩ := hA.some (by have := hv.2.2.1; omega)
    have HAT := Lib.hid hA.at
    have HV := Lib.hid (fun W (hb : Below w.heap.size w W) => rvalid_yes P N ds _ c W (hA.below hb (Nat.le_refl _)) hz hv)
    have HLN : Hid (1 ≤ ds.length ∧ ds.length ≤ 200) := Lib.hid hv.2.2.1
    have HSP : Hid (∀ v, (v = true ↔ ∃ i, i < ds.length ∧ NearSeg ds x y z i) → decide (WithinP P N ds x y z) = v) := fun v hv2 => by
      cases v with
      | true => exact decide_eq_true ⟨hv, hv2.1 rfl⟩
      | false => exact decide_eq_false fun h => by cases hv2.2 h.2
    clear hA hz hv
    have S_0 : Hid (Blk ((w.alloc (.cells #[.int .i64 P, .int .i64 N, .slice (some ⟨b, o, none⟩) ds.length c] 27)).alloc (.cells #[.int .i64 x, .int .i64 y] 29)) w.heap.size 27 #[.int .i64 P, .int .i64 N, .slice (some ⟨b, o, none⟩) ds.length c]) := allocs_blk [(#[.int .i64 P, .int .i64 N, .slice (some ⟨b, o, none⟩) ds.length c], 27), (#[.int .i64 x, .int .i64 y], 29)] w 0 _ rfl
    have Q_0 : Hid (Blk ((w.alloc (.cells #[.int .i64 P, .int .i64 N, .slice (some ⟨b, o, none⟩) ds.length c] 27)).alloc (.cells #[.int .i64 x, .int .i64 y] 29)) (w.heap.size + 1) 29 #[.int .i64 x, .int .i64 y]) := allocs_blk [(#[.int .i64 P, .int .i64 N, .slice (some ⟨b, o, none⟩) ds.length c], 27), (#[.int .i64 x, .int .i64 y], 29)] w 1 _ rfl
    have HB_0 : Hid (Below w.heap.size w ((w.alloc (.cells #[.int .i64 P, .int .i64 N, .slice (some ⟨b, o, none⟩) ds.length c] 27)).alloc (.cells #[.int .i64 x, .int .i64 y] 29))) := allocs_below [(#[.int .i64 P, .int .i64 N, .slice (some ⟨b, o, none⟩) ds.length c], 27), (#[.int .i64 x, .int .i64 y], 29)] w (Below.refl w.heap.size w) (Nat.le_refl _)
    go_enter Try.func32, Try.ntmps32
    have yy0 := S_0.out.cell (i := 0) (v := .int .i64 P) rfl; have yy1 := S_0.out.cell (i := 1) (v := .int .i64 N) rfl; have yy2 := S_0.out.cell (i := 2) (v := .slice (some ⟨b, o, none⟩) ds.length c) rfl
    go_wp2_with fail
    refine (HV.out _ HB_0.out).mono ?_
    rintro e v0 ⟨rfl, hb⟩
    clear yy0 yy1 yy2
    have S_1 : Hid (Blk v0 w.heap.size 27 #[.int .i64 P, .int .i64 N, .slice (some ⟨b, o, none⟩) ds.length c]) := Lib.hid (S_0.out.below hb S_0.out.lt)
    have Q_1 : Hid (Blk v0 (w.heap.size + 1) 29 #[.int .i64 x, .int .i64 y]) := Lib.hid (Q_0.out.below hb Q_0.out.lt)
    have HB_1 : Hid (Below w.heap.size w v0) := Lib.hid (HB_0.out.trans (hb.mono HB_0.out.size))
    clear hb S_0 Q_0 HB_0
    go_wp2_with fail
    go_loopw [7] (fun ii wr => ∃ i : Nat, ii = .int .i64 i ∧ i ≤ ds.length ∧ (∀ j, j < i → ¬ NearSeg ds x y z j) ∧ Below v0.heap.size v0 wr) (fun ii _ => ds.length - (intOf ii).toNat)
    case atStart => exact ⟨0, rfl, by omega, fun j h => absurd h (by omega), Below.refl _ _⟩
    case round =>
      obtain ⟨i, rfl, hi, hok, hb⟩ := hrel
      have HBR := Lib.hid hb; have HOK := Lib.hid hok; have HIN := Lib.hid hi; clear hok hi
      have S_2 : Hid (Blk wr w.heap.size 27 #[.int .i64 P, .int .i64 N, .slice (some ⟨b, o, none⟩) ds.length c]) := Lib.hid (S_1.out.below hb S_1.out.lt)
      have Q_2 : Hid (Blk wr (w.heap.size + 1) 29 #[.int .i64 x, .int .i64 y]) := Lib.hid (Q_1.out.below hb Q_1.out.lt)
      have HB_2 : Hid (Below w.heap.size w wr) := Lib.hid (HB_1.out.trans (hb.mono HB_1.out.size))
      clear hb S_1 Q_1 HB_1
      by_cases hlt : i < ds.length
      case neg =>
        have HR := Lib.hid (HSP.out false ⟨fun h => (by cases h), fun ⟨j, h1, h2⟩ => absurd h2 (HOK.out j (by omega))⟩)
        have hni : ¬ ((i : Int) < (ds.length : Int)) := by omega
        have yy0 := S_2.out.cell (i := 0) (v := .int .i64 P) rfl; have yy1 := S_2.out.cell (i := 1) (v := .int .i64 N) rfl; have yy2 := S_2.out.cell (i := 2) (v := .slice (some ⟨b, o, none⟩) ds.length c) rfl
        go_wp2_with fail
        go_ret
        exact ⟨by rw [HR.out]; rfl, HB_2.out⟩
      case pos =>
        have hln := HLN.out
        obtain ⟨m, hm⟩ : ∃ m, m = min (i + 1) (ds.length - 1) := ⟨_, rfl⟩
        have hml : m < ds.length := by omega
        obtain ⟨d, hd⟩ : ∃ d, d = ds[i] := ⟨_, rfl⟩
        obtain ⟨e, he⟩ : ∃ e, e = ds[m] := ⟨_, rfl⟩
        have hD := fun W hb => HAT.out W hb i hlt
        have hE := fun W hb => HAT.out W hb m hml
        rw [← hd] at hD; rw [← he] at hE
        have hna : NearSeg ds x y z i ↔ NearP d.x d.y e.x e.y x y z := by
          unfold NearSeg
          rw [← hm, List.getElem?_eq_getElem hlt, List.getElem?_eq_getElem hml, ← hd, ← he]
          exact ⟨fun ⟨d2, e2, h1, h2, h3⟩ => by cases h1; cases h2; exact h3, fun h => ⟨d, e, rfl, rfl, h⟩⟩
        have HNA := Lib.hid hna
        have HD := Lib.hid hD; have HE := Lib.hid hE; have HLT := Lib.hid hlt
        have q1 : (0 : Int) ≤ (i : Int) := by omega
        have q2 : (i : Int) < (ds.length : Int) := by omega
        have q3 : (0 : Int) ≤ (m : Int) := by omega
        have q4 : (m : Int) < (ds.length : Int) := by omega
        have a1 : IntKind.i64.wrap ((i : Int) + 1) = (i : Int) + 1 := IntWalk.i64_in _ (by omega)
        have a2 : IntKind.i64.wrap ((ds.length : Int) - 1) = (ds.length : Int) - 1 := IntWalk.i64_in _ (by omega)
        have a3 : (if (ds.length : Int) - 1 < (i : Int) + 1 then (ds.length : Int) - 1 else (i : Int) + 1) = (m : Int) := by split <;> omega
        have HA1 := Lib.hid (fun W => rat_any d.x d.y d.t d.p W); have HA2 := Lib.hid (fun W => rat_any e.x e.y e.t e.p W)
        clear hD hE hd he hna hm hml hlt hln
        have yy0 := S_2.out.cell (i := 0) (v := .int .i64 P) rfl; have yy1 := S_2.out.cell (i := 1) (v := .int .i64 N) rfl; have yy2 := S_2.out.cell (i := 2) (v := .slice (some ⟨b, o, none⟩) ds.length c) rfl
        go_upto_region 6 with fail
        clear yy0 yy1 yy2
        have HK : Hid (∀ w', Below wr.heap.size wr w' → w'.cell? ⟨w.heap.size, 2, none⟩ = some (.slice (some ⟨b, o, none⟩) ds.length c) ∧ w'.cell? ⟨(w.heap.size + 1), 0, none⟩ = some (.int .i64 x) ∧ w'.cell? ⟨(w.heap.size + 1), 1, none⟩ = some (.int .i64 y) ∧ w'.cell? ⟨b, o + i * 4, none⟩ = some (.int .i64 d.x) ∧ w'.cell? ⟨b, o + i * 4 + 1, none⟩ = some (.int .i64 d.y) ∧ w'.cell? ⟨b, o + i * 4 + 2, none⟩ = some (.int .i64 d.t) ∧ w'.cell? ⟨b, o + i * 4 + 3, none⟩ = some (.int .i64 d.p) ∧ w'.cell? ⟨b, o + m * 4, none⟩ = some (.int .i64 e.x) ∧ w'.cell? ⟨b, o + m * 4 + 1, none⟩ = some (.int .i64 e.y) ∧ w'.cell? ⟨b, o + m * 4 + 2, none⟩ = some (.int .i64 e.t) ∧ w'.cell? ⟨b, o + m * 4 + 3, none⟩ = some (.int .i64 e.p)) := fun w' hW => ⟨((S_2.out.below hW S_2.out.lt).cell (i := 2) rfl), ((Q_2.out.below hW Q_2.out.lt).cell (i := 0) rfl), ((Q_2.out.below hW Q_2.out.lt).cell (i := 1) rfl), (HD.out w' (HB_2.out.trans (hW.mono HB_2.out.size))).1, (HD.out w' (HB_2.out.trans (hW.mono HB_2.out.size))).2.1, (HD.out w' (HB_2.out.trans (hW.mono HB_2.out.size))).2.2.1, (HD.out w' (HB_2.out.trans (hW.mono HB_2.out.size))).2.2.2, (HE.out w' (HB_2.out.trans (hW.mono HB_2.out.size))).1, (HE.out w' (HB_2.out.trans (hW.mono HB_2.out.size))).2.1, (HE.out w' (HB_2.out.trans (hW.mono HB_2.out.size))).2.2.1, (HE.out w' (HB_2.out.trans (hW.mono HB_2.out.size))).2.2.2⟩
        have HY : Hid (Below wr.heap.size wr wr.drew) := (Below.refl _ _).drew
        refine wp_region_held_drew (S := (fun w' => w'.cell? ⟨w.heap.size, 2, none⟩ = some (.slice (some ⟨b, o, none⟩) ds.length c) ∧ w'.cell? ⟨(w.heap.size + 1), 0, none⟩ = some (.int .i64 x) ∧ w'.cell? ⟨(w.heap.size + 1), 1, none⟩ = some (.int .i64 y) ∧ w'.cell? ⟨b, o + i * 4, none⟩ = some (.int .i64 d.x) ∧ w'.cell? ⟨b, o + i * 4 + 1, none⟩ = some (.int .i64 d.y) ∧ w'.cell? ⟨b, o + i * 4 + 2, none⟩ = some (.int .i64 d.t) ∧ w'.cell? ⟨b, o + i * 4 + 3, none⟩ = some (.int .i64 d.p) ∧ w'.cell? ⟨b, o + m * 4, none⟩ = some (.int .i64 e.x) ∧ w'.cell? ⟨b, o + m * 4 + 1, none⟩ = some (.int .i64 e.y) ∧ w'.cell? ⟨b, o + m * 4 + 2, none⟩ = some (.int .i64 e.t) ∧ w'.cell? ⟨b, o + m * 4 + 3, none⟩ = some (.int .i64 e.p))) (by kernel_rfl) (HK.out _ HY.out) (fun hHeld => ?_)
        refine held_take 0 (some 18) ?_ rfl rfl (by kernel_rfl) (fun _ _ _ h => h) (by kernel_rfl) ?_ (by assumption) ?_
        rotate_left
        · intro wS hS; (try dsimp only at hS); go_simp <;> with_reducible rfl
        try simp only [Act.put, List.setIfInBounds_toArray, List.set_cons_zero, List.set_cons_succ]
        refine held_take 1 (some 19) ?_ rfl rfl (by kernel_rfl) (fun _ _ _ h => h) (by kernel_rfl) ?_ (by assumption) ?_
        rotate_left
        · intro wS hS; (try dsimp only at hS); go_simp <;> with_reducible rfl
        try simp only [Act.put, List.setIfInBounds_toArray, List.set_cons_zero, List.set_cons_succ]
        refine held_take 2 (some 20) ?_ rfl rfl (by kernel_rfl) (fun _ _ _ h => h) (by kernel_rfl) ?_ (by assumption) ?_
        rotate_left
        · intro wS hS; (try dsimp only at hS); go_simp <;> with_reducible rfl
        try simp only [Act.put, List.setIfInBounds_toArray, List.set_cons_zero, List.set_cons_succ]
        refine held_take 3 (some 21) ?_ rfl rfl (by kernel_rfl) (fun _ _ _ h => h) (by kernel_rfl) ?_ (by assumption) ?_
        rotate_left
        · intro wS hS; (try dsimp only at hS); go_simp <;> with_reducible rfl
        try simp only [Act.put, List.setIfInBounds_toArray, List.set_cons_zero, List.set_cons_succ]
        refine held_take 4 (some 22) ?_ rfl rfl (by kernel_rfl) (fun _ _ _ h => h) (by kernel_rfl) ?_ (by assumption) ?_
        rotate_left
        · intro wS hS; (try dsimp only at hS); go_simp <;> with_reducible rfl
        try simp only [Act.put, List.setIfInBounds_toArray, List.set_cons_zero, List.set_cons_succ]
        refine held_take 6 (some 24) ?_ rfl rfl (by kernel_rfl) (fun _ _ _ h => h) (by kernel_rfl) ?_ (by assumption) ?_
        rotate_left
        · intro wS hS; (try dsimp only at hS); go_simp <;> with_reducible rfl
        try simp only [Act.put, List.setIfInBounds_toArray, List.set_cons_zero, List.set_cons_succ]
        refine held_take 7 (some 25) ?_ rfl rfl (by kernel_rfl) (fun _ _ _ h => h) (by kernel_rfl) ?_ (by assumption) ?_
        rotate_left
        · intro wS hS; (try dsimp only at hS); go_simp <;> with_reducible rfl
        try simp only [Act.put, List.setIfInBounds_toArray, List.set_cons_zero, List.set_cons_succ]
        refine held_take 8 (some 26) ?_ rfl rfl (by kernel_rfl) (fun _ _ _ h => h) (by kernel_rfl) ?_ (by assumption) ?_
        rotate_left
        · intro wS hS; (try dsimp only at hS); go_simp <;> with_reducible rfl
        try simp only [Act.put, List.setIfInBounds_toArray, List.set_cons_zero, List.set_cons_succ]
        refine held_take 9 (some 27) ?_ rfl rfl (by kernel_rfl) (fun _ _ _ h => h) (by kernel_rfl) ?_ (by assumption) ?_
        rotate_left
        · intro wS hS; (try dsimp only at hS); go_simp <;> with_reducible rfl
        try simp only [Act.put, List.setIfInBounds_toArray, List.set_cons_zero, List.set_cons_succ]
        refine held_take 10 (some 28) ?_ rfl rfl (by kernel_rfl) (fun _ _ _ h => h) (by kernel_rfl) ?_ (by assumption) ?_
        rotate_left
        · intro wS hS; (try dsimp only at hS); go_simp <;> with_reducible rfl
        try simp only [Act.put, List.setIfInBounds_toArray, List.set_cons_zero, List.set_cons_succ]
        refine held_take 11 (some 29) ?_ rfl rfl (by kernel_rfl) (fun _ _ _ h => h) (by kernel_rfl) ?_ (by assumption) ?_
        rotate_left
        · intro wS hS; (try dsimp only at hS); go_simp <;> with_reducible rfl
        try simp only [Act.put, List.setIfInBounds_toArray, List.set_cons_zero, List.set_cons_succ]
        refine held_take 12 (some 30) ?_ rfl rfl (by kernel_rfl) (fun _ _ _ h => h) (by kernel_rfl) ?_ (by assumption) ?_
        rotate_left
        · intro wS hS; (try dsimp only at hS); go_simp <;> with_reducible rfl
        try simp only [Act.put, List.setIfInBounds_toArray, List.set_cons_zero, List.set_cons_succ]
        refine held_take 13 (some 31) ?_ rfl rfl (by kernel_rfl) (fun _ _ _ h => h) (by kernel_rfl) ?_ (by assumption) ?_
        rotate_left
        · intro wS hS; (try dsimp only at hS); go_simp <;> with_reducible rfl
        try simp only [Act.put, List.setIfInBounds_toArray, List.set_cons_zero, List.set_cons_succ]
        refine held_take 14 (some 32) ?_ rfl rfl (by kernel_rfl) (fun _ _ _ h => h) (by kernel_rfl) ?_ (by assumption) ?_
        rotate_left
        · intro wS hS; (try dsimp only at hS); go_simp <;> with_reducible rfl
        try simp only [Act.put, List.setIfInBounds_toArray, List.set_cons_zero, List.set_cons_succ]
        refine held_take 15 (some 33) ?_ rfl rfl (by kernel_rfl) (fun _ _ _ h => h) (by kernel_rfl) ?_ (by assumption) ?_
        rotate_left
        · intro wS hS; (try dsimp only at hS); go_simp <;> with_reducible rfl
        try simp only [Act.put, List.setIfInBounds_toArray, List.set_cons_zero, List.set_cons_succ]
        refine held_take 16 (some 34) ?_ rfl rfl (by kernel_rfl) (fun _ _ _ h => h) (by kernel_rfl) ?_ (by assumption) ?_
        rotate_left
        · intro wS hS; (try dsimp only at hS); go_simp <;> with_reducible rfl
        try simp only [Act.put, List.setIfInBounds_toArray, List.set_cons_zero, List.set_cons_succ]
        refine held_take 18 (some 36) ?_ rfl rfl (by kernel_rfl) (fun _ _ _ h => h) (by kernel_rfl) ?_ (by assumption) ?_
        rotate_left
        · intro wS hS; (try dsimp only at hS); go_simp <;> with_reducible rfl
        try simp only [Act.put, List.setIfInBounds_toArray, List.set_cons_zero, List.set_cons_succ]
        refine held_take 19 (some 37) ?_ rfl rfl (by kernel_rfl) (fun _ _ _ h => h) (by kernel_rfl) ?_ (by assumption) ?_
        rotate_left
        · intro wS hS; (try dsimp only at hS); go_simp <;> with_reducible rfl
        try simp only [Act.put, List.setIfInBounds_toArray, List.set_cons_zero, List.set_cons_succ]
        refine held_call 5 (some 23) 46 [.tmp 22] #[24] rfl rfl (by kernel_rfl) (by kernel_rfl) rfl (enters_of Try.func46 (by kernel_rfl) rfl) (HA1.out _) (by kernel_rfl) ?_
        rintro e wq ⟨rfl, hq⟩
        have HY := Lib.hid (HY.out.trans (hq.mono HY.out.size)); clear hq
        refine ⟨_, rfl, (HK.out _ HY.out), ?_⟩
        have hHeld := (HK.out _ HY.out)
        try simp only [Act.put, List.setIfInBounds_toArray, List.set_cons_zero, List.set_cons_succ]
        refine held_call 17 (some 35) 46 [.tmp 34] #[24] rfl rfl (by kernel_rfl) (by kernel_rfl) rfl (enters_of Try.func46 (by kernel_rfl) rfl) (HA2.out _) (by kernel_rfl) ?_
        rintro e wq ⟨rfl, hq⟩
        have HY := Lib.hid (HY.out.trans (hq.mono HY.out.size)); clear hq
        refine ⟨_, rfl, (HK.out _ HY.out), ?_⟩
        have hHeld := (HK.out _ HY.out)
        try simp only [Act.put, List.setIfInBounds_toArray, List.set_cons_zero, List.set_cons_succ]
        by_cases h0 : NearP d.x d.y e.x e.y x y z
        case pos =>
          refine held_call 20 (some 38) 38 [.tmp 23, .tmp 35, .tmp 36, .tmp 37] #[29, 29, 29, 3] rfl rfl (by kernel_rfl) (by kernel_rfl) rfl (enters_of Try.func38 (by kernel_rfl) rfl) (rnear_yes _ _ _ _ _ _ _ _ h0) (by kernel_rfl) ?_
          rintro e wq ⟨rfl, hq⟩
          have HY := Lib.hid (HY.out.trans (hq.mono HY.out.size)); clear hq
          refine ⟨_, rfl, (HK.out _ HY.out), ?_⟩
          have hHeld := (HK.out _ HY.out)
          try simp only [Act.put, List.setIfInBounds_toArray, List.set_cons_zero, List.set_cons_succ]
          refine wpAnyH_done (by kernel_rfl) ?_ _
          have HR := Lib.hid (HSP.out true ⟨fun _ => ⟨i, HLT.out, HNA.out.2 h0⟩, fun _ => rfl⟩)
          go_wp2_with fail
          go_ret
          exact ⟨by rw [HR.out]; rfl, HB_2.out.trans (HY.out.mono HB_2.out.size)⟩
        case neg =>
          refine held_call 20 (some 38) 38 [.tmp 23, .tmp 35, .tmp 36, .tmp 37] #[29, 29, 29, 3] rfl rfl (by kernel_rfl) (by kernel_rfl) rfl (enters_of Try.func38 (by kernel_rfl) rfl) (rnear_not _ _ _ _ _ _ _ _ h0) (by kernel_rfl) ?_
          rintro e wq ⟨rfl, hq⟩
          have HY := Lib.hid (HY.out.trans (hq.mono HY.out.size)); clear hq
          refine ⟨_, rfl, (HK.out _ HY.out), ?_⟩
          have hHeld := (HK.out _ HY.out)
          try simp only [Act.put, List.setIfInBounds_toArray, List.set_cons_zero, List.set_cons_succ]
          refine wpAnyH_done (by kernel_rfl) ?_ _
          have HNN : Hid (¬ NearSeg ds x y z i) := Lib.hid (fun h => h0 (HNA.out.1 h))
          have q8 : (i : Int) + 1 ≤ 9223372036854775807 := by have := HLN.out; have := HLT.out; omega
          go_wp2_with fail
          go_roundw
          case rel => exact ⟨i + 1, by go_num, by have := HLT.out; omega, fun j h1 => by
            by_cases hj : j = i
            · rw [hj]; exact HNN.out
            · exact HOK.out j (by omega), HBR.out.trans (HY.out.mono HBR.out.size)⟩
          case measure => have := HLT.out; simp [intOf]; omega
end Go.Proofs.Ytamogfcedkjmcaa
