
/- The contract of saysEnough. Conditions: at least two dots, on the board; a tolerance. -/
import Derived.Test.YtamogfcedkjmcaaNe5
import Derived.Test.YtamogfcedkjmcaaBt5
namespace Go.Proofs.Ytamogfcedkjmcaa
open Go.RowKit Go.Lib Go.Shelf

set_option maxRecDepth 100000 in
set_option maxHeartbeats 8000000 in
theorem psays_any (ds : List Dt) (A : Option Addr) (c : Nat) (z : Int) (w : World) (hA : Dz w A ds) (hl : 2 ≤ ds.length ∧ ds.length ≤ 200) (hc : ds.length ≤ c) (hon : ∀ d ∈ ds, OnP d.x d.y) (hz : 0 ≤ z ∧ z ≤ 1000) :
    Calls Try.prog 65 #[.slice A ds.length c, .int .i64 z] w fun e w' => e = .returned (.bool (decide (BetwP ds z 0 (ds.length - 1)))) ∧ Below w.heap.size w w' := by
  obtain ⟨b, o, rfl⟩ := hA.some (by omega)
  have HAT := Lib.hid hA.at
  obtain ⟨f, hf⟩ : ∃ f, f = ds[0]'(by omega) := ⟨_, rfl⟩
  obtain ⟨l, hll⟩ : ∃ l, l = ds[ds.length - 1]'(by omega) := ⟨_, rfl⟩
  have HF : Hid (∀ W, Below w.heap.size w W → W.cell? ⟨b, o, none⟩ = some (.int .i64 f.x) ∧ W.cell? ⟨b, o + 1, none⟩ = some (.int .i64 f.y) ∧ W.cell? ⟨b, o + 2, none⟩ = some (.int .i64 f.t) ∧ W.cell? ⟨b, o + 3, none⟩ = some (.int .i64 f.p)) := Lib.hid (fun W hb => by
    have h9 := HAT.out W hb 0 (by omega)
    rw [← hf] at h9
    simpa using h9)
  have HLS : Hid (∀ W, Below w.heap.size w W → W.cell? ⟨b, o + (ds.length - 1) * 4, none⟩ = some (.int .i64 l.x) ∧ W.cell? ⟨b, o + (ds.length - 1) * 4 + 1, none⟩ = some (.int .i64 l.y) ∧ W.cell? ⟨b, o + (ds.length - 1) * 4 + 2, none⟩ = some (.int .i64 l.t) ∧ W.cell? ⟨b, o + (ds.length - 1) * 4 + 3, none⟩ = some (.int .i64 l.p)) := Lib.hid (fun W hb => by
    have h9 := HAT.out W hb (ds.length - 1) (by omega)
    rw [← hll] at h9
    exact h9)
  have HON := Lib.hid hon; have HZ := Lib.hid hz; have HL := Lib.hid hl
  have HFO : Hid (OnP f.x f.y ∧ OnP l.x l.y) := Lib.hid ⟨by rw [hf]; exact hon _ (List.getElem_mem _), by rw [hll]; exact hon _ (List.getElem_mem _)⟩
  have HP1 := Lib.hid (fun W => pplace_any f.x f.y f.t f.p W); have HP2 := Lib.hid (fun W => pplace_any l.x l.y l.t l.p W)
  have HSP : Hid (∀ v, (v = true ↔ ∀ (n : Nat) (d : Dt), 0 < n → n < ds.length - 1 → ds[n]? = some d → NearP f.x f.y l.x l.y d.x d.y z) → decide (BetwP ds z 0 (ds.length - 1)) = v) := Lib.hid (fun v hv => by
    have h9 : BetwP ds z 0 (ds.length - 1) ↔ ∀ (n : Nat) (d : Dt), 0 < n → n < ds.length - 1 → ds[n]? = some d → NearP f.x f.y l.x l.y d.x d.y z := ⟨fun h n d h1 h2 h3 => h n h1 h2 f l d (by rw [hf]; exact List.getElem?_eq_getElem _) (by rw [hll]; exact List.getElem?_eq_getElem _) h3, fun h n h1 h2 a e d ha he hd => by
      rw [List.getElem?_eq_getElem (by omega), Option.some.injEq, ← hf] at ha
      rw [List.getElem?_eq_getElem (by omega), Option.some.injEq, ← hll] at he
      subst ha; subst he
      exact h n d h1 h2 hd⟩
    cases v with
    | true => exact decide_eq_true (h9.2 (hv.1 rfl))
    | false => exact decide_eq_false fun h => by cases hv.2 (h9.1 h))
  have e1 : IntKind.i64.wrap ((ds.length : Int) - 1) = ((ds.length - 1 : Nat) : Int) := by rw [IntWalk.i64_in _ (by omega)]; omega
  have q1 : (1 : Int) ≤ ((ds.length - 1 : Nat) : Int) := by omega
  have q2 : ((ds.length - 1 : Nat) : Int) ≤ (c : Int) := by omega
  have q3 : (0 : Int) ≤ ((ds.length - 1 : Nat) : Int) := by omega
  have hc1 : ¬ c = 1 := by omega
  have HCC := Lib.hid hc
  clear hA hl hc hon hz hf hll
  go_enter Try.func65, Try.ntmps65
  go_wp2_with fail
  clear e1 q1 q2 hc1
  go_loopw [15] (fun ii wr => ∃ j : Nat, ii = .int .i64 j ∧ j ≤ ds.length - 1 - 1 ∧ (∀ (n : Nat) (d : Dt), 0 < n → n < j + 1 → ds[n]? = some d → NearP f.x f.y l.x l.y d.x d.y z) ∧ Below w.heap.size w wr) (fun ii _ => ds.length - 1 - 1 - (intOf ii).toNat)
  case atStart => exact ⟨0, rfl, Nat.zero_le _, fun n d h1 h2 => absurd h2 (by omega), Below.refl _ _⟩
  case round =>
    obtain ⟨j, rfl, hj, hall, hB⟩ := hrel
    have HB_7 := Lib.hid hB; have HALL := Lib.hid hall; clear hB hall
    by_cases hlt : j < ds.length - 1 - 1
    case neg =>
      have HR := Lib.hid (HSP.out true ⟨fun _ n d h1 h2 h3 => HALL.out n d h1 (by omega) h3, fun _ => rfl⟩)
      clear hj q3
      go_wp2_with fail
      go_ret
      exact ⟨by rw [HR.out]; rfl, HB_7.out⟩
    case pos =>
      have hjl : j + 1 < ds.length := by omega
      obtain ⟨d, hd⟩ : ∃ d, d = ds[j + 1] := ⟨_, rfl⟩
      have hk := HAT.out wr HB_7.out (j + 1) hjl
      rw [← hd, show o + (j + 1) * 4 = o + 4 + j * 4 from by omega] at hk
      have HDJ : Hid (ds[j + 1]? = some d) := Lib.hid (by rw [hd]; exact List.getElem?_eq_getElem _)
      have HDO : Hid (OnP d.x d.y) := Lib.hid (by rw [hd]; exact HON.out _ (List.getElem_mem _))
      have HP3 := Lib.hid (fun W => pplace_any d.x d.y d.t d.p W)
      have HLT := Lib.hid hlt
      have r1 : (0 : Int) ≤ (j : Int) := by omega
      have r2 : (j : Int) < ((ds.length - 1 - 1 : Nat) : Int) := by omega
      have r3 : ((ds.length - 1 : Nat) : Int) < (ds.length : Int) := by omega
      have r4 : 0 < ds.length := by omega
      have r5 : (0 : Int) < (ds.length : Int) := by omega
      have r6 : (j : Int) + 1 ≤ 9223372036854775807 := by have := HL.out; omega
      clear hd hjl hlt hj
      obtain ⟨k0, k1, k2, k3⟩ := hk
      have D_8 : Hid (Blk (wr.alloc (.cells #[.int .i64 d.x, .int .i64 d.y, .int .i64 d.t, .int .i64 d.p] 24)) wr.heap.size 24 #[.int .i64 d.x, .int .i64 d.y, .int .i64 d.t, .int .i64 d.p]) := Lib.hid (Blk.new wr _ _); have HB_8 : Hid (Below w.heap.size w (wr.alloc (.cells #[.int .i64 d.x, .int .i64 d.y, .int .i64 d.t, .int .i64 d.p] 24))) := Lib.hid (HB_7.out.alloc HB_7.out.size _)
      clear HB_7
      go_wp2_with fail
      clear k0 k1 k2 k3
      by_cases hn : NearP f.x f.y l.x l.y d.x d.y z
      case pos =>
        have hni := fun W => pisnear_any f.x f.y l.x l.y d.x d.y z W HFO.out.1 HFO.out.2 HDO.out HZ.out; simp only [decide_eq_true hn] at hni; have HNI := Lib.hid hni; have HN := Lib.hid hn; clear hni hn
        refine wp_region_grow (S := (fun w' => w'.cell? ⟨wr.heap.size, 0, none⟩ = some (.int .i64 d.x) ∧ w'.cell? ⟨wr.heap.size, 1, none⟩ = some (.int .i64 d.y) ∧ w'.cell? ⟨wr.heap.size, 2, none⟩ = some (.int .i64 d.t) ∧ w'.cell? ⟨wr.heap.size, 3, none⟩ = some (.int .i64 d.p) ∧ w'.cell? ⟨b, o, none⟩ = some (.int .i64 f.x) ∧ w'.cell? ⟨b, o + 1, none⟩ = some (.int .i64 f.y) ∧ w'.cell? ⟨b, o + 2, none⟩ = some (.int .i64 f.t) ∧ w'.cell? ⟨b, o + 3, none⟩ = some (.int .i64 f.p) ∧ w'.cell? ⟨b, o + (ds.length - 1) * 4, none⟩ = some (.int .i64 l.x) ∧ w'.cell? ⟨b, o + (ds.length - 1) * 4 + 1, none⟩ = some (.int .i64 l.y) ∧ w'.cell? ⟨b, o + (ds.length - 1) * 4 + 2, none⟩ = some (.int .i64 l.t) ∧ w'.cell? ⟨b, o + (ds.length - 1) * 4 + 3, none⟩ = some (.int .i64 l.p))) ((fun w' => Below w.heap.size w w' ∧ Blk w' wr.heap.size 24 #[.int .i64 d.x, .int .i64 d.y, .int .i64 d.t, .int .i64 d.p])) (by kernel_rfl) (⟨fun w2 h2 => ⟨(h2.2.cell (i := 0) rfl), (h2.2.cell (i := 1) rfl), (h2.2.cell (i := 2) rfl), (h2.2.cell (i := 3) rfl), (HF.out w2 h2.1).1, (HF.out w2 h2.1).2.1, (HF.out w2 h2.1).2.2.1, (HF.out w2 h2.1).2.2.2, (HLS.out w2 h2.1).1, (HLS.out w2 h2.1).2.1, (HLS.out w2 h2.1).2.2.1, (HLS.out w2 h2.1).2.2.2⟩, fun w2 w3 h2 hb2 => ⟨h2.1.trans (hb2.mono h2.1.size), h2.2.below hb2 h2.2.lt⟩⟩) (⟨HB_8.out.drew, D_8.out.drew⟩) (fun hCalm => ?_)
        refine grow_take 0 (some 19) ?_ rfl rfl (by kernel_rfl) (fun _ _ _ h => h) (by kernel_rfl) hCalm ?_ ?_
        rotate_left
        · intro wS hS; (try dsimp only at hS); go_simp <;> with_reducible rfl
        try simp only [Act.put, List.setIfInBounds_toArray, List.set_cons_zero, List.set_cons_succ]
        refine grow_take 1 (some 20) ?_ rfl rfl (by kernel_rfl) (fun _ _ _ h => h) (by kernel_rfl) hCalm ?_ ?_
        rotate_left
        · intro wS hS; (try dsimp only at hS); go_simp <;> with_reducible rfl
        try simp only [Act.put, List.setIfInBounds_toArray, List.set_cons_zero, List.set_cons_succ]
        refine grow_take 2 (some 21) ?_ rfl rfl (by kernel_rfl) (fun _ _ _ h => h) (by kernel_rfl) hCalm ?_ ?_
        rotate_left
        · intro wS hS; (try dsimp only at hS); go_simp <;> with_reducible rfl
        try simp only [Act.put, List.setIfInBounds_toArray, List.set_cons_zero, List.set_cons_succ]
        refine grow_call 3 (some 22) (.agg #[.int .i64 f.x, .int .i64 f.y]) 42 [.tmp 21] #[24] rfl rfl (by kernel_rfl) (fun _ _ _ h => h) (by kernel_rfl) hCalm rfl (enters_of Try.func42 (by kernel_rfl) rfl) (fun wz _ => HP1.out wz) (by kernel_rfl) ?_
        try simp only [Act.put, List.setIfInBounds_toArray, List.set_cons_zero, List.set_cons_succ]
        refine grow_take 4 (some 23) ?_ rfl rfl (by kernel_rfl) (fun _ _ _ h => h) (by kernel_rfl) hCalm ?_ ?_
        rotate_left
        · intro wS hS; (try dsimp only at hS); go_simp <;> with_reducible rfl
        try simp only [Act.put, List.setIfInBounds_toArray, List.set_cons_zero, List.set_cons_succ]
        refine grow_take 5 (some 24) ?_ rfl rfl (by kernel_rfl) (fun _ _ _ h => h) (by kernel_rfl) hCalm ?_ ?_
        rotate_left
        · intro wS hS; (try dsimp only at hS); go_simp <;> with_reducible rfl
        try simp only [Act.put, List.setIfInBounds_toArray, List.set_cons_zero, List.set_cons_succ]
        refine grow_take 6 (some 25) ?_ rfl rfl (by kernel_rfl) (fun _ _ _ h => h) (by kernel_rfl) hCalm ?_ ?_
        rotate_left
        · intro wS hS; (try dsimp only at hS); go_simp <;> with_reducible rfl
        try simp only [Act.put, List.setIfInBounds_toArray, List.set_cons_zero, List.set_cons_succ]
        refine grow_take 7 (some 26) ?_ rfl rfl (by kernel_rfl) (fun _ _ _ h => h) (by kernel_rfl) hCalm ?_ ?_
        rotate_left
        · intro wS hS; (try dsimp only at hS); go_simp <;> with_reducible rfl
        try simp only [Act.put, List.setIfInBounds_toArray, List.set_cons_zero, List.set_cons_succ]
        refine grow_call 8 (some 27) (.agg #[.int .i64 l.x, .int .i64 l.y]) 42 [.tmp 26] #[24] rfl rfl (by kernel_rfl) (fun _ _ _ h => h) (by kernel_rfl) hCalm rfl (enters_of Try.func42 (by kernel_rfl) rfl) (fun wz _ => HP2.out wz) (by kernel_rfl) ?_
        try simp only [Act.put, List.setIfInBounds_toArray, List.set_cons_zero, List.set_cons_succ]
        refine grow_take 9 (some 28) ?_ rfl rfl (by kernel_rfl) (fun _ _ _ h => h) (by kernel_rfl) hCalm ?_ ?_
        rotate_left
        · intro wS hS; (try dsimp only at hS); go_simp <;> with_reducible rfl
        try simp only [Act.put, List.setIfInBounds_toArray, List.set_cons_zero, List.set_cons_succ]
        refine grow_call 10 (some 29) (.agg #[.int .i64 d.x, .int .i64 d.y]) 42 [.tmp 28] #[24] rfl rfl (by kernel_rfl) (fun _ _ _ h => h) (by kernel_rfl) hCalm rfl (enters_of Try.func42 (by kernel_rfl) rfl) (fun wz _ => HP3.out wz) (by kernel_rfl) ?_
        try simp only [Act.put, List.setIfInBounds_toArray, List.set_cons_zero, List.set_cons_succ]
        refine grow_take 11 (some 30) ?_ rfl rfl (by kernel_rfl) (fun _ _ _ h => h) (by kernel_rfl) hCalm ?_ ?_
        rotate_left
        · intro wS hS; (try dsimp only at hS); go_simp <;> with_reducible rfl
        try simp only [Act.put, List.setIfInBounds_toArray, List.set_cons_zero, List.set_cons_succ]
        refine grow_call 12 (some 31) (.bool true) 59 [.tmp 22, .tmp 27, .tmp 29, .tmp 30] #[29, 29, 29, 3] rfl rfl (by kernel_rfl) (fun _ _ _ h => h) (by kernel_rfl) hCalm rfl (enters_of Try.func59 (by kernel_rfl) rfl) (fun wz _ => HNI.out wz) (by kernel_rfl) ?_
        try simp only [Act.put, List.setIfInBounds_toArray, List.set_cons_zero, List.set_cons_succ]
        refine grow_take 13 (some 32) ?_ rfl rfl (by kernel_rfl) (fun _ _ _ h => h) (by kernel_rfl) hCalm ?_ ?_
        rotate_left
        · intro wS hS; (try dsimp only at hS); go_simp <;> with_reducible rfl
        try simp only [Act.put, List.setIfInBounds_toArray, List.set_cons_zero, List.set_cons_succ]
        refine grow_done (by kernel_rfl) (fun wA hA => ?_) _
        go_wp2_with fail
        go_roundw
        case rel => exact ⟨j + 1, by go_num, by have := HLT.out; omega, fun n e h1 h2 h3 => by
          by_cases hnj : n = j + 1
          · rw [hnj, HDJ.out, Option.some.injEq] at h3; rw [← h3]; exact HN.out
          · exact HALL.out n e h1 (by omega) h3, hA.1⟩
        case measure => have := HLT.out; simp [intOf]; omega
      case neg =>
        have hni := fun W => pisnear_any f.x f.y l.x l.y d.x d.y z W HFO.out.1 HFO.out.2 HDO.out HZ.out; simp only [decide_eq_false hn] at hni; have HNI := Lib.hid hni; have HN := Lib.hid hn; clear hni hn
        refine wp_region_grow (S := (fun w' => w'.cell? ⟨wr.heap.size, 0, none⟩ = some (.int .i64 d.x) ∧ w'.cell? ⟨wr.heap.size, 1, none⟩ = some (.int .i64 d.y) ∧ w'.cell? ⟨wr.heap.size, 2, none⟩ = some (.int .i64 d.t) ∧ w'.cell? ⟨wr.heap.size, 3, none⟩ = some (.int .i64 d.p) ∧ w'.cell? ⟨b, o, none⟩ = some (.int .i64 f.x) ∧ w'.cell? ⟨b, o + 1, none⟩ = some (.int .i64 f.y) ∧ w'.cell? ⟨b, o + 2, none⟩ = some (.int .i64 f.t) ∧ w'.cell? ⟨b, o + 3, none⟩ = some (.int .i64 f.p) ∧ w'.cell? ⟨b, o + (ds.length - 1) * 4, none⟩ = some (.int .i64 l.x) ∧ w'.cell? ⟨b, o + (ds.length - 1) * 4 + 1, none⟩ = some (.int .i64 l.y) ∧ w'.cell? ⟨b, o + (ds.length - 1) * 4 + 2, none⟩ = some (.int .i64 l.t) ∧ w'.cell? ⟨b, o + (ds.length - 1) * 4 + 3, none⟩ = some (.int .i64 l.p))) ((fun w' => Below w.heap.size w w' ∧ Blk w' wr.heap.size 24 #[.int .i64 d.x, .int .i64 d.y, .int .i64 d.t, .int .i64 d.p])) (by kernel_rfl) (⟨fun w2 h2 => ⟨(h2.2.cell (i := 0) rfl), (h2.2.cell (i := 1) rfl), (h2.2.cell (i := 2) rfl), (h2.2.cell (i := 3) rfl), (HF.out w2 h2.1).1, (HF.out w2 h2.1).2.1, (HF.out w2 h2.1).2.2.1, (HF.out w2 h2.1).2.2.2, (HLS.out w2 h2.1).1, (HLS.out w2 h2.1).2.1, (HLS.out w2 h2.1).2.2.1, (HLS.out w2 h2.1).2.2.2⟩, fun w2 w3 h2 hb2 => ⟨h2.1.trans (hb2.mono h2.1.size), h2.2.below hb2 h2.2.lt⟩⟩) (⟨HB_8.out.drew, D_8.out.drew⟩) (fun hCalm => ?_)
        refine grow_take 0 (some 19) ?_ rfl rfl (by kernel_rfl) (fun _ _ _ h => h) (by kernel_rfl) hCalm ?_ ?_
        rotate_left
        · intro wS hS; (try dsimp only at hS); go_simp <;> with_reducible rfl
        try simp only [Act.put, List.setIfInBounds_toArray, List.set_cons_zero, List.set_cons_succ]
        refine grow_take 1 (some 20) ?_ rfl rfl (by kernel_rfl) (fun _ _ _ h => h) (by kernel_rfl) hCalm ?_ ?_
        rotate_left
        · intro wS hS; (try dsimp only at hS); go_simp <;> with_reducible rfl
        try simp only [Act.put, List.setIfInBounds_toArray, List.set_cons_zero, List.set_cons_succ]
        refine grow_take 2 (some 21) ?_ rfl rfl (by kernel_rfl) (fun _ _ _ h => h) (by kernel_rfl) hCalm ?_ ?_
        rotate_left
        · intro wS hS; (try dsimp only at hS); go_simp <;> with_reducible rfl
        try simp only [Act.put, List.setIfInBounds_toArray, List.set_cons_zero, List.set_cons_succ]
        refine grow_call 3 (some 22) (.agg #[.int .i64 f.x, .int .i64 f.y]) 42 [.tmp 21] #[24] rfl rfl (by kernel_rfl) (fun _ _ _ h => h) (by kernel_rfl) hCalm rfl (enters_of Try.func42 (by kernel_rfl) rfl) (fun wz _ => HP1.out wz) (by kernel_rfl) ?_
        try simp only [Act.put, List.setIfInBounds_toArray, List.set_cons_zero, List.set_cons_succ]
        refine grow_take 4 (some 23) ?_ rfl rfl (by kernel_rfl) (fun _ _ _ h => h) (by kernel_rfl) hCalm ?_ ?_
        rotate_left
        · intro wS hS; (try dsimp only at hS); go_simp <;> with_reducible rfl
        try simp only [Act.put, List.setIfInBounds_toArray, List.set_cons_zero, List.set_cons_succ]
        refine grow_take 5 (some 24) ?_ rfl rfl (by kernel_rfl) (fun _ _ _ h => h) (by kernel_rfl) hCalm ?_ ?_
        rotate_left
        · intro wS hS; (try dsimp only at hS); go_simp <;> with_reducible rfl
        try simp only [Act.put, List.setIfInBounds_toArray, List.set_cons_zero, List.set_cons_succ]
        refine grow_take 6 (some 25) ?_ rfl rfl (by kernel_rfl) (fun _ _ _ h => h) (by kernel_rfl) hCalm ?_ ?_
        rotate_left
        · intro wS hS; (try dsimp only at hS); go_simp <;> with_reducible rfl
        try simp only [Act.put, List.setIfInBounds_toArray, List.set_cons_zero, List.set_cons_succ]
        refine grow_take 7 (some 26) ?_ rfl rfl (by kernel_rfl) (fun _ _ _ h => h) (by kernel_rfl) hCalm ?_ ?_
        rotate_left
        · intro wS hS; (try dsimp only at hS); go_simp <;> with_reducible rfl
        try simp only [Act.put, List.setIfInBounds_toArray, List.set_cons_zero, List.set_cons_succ]
        refine grow_call 8 (some 27) (.agg #[.int .i64 l.x, .int .i64 l.y]) 42 [.tmp 26] #[24] rfl rfl (by kernel_rfl) (fun _ _ _ h => h) (by kernel_rfl) hCalm rfl (enters_of Try.func42 (by kernel_rfl) rfl) (fun wz _ => HP2.out wz) (by kernel_rfl) ?_
        try simp only [Act.put, List.setIfInBounds_toArray, List.set_cons_zero, List.set_cons_succ]
        refine grow_take 9 (some 28) ?_ rfl rfl (by kernel_rfl) (fun _ _ _ h => h) (by kernel_rfl) hCalm ?_ ?_
        rotate_left
        · intro wS hS; (try dsimp only at hS); go_simp <;> with_reducible rfl
        try simp only [Act.put, List.setIfInBounds_toArray, List.set_cons_zero, List.set_cons_succ]
        refine grow_call 10 (some 29) (.agg #[.int .i64 d.x, .int .i64 d.y]) 42 [.tmp 28] #[24] rfl rfl (by kernel_rfl) (fun _ _ _ h => h) (by kernel_rfl) hCalm rfl (enters_of Try.func42 (by kernel_rfl) rfl) (fun wz _ => HP3.out wz) (by kernel_rfl) ?_
        try simp only [Act.put, List.setIfInBounds_toArray, List.set_cons_zero, List.set_cons_succ]
        refine grow_take 11 (some 30) ?_ rfl rfl (by kernel_rfl) (fun _ _ _ h => h) (by kernel_rfl) hCalm ?_ ?_
        rotate_left
        · intro wS hS; (try dsimp only at hS); go_simp <;> with_reducible rfl
        try simp only [Act.put, List.setIfInBounds_toArray, List.set_cons_zero, List.set_cons_succ]
        refine grow_call 12 (some 31) (.bool false) 59 [.tmp 22, .tmp 27, .tmp 29, .tmp 30] #[29, 29, 29, 3] rfl rfl (by kernel_rfl) (fun _ _ _ h => h) (by kernel_rfl) hCalm rfl (enters_of Try.func59 (by kernel_rfl) rfl) (fun wz _ => HNI.out wz) (by kernel_rfl) ?_
        try simp only [Act.put, List.setIfInBounds_toArray, List.set_cons_zero, List.set_cons_succ]
        refine grow_take 13 (some 32) ?_ rfl rfl (by kernel_rfl) (fun _ _ _ h => h) (by kernel_rfl) hCalm ?_ ?_
        rotate_left
        · intro wS hS; (try dsimp only at hS); go_simp <;> with_reducible rfl
        try simp only [Act.put, List.setIfInBounds_toArray, List.set_cons_zero, List.set_cons_succ]
        refine grow_done (by kernel_rfl) (fun wA hA => ?_) _
        have HR := Lib.hid (HSP.out false ⟨fun h => (by cases h), fun h => absurd (h (j + 1) d (by omega) (by have := HLT.out; omega) HDJ.out) HN.out⟩)
        go_wp2_with fail
        go_ret
        exact ⟨by rw [HR.out]; rfl, hA.1⟩
end Go.Proofs.Ytamogfcedkjmcaa
