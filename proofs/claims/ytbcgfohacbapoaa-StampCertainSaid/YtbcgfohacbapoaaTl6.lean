
/- The contract of the statement StampTight: it answers true. Conditions: ints; the rows read. -/
import Derived.Test.YtbcgfohacbapoaaSn6
import Derived.Test.YtbcgfohacbapoaaPos6
namespace Go.Proofs.Ytbcgfohacbapoaa
open Go.RowKit Go.Lib

theorem lposs_yes {l : List Sk} {ms : List Mt} {A B : Option Addr} {c d : Nat} {p : Nat} {V : Int} {w : World} (hA : Kz w A l) (hB : Mz w B ms) (hm : MtOk l ms) (hs : SkOk l) (hp : p < 40) (hV : -1000000 ≤ V ∧ V ≤ 1000000) (h : ∃ A, Poss l ms A ∧ A (p : Int) = V) :
    Calls Try.prog 63 #[.slice A l.length c, .slice B ms.length d, .int .i64 (p : Nat), .int .i64 V] w fun e w' => e = .returned (.bool true) ∧ Below w.heap.size w w' := by
  refine (lpossible_any l ms A B c d p V w hA hB hm hs hp hV).mono ?_
  rintro e w' ⟨⟨r, rfl, hr⟩, hb⟩
  obtain ⟨A, h1, h2⟩ := h
  rw [hr.of h1 h2]
  exact ⟨rfl, hb⟩
theorem lposs_no {l : List Sk} {ms : List Mt} {A B : Option Addr} {c d : Nat} {p : Nat} {V : Int} {w : World} (hA : Kz w A l) (hB : Mz w B ms) (hm : MtOk l ms) (hs : SkOk l) (hp : p < 40) (hV : -1000000 ≤ V ∧ V ≤ 1000000) (hf : Feas l ms) (h : ¬ ∃ A, Poss l ms A ∧ A (p : Int) = V) :
    Calls Try.prog 63 #[.slice A l.length c, .slice B ms.length d, .int .i64 (p : Nat), .int .i64 V] w fun e w' => e = .returned (.bool false) ∧ Below w.heap.size w w' := by
  refine (lpossible_any l ms A B c d p V w hA hB hm hs hp hV).mono ?_
  rintro e w' ⟨⟨r, rfl, hr⟩, hb⟩
  cases r
  · exact ⟨rfl, hb⟩
  · exact absurd ((hr.iff hf).1 rfl) h
theorem IsTt.pers {l : List Sk} {ms : List Mt} {out : List Sk} (h : IsTt l ms out) (hc : IsClk l) {k : Nat} (hk : k < out.length) : out[k].p = (k : Int) := by
  have hkl : k < l.length := by rw [← h.len]; exact hk
  have h1 := congrArg (fun l => l[k]?) h.1
  simp only [List.getElem?_map, List.getElem?_eq_getElem hk, List.getElem?_eq_getElem hkl, Option.map_some, Option.some.injEq] at h1
  rw [h1]; exact (hc.2 k hkl).1
/-- What Tight says lies within what was. -/
theorem IsTt.in_ {l : List Sk} {ms : List Mt} {out : List Sk} (h : IsTt l ms out) (hc : IsClk l) {k : Nat} (hk : k < out.length) (hkl : k < l.length) : l[k].lo ≤ out[k].lo ∧ out[k].hi ≤ l[k].hi ∧ out[k].lo ≤ out[k].hi := by
  obtain ⟨L, hL, eL⟩ := h.2.1
  obtain ⟨H, hH, eH⟩ := h.2.2.1
  have hm := List.getElem_mem hk
  have e1 := eL _ hm; have e2 := eH _ hm; have hp := h.pers hc hk; have hp2 := (hc.2 k hkl).1
  have h1 := hL.1 _ (List.getElem_mem hkl); have h2 := hH.1 _ (List.getElem_mem hkl); have h3 := h.2.2.2 L hL _ hm
  rw [hp2] at h1 h2; rw [hp] at e1 e2 h3
  omega
/-- Every advance between the bounds is possible, and no other. -/
theorem IsTt.iff {l : List Sk} {ms : List Mt} {out : List Sk} (h : IsTt l ms out) (hc : IsClk l) {k : Nat} (hk : k < out.length) (V : Int) : (∃ A, Poss l ms A ∧ A (k : Int) = V) ↔ out[k].lo ≤ V ∧ V ≤ out[k].hi := by
  have hm := List.getElem_mem hk
  have hp := h.pers hc hk
  constructor
  · rintro ⟨A, h1, h2⟩
    have := h.2.2.2 A h1 _ hm
    rw [hp, h2] at this; exact this
  · rintro ⟨h1, h2⟩
    obtain ⟨L, hL, eL⟩ := h.2.1
    obtain ⟨H, hH, eH⟩ := h.2.2.1
    have e1 := eL _ hm; have e2 := eH _ hm
    rw [hp] at e1 e2
    have hle : ∀ s ∈ l, L s.p ≤ H s.p := fun s hs => by
      have hq : s.p ∈ out.map (·.p) := by rw [h.1]; exact List.mem_map.2 ⟨s, hs, rfl⟩
      obtain ⟨t, ht, hst⟩ := List.mem_map.1 hq
      have h3 := h.2.2.2 H hH t ht; have h4 := eL t ht
      rw [hst] at h3 h4; omega
    refine ⟨_, Poss.min hL hH (c := V - out[k].lo) (by omega) hle, ?_⟩
    omega
set_option maxRecDepth 100000 in
set_option maxHeartbeats 16000000 in
theorem tight_law (A : Option Addr) (n c : Nat) (B : Option Addr) (m d : Nat) (which : Int) (w : World) (hA : Xz 2 w A n) (hz : n ≤ 9223372036854775807) (hB : Xz 3 w B m) (hy : m ≤ 9223372036854775807) (h1 : -9223372036854775808 ≤ which ∧ which ≤ 9223372036854775807) :
    Calls Try.prog 7 #[.slice A n c, .slice B m d, .int .i64 which] w fun e w' => e = .returned (.bool true) ∧ Below w.heap.size w w' := by
  have HCK := Lib.hid (fun W (hb : Below w.heap.size w W) => rclocks_any A n c W (hA.below hb (Nat.le_refl _)) hz)
  have HMK := Lib.hid (fun W (hb : Below w.heap.size w W) l A2 c2 hc hk => rmeets_any l A2 c2 B m d W hc hk (hB.below hb (Nat.le_refl _)) hy)
  have HW := Lib.hid h1
  clear hA hz hB hy h1
  have HB_0 : Hid (Below w.heap.size w w) := Below.refl _ _
  go_enter Try.func7, Try.ntmps7
  go_wp2_with fail
  refine (sane6_any _).mono ?_
  rintro e v0 ⟨rfl, hb⟩
  have HB_1 : Hid (Below w.heap.size w v0) := Lib.hid (HB_0.out.trans (hb.mono HB_0.out.size))
  clear hb HB_0
  go_wp2_with fail
  refine (HCK.out _ HB_1.out).mono ?_
  rintro e v1 ⟨⟨l, A2, c2, rfl, hck, hkz, -, -, -, -⟩, hb⟩
  have HC := Lib.hid hck; clear hck
  have FK_1 := Lib.hid hkz
  have FK_2 : Hid (Kz v1 A2 l) := Lib.hid FK_1.out
  clear FK_1
  have HB_2 : Hid (Below w.heap.size w v1) := Lib.hid (HB_1.out.trans (hb.mono HB_1.out.size))
  clear hb HB_1
  go_wp2_with fail
  refine (HMK.out _ HB_2.out l A2 c2 HC.out FK_2.out).mono ?_
  rintro e v2 ⟨⟨ms, B2, d2, rfl, hms, hmz, hmd, -, -⟩, hb⟩
  have HM := Lib.hid hms; have HMD := Lib.hid hmd; clear hms hmd
  have FM_2 := Lib.hid hmz
  have FK_3 : Hid (Kz v2 A2 l) := Lib.hid (FK_2.out.below hb (Nat.le_refl _))
  have FM_3 : Hid (Mz v2 B2 ms) := Lib.hid FM_2.out
  clear FK_2 FM_2
  have HB_3 : Hid (Below w.heap.size w v2) := Lib.hid (HB_2.out.trans (hb.mono HB_2.out.size))
  clear hb HB_2
  by_cases hf : Feas l ms
  case neg =>
    have HT := Lib.hid (ptight_bad l ms A2 B2 c2 d2 _ FK_3.out (by have := HC.out.1; omega) FM_3.out (by have := HM.out.1; omega) HMD.out ⟨HC.out.ok, HM.out.ok⟩ hf); clear hf
    go_wp2_with fail
    refine (HT.out).mono ?_
    rintro e v3 ⟨⟨k, -, rfl, -, -⟩, hb⟩
    clear HT
    have FK_4 : Hid (Kz v3 A2 l) := Lib.hid (FK_3.out.below hb (Nat.le_refl _))
    have FM_4 : Hid (Mz v3 B2 ms) := Lib.hid (FM_3.out.below hb (Nat.le_refl _))
    clear FK_3 FM_3
    have HB_4 : Hid (Below w.heap.size w v3) := Lib.hid (HB_3.out.trans (hb.mono HB_3.out.size))
    clear hb HB_3
    have q0 : (0 : Int) ≤ (k : Int) := by omega
    have hundef := un_none
    go_wp2_with fail
    go_ret
    exact ⟨rfl, HB_4.out⟩
  case pos =>
    have HT := Lib.hid (ptight_ok l ms A2 B2 c2 d2 _ FK_3.out (by have := HC.out.1; omega) FM_3.out (by have := HM.out.1; omega) ⟨HC.out.ok, HM.out.ok⟩ hf); have HFE := Lib.hid hf; clear hf
    go_wp2_with fail
    refine (HT.out).mono ?_
    rintro e v3 ⟨⟨out, g, rfl, htt, hkz⟩, hb⟩
    have HTT := Lib.hid htt; clear htt HT
    have FT_3 := Lib.hid hkz
    have FK_4 : Hid (Kz v3 A2 l) := Lib.hid (FK_3.out.below hb (Nat.le_refl _))
    have FM_4 : Hid (Mz v3 B2 ms) := Lib.hid (FM_3.out.below hb (Nat.le_refl _))
    have FT_4 : Hid (Kz v3 (some ⟨g, 0, none⟩) out) := Lib.hid FT_3.out
    clear FK_3 FM_3 FT_3
    have HB_4 : Hid (Below w.heap.size w v3) := Lib.hid (HB_3.out.trans (hb.mono HB_3.out.size))
    clear hb HB_3
    have HOL := Lib.hid HTT.out.len
    obtain ⟨nl, hnl⟩ : ∃ n, n = l.length := ⟨_, rfl⟩
    have HNL := Lib.hid hnl
    rw [show out.length = nl from by rw [HOL.out, hnl], ← hnl]
    clear hnl
    by_cases h0 : nl = 0
    case pos =>
      subst h0
      go_wp2_with fail
      go_ret
      exact ⟨rfl, HB_4.out⟩
    case neg =>
      have d1 : ((nl : Int) == 0) = false := by rw [beq_eq_false_iff_ne]; omega
      have d2 : (nl == 0) = false := by rw [beq_eq_false_iff_ne]; exact h0
      have HN0 : Hid (0 < nl ∧ nl ≤ 6) := Lib.hid (by have := HC.out.1; have := HNL.out; omega)
      have hA2 : ∃ b o, A2 = some ⟨b, o, none⟩ := Rz.some FK_4.out (by have := HN0.out; have := HNL.out; omega)
      obtain ⟨b, o, rfl⟩ := hA2
      clear h0
      go_wp2_with fail
      clear d1 d2
      go_loopw [12] (fun ii wr => ∃ i : Nat, ii = .int .i64 i ∧ i ≤ nl ∧ Below v3.heap.size v3 wr) (fun ii _ => nl - (intOf ii).toNat)
      case atStart => exact ⟨0, rfl, Nat.zero_le _, Below.refl _ _⟩
      case round =>
        obtain ⟨i, rfl, hi, hB⟩ := hrel
        have HBR := Lib.hid hB; clear hB
        have FKR := Lib.hid (FK_4.out.below HBR.out (Nat.le_refl _)); have FMR := Lib.hid (FM_4.out.below HBR.out (Nat.le_refl _)); have FTR := Lib.hid (FT_4.out.below HBR.out (Nat.le_refl _)); have HBW := Lib.hid (HB_4.out.trans (HBR.out.mono HB_4.out.size))
        by_cases hlt : i < nl
        case pos =>
          have hio : i < out.length := by have := HOL.out; have := HNL.out; omega
          have hil : i < l.length := by have := HNL.out; omega
          have HX := Lib.hid (fun W (hb : Below wr.heap.size wr W) => by have h := Kz.cell FTR.out hb (Nat.le_refl _) hio; rw [Nat.zero_add] at h; exact h); have HY := Lib.hid (fun W (hb : Below wr.heap.size wr W) => Kz.cell FKR.out hb (Nat.le_refl _) hil)
          have hp1 := HTT.out.pers HC.out hio; have hp2 := (HC.out.2 i hil).1; have hin := HTT.out.in_ HC.out hio hil
          obtain ⟨x, hx⟩ : ∃ x, x = out[i] := ⟨_, rfl⟩
          obtain ⟨y, hy⟩ : ∃ y, y = l[i] := ⟨_, rfl⟩
          rw [← hx] at HX hp1 hin; rw [← hy] at HY hp2 hin
          obtain ⟨xp, xlo, xhi⟩ := x
          obtain ⟨yp, ylo, yhi⟩ := y
          dsimp only at HX HY hp1 hp2 hin
          subst hp1; subst hp2
          have t1 : decide (xlo < ylo) = false := decide_eq_false (by omega)
          have q1 : (0 : Int) ≤ (i : Int) := by omega
          have q2 : (i : Int) < (nl : Int) := by omega
          have q5 : (i : Int) + 1 ≤ 9223372036854775807 := by have := HN0.out; omega
          have HI := Lib.hid hlt
          have HIN := Lib.hid hin
          clear hx hy hlt hi hio hil hin
          have hundef := un_none
          go_wp2_with fail
          refine wp_region_grow (S := (fun w' => w'.cell? ⟨g, i * 3, none⟩ = some (.int .i64 (i : Nat)) ∧ w'.cell? ⟨g, i * 3 + 1, none⟩ = some (.int .i64 xlo) ∧ w'.cell? ⟨g, i * 3 + 2, none⟩ = some (.int .i64 xhi) ∧ w'.cell? ⟨b, o + i * 3, none⟩ = some (.int .i64 (i : Nat)) ∧ w'.cell? ⟨b, o + i * 3 + 1, none⟩ = some (.int .i64 ylo) ∧ w'.cell? ⟨b, o + i * 3 + 2, none⟩ = some (.int .i64 yhi))) ((fun w' => Below wr.heap.size wr w')) (by kernel_rfl) (⟨fun w2 h2 => ⟨(HX.out _ h2).1, (HX.out _ h2).2.1, (HX.out _ h2).2.2, (HY.out _ h2).1, (HY.out _ h2).2.1, (HY.out _ h2).2.2⟩, fun w2 w3 h2 hb2 => h2.trans (hb2.mono h2.size)⟩) ((Below.refl wr.heap.size wr).drew) (fun hCalm => ?_)
          refine grow_take 0 (some 56) ?_ rfl rfl (by kernel_rfl) (fun _ _ _ h => h) (by kernel_rfl) hCalm ?_ ?_
          rotate_left
          · intro wS hS; (try dsimp only at hS); go_simp <;> with_reducible rfl
          try simp only [Act.put, List.setIfInBounds_toArray, List.set_cons_zero, List.set_cons_succ]
          refine grow_take 1 (some 57) ?_ rfl rfl (by kernel_rfl) (fun _ _ _ h => h) (by kernel_rfl) hCalm ?_ ?_
          rotate_left
          · intro wS hS; (try dsimp only at hS); go_simp <;> with_reducible rfl
          try simp only [Act.put, List.setIfInBounds_toArray, List.set_cons_zero, List.set_cons_succ]
          refine grow_take 2 (some 58) ?_ rfl rfl (by kernel_rfl) (fun _ _ _ h => h) (by kernel_rfl) hCalm ?_ ?_
          rotate_left
          · intro wS hS; (try dsimp only at hS); go_simp <;> with_reducible rfl
          try simp only [Act.put, List.setIfInBounds_toArray, List.set_cons_zero, List.set_cons_succ]
          refine grow_take 3 (some 59) ?_ rfl rfl (by kernel_rfl) (fun _ _ _ h => h) (by kernel_rfl) hCalm ?_ ?_
          rotate_left
          · intro wS hS; (try dsimp only at hS); go_simp <;> with_reducible rfl
          try simp only [Act.put, List.setIfInBounds_toArray, List.set_cons_zero, List.set_cons_succ]
          refine grow_take 4 (some 60) ?_ rfl rfl (by kernel_rfl) (fun _ _ _ h => h) (by kernel_rfl) hCalm ?_ ?_
          rotate_left
          · intro wS hS; (try dsimp only at hS); go_simp <;> with_reducible rfl
          try simp only [Act.put, List.setIfInBounds_toArray, List.set_cons_zero, List.set_cons_succ]
          refine grow_take 5 (some 61) ?_ rfl rfl (by kernel_rfl) (fun _ _ _ h => h) (by kernel_rfl) hCalm ?_ ?_
          rotate_left
          · intro wS hS; (try dsimp only at hS); go_simp <;> with_reducible rfl
          try simp only [Act.put, List.setIfInBounds_toArray, List.set_cons_zero, List.set_cons_succ]
          refine grow_take 6 (some 62) ?_ rfl rfl (by kernel_rfl) (fun _ _ _ h => h) (by kernel_rfl) hCalm ?_ ?_
          rotate_left
          · intro wS hS; (try dsimp only at hS); go_simp <;> with_reducible rfl
          try simp only [Act.put, List.setIfInBounds_toArray, List.set_cons_zero, List.set_cons_succ]
          refine grow_take 7 (some 63) ?_ rfl rfl (by kernel_rfl) (fun _ _ _ h => h) (by kernel_rfl) hCalm ?_ ?_
          rotate_left
          · intro wS hS; (try dsimp only at hS); go_simp <;> with_reducible rfl
          try simp only [Act.put, List.setIfInBounds_toArray, List.set_cons_zero, List.set_cons_succ]
          refine grow_take 8 (some 64) ?_ rfl rfl (by kernel_rfl) (fun _ _ _ h => h) (by kernel_rfl) hCalm ?_ ?_
          rotate_left
          · intro wS hS; (try dsimp only at hS); go_simp <;> with_reducible rfl
          try simp only [Act.put, List.setIfInBounds_toArray, List.set_cons_zero, List.set_cons_succ]
          refine grow_take 9 (some 65) ?_ rfl rfl (by kernel_rfl) (fun _ _ _ h => h) (by kernel_rfl) hCalm ?_ ?_
          rotate_left
          · intro wS hS; (try dsimp only at hS); go_simp <;> with_reducible rfl
          try simp only [Act.put, List.setIfInBounds_toArray, List.set_cons_zero, List.set_cons_succ]
          refine grow_take 10 (some 66) (.bool false) rfl rfl (by kernel_rfl) (fun _ _ _ h => h) (by kernel_rfl) hCalm ?_ ?_
          · intro wS hS; (try dsimp only at hS); go_simp
          try simp only [Act.put, List.setIfInBounds_toArray, List.set_cons_zero, List.set_cons_succ]
          refine grow_take 11 (some 67) ?_ rfl rfl (by kernel_rfl) (fun _ _ _ h => h) (by kernel_rfl) hCalm ?_ ?_
          rotate_left
          · intro wS hS; (try dsimp only at hS); go_simp <;> with_reducible rfl
          try simp only [Act.put, List.setIfInBounds_toArray, List.set_cons_zero, List.set_cons_succ]
          refine grow_take 12 (some 68) ?_ rfl rfl (by kernel_rfl) (fun _ _ _ h => h) (by kernel_rfl) hCalm ?_ ?_
          rotate_left
          · intro wS hS; (try dsimp only at hS); go_simp <;> with_reducible rfl
          try simp only [Act.put, List.setIfInBounds_toArray, List.set_cons_zero, List.set_cons_succ]
          refine grow_take 13 (some 69) ?_ rfl rfl (by kernel_rfl) (fun _ _ _ h => h) (by kernel_rfl) hCalm ?_ ?_
          rotate_left
          · intro wS hS; (try dsimp only at hS); go_simp <;> with_reducible rfl
          try simp only [Act.put, List.setIfInBounds_toArray, List.set_cons_zero, List.set_cons_succ]
          refine grow_take 14 (some 70) ?_ rfl rfl (by kernel_rfl) (fun _ _ _ h => h) (by kernel_rfl) hCalm ?_ ?_
          rotate_left
          · intro wS hS; (try dsimp only at hS); go_simp <;> with_reducible rfl
          try simp only [Act.put, List.setIfInBounds_toArray, List.set_cons_zero, List.set_cons_succ]
          refine grow_take 15 (some 71) ?_ rfl rfl (by kernel_rfl) (fun _ _ _ h => h) (by kernel_rfl) hCalm ?_ ?_
          rotate_left
          · intro wS hS; (try dsimp only at hS); go_simp <;> with_reducible rfl
          try simp only [Act.put, List.setIfInBounds_toArray, List.set_cons_zero, List.set_cons_succ]
          refine grow_take 16 (some 72) ?_ rfl rfl (by kernel_rfl) (fun _ _ _ h => h) (by kernel_rfl) hCalm ?_ ?_
          rotate_left
          · intro wS hS; (try dsimp only at hS); go_simp <;> with_reducible rfl
          try simp only [Act.put, List.setIfInBounds_toArray, List.set_cons_zero, List.set_cons_succ]
          refine grow_take 17 (some 73) ?_ rfl rfl (by kernel_rfl) (fun _ _ _ h => h) (by kernel_rfl) hCalm ?_ ?_
          rotate_left
          · intro wS hS; (try dsimp only at hS); go_simp <;> with_reducible rfl
          try simp only [Act.put, List.setIfInBounds_toArray, List.set_cons_zero, List.set_cons_succ]
          refine grow_take 18 (some 74) ?_ rfl rfl (by kernel_rfl) (fun _ _ _ h => h) (by kernel_rfl) hCalm ?_ ?_
          rotate_left
          · intro wS hS; (try dsimp only at hS); go_simp <;> with_reducible rfl
          try simp only [Act.put, List.setIfInBounds_toArray, List.set_cons_zero, List.set_cons_succ]
          refine grow_take 19 (some 75) ?_ rfl rfl (by kernel_rfl) (fun _ _ _ h => h) (by kernel_rfl) hCalm ?_ ?_
          rotate_left
          · intro wS hS; (try dsimp only at hS); go_simp <;> with_reducible rfl
          try simp only [Act.put, List.setIfInBounds_toArray, List.set_cons_zero, List.set_cons_succ]
          refine grow_take 20 (some 76) ?_ rfl rfl (by kernel_rfl) (fun _ _ _ h => h) (by kernel_rfl) hCalm ?_ ?_
          rotate_left
          · intro wS hS; (try dsimp only at hS); go_simp <;> with_reducible rfl
          try simp only [Act.put, List.setIfInBounds_toArray, List.set_cons_zero, List.set_cons_succ]
          refine grow_take 21 (some 77) ?_ rfl rfl (by kernel_rfl) (fun _ _ _ h => h) (by kernel_rfl) hCalm ?_ ?_
          rotate_left
          · intro wS hS; (try dsimp only at hS); go_simp <;> with_reducible rfl
          try simp only [Act.put, List.setIfInBounds_toArray, List.set_cons_zero, List.set_cons_succ]
          refine grow_take 22 (some 78) (.bool false) rfl rfl (by kernel_rfl) (fun _ _ _ h => h) (by kernel_rfl) hCalm ?_ ?_
          · intro wS hS; (try dsimp only at hS); go_simp
          try simp only [Act.put, List.setIfInBounds_toArray, List.set_cons_zero, List.set_cons_succ]
          refine grow_take 23 (some 79) ?_ rfl rfl (by kernel_rfl) (fun _ _ _ h => h) (by kernel_rfl) hCalm ?_ ?_
          rotate_left
          · intro wS hS; (try dsimp only at hS); go_simp <;> with_reducible rfl
          try simp only [Act.put, List.setIfInBounds_toArray, List.set_cons_zero, List.set_cons_succ]
          refine grow_take 24 (some 80) ?_ rfl rfl (by kernel_rfl) (fun _ _ _ h => h) (by kernel_rfl) hCalm ?_ ?_
          rotate_left
          · intro wS hS; (try dsimp only at hS); go_simp <;> with_reducible rfl
          try simp only [Act.put, List.setIfInBounds_toArray, List.set_cons_zero, List.set_cons_succ]
          refine grow_take 25 (some 81) ?_ rfl rfl (by kernel_rfl) (fun _ _ _ h => h) (by kernel_rfl) hCalm ?_ ?_
          rotate_left
          · intro wS hS; (try dsimp only at hS); go_simp <;> with_reducible rfl
          try simp only [Act.put, List.setIfInBounds_toArray, List.set_cons_zero, List.set_cons_succ]
          refine grow_take 26 (some 82) ?_ rfl rfl (by kernel_rfl) (fun _ _ _ h => h) (by kernel_rfl) hCalm ?_ ?_
          rotate_left
          · intro wS hS; (try dsimp only at hS); go_simp <;> with_reducible rfl
          try simp only [Act.put, List.setIfInBounds_toArray, List.set_cons_zero, List.set_cons_succ]
          refine grow_take 27 (some 83) ?_ rfl rfl (by kernel_rfl) (fun _ _ _ h => h) (by kernel_rfl) hCalm ?_ ?_
          rotate_left
          · intro wS hS; (try dsimp only at hS); go_simp <;> with_reducible rfl
          try simp only [Act.put, List.setIfInBounds_toArray, List.set_cons_zero, List.set_cons_succ]
          refine grow_take 28 (some 84) ?_ rfl rfl (by kernel_rfl) (fun _ _ _ h => h) (by kernel_rfl) hCalm ?_ ?_
          rotate_left
          · intro wS hS; (try dsimp only at hS); go_simp <;> with_reducible rfl
          try simp only [Act.put, List.setIfInBounds_toArray, List.set_cons_zero, List.set_cons_succ]
          refine grow_take 29 (some 85) ?_ rfl rfl (by kernel_rfl) (fun _ _ _ h => h) (by kernel_rfl) hCalm ?_ ?_
          rotate_left
          · intro wS hS; (try dsimp only at hS); go_simp <;> with_reducible rfl
          try simp only [Act.put, List.setIfInBounds_toArray, List.set_cons_zero, List.set_cons_succ]
          refine grow_take 30 (some 86) ?_ rfl rfl (by kernel_rfl) (fun _ _ _ h => h) (by kernel_rfl) hCalm ?_ ?_
          rotate_left
          · intro wS hS; (try dsimp only at hS); go_simp <;> with_reducible rfl
          try simp only [Act.put, List.setIfInBounds_toArray, List.set_cons_zero, List.set_cons_succ]
          refine grow_take 31 (some 87) ?_ rfl rfl (by kernel_rfl) (fun _ _ _ h => h) (by kernel_rfl) hCalm ?_ ?_
          rotate_left
          · intro wS hS; (try dsimp only at hS); go_simp <;> with_reducible rfl
          try simp only [Act.put, List.setIfInBounds_toArray, List.set_cons_zero, List.set_cons_succ]
          refine grow_take 32 (some 88) ?_ rfl rfl (by kernel_rfl) (fun _ _ _ h => h) (by kernel_rfl) hCalm ?_ ?_
          rotate_left
          · intro wS hS; (try dsimp only at hS); go_simp <;> with_reducible rfl
          try simp only [Act.put, List.setIfInBounds_toArray, List.set_cons_zero, List.set_cons_succ]
          refine grow_take 33 (some 89) ?_ rfl rfl (by kernel_rfl) (fun _ _ _ h => h) (by kernel_rfl) hCalm ?_ ?_
          rotate_left
          · intro wS hS; (try dsimp only at hS); go_simp <;> with_reducible rfl
          try simp only [Act.put, List.setIfInBounds_toArray, List.set_cons_zero, List.set_cons_succ]
          refine grow_take 34 (some 90) ?_ rfl rfl (by kernel_rfl) (fun _ _ _ h => h) (by kernel_rfl) hCalm ?_ ?_
          rotate_left
          · intro wS hS; (try dsimp only at hS); go_simp <;> with_reducible rfl
          try simp only [Act.put, List.setIfInBounds_toArray, List.set_cons_zero, List.set_cons_succ]
          refine grow_take 35 (some 91) (.bool false) rfl rfl (by kernel_rfl) (fun _ _ _ h => h) (by kernel_rfl) hCalm ?_ ?_
          · intro wS hS; (try dsimp only at hS); go_simp
            have := HIN.out; omega
          try simp only [Act.put, List.setIfInBounds_toArray, List.set_cons_zero, List.set_cons_succ]
          refine grow_take 36 (some 92) ?_ rfl rfl (by kernel_rfl) (fun _ _ _ h => h) (by kernel_rfl) hCalm ?_ ?_
          rotate_left
          · intro wS hS; (try dsimp only at hS); go_simp <;> with_reducible rfl
          try simp only [Act.put, List.setIfInBounds_toArray, List.set_cons_zero, List.set_cons_succ]
          refine grow_take 37 (some 93) ?_ rfl rfl (by kernel_rfl) (fun _ _ _ h => h) (by kernel_rfl) hCalm ?_ ?_
          rotate_left
          · intro wS hS; (try dsimp only at hS); go_simp <;> with_reducible rfl
          try simp only [Act.put, List.setIfInBounds_toArray, List.set_cons_zero, List.set_cons_succ]
          refine grow_take 38 (some 94) ?_ rfl rfl (by kernel_rfl) (fun _ _ _ h => h) (by kernel_rfl) hCalm ?_ ?_
          rotate_left
          · intro wS hS; (try dsimp only at hS); go_simp <;> with_reducible rfl
          try simp only [Act.put, List.setIfInBounds_toArray, List.set_cons_zero, List.set_cons_succ]
          refine grow_take 39 (some 95) ?_ rfl rfl (by kernel_rfl) (fun _ _ _ h => h) (by kernel_rfl) hCalm ?_ ?_
          rotate_left
          · intro wS hS; (try dsimp only at hS); go_simp <;> with_reducible rfl
          try simp only [Act.put, List.setIfInBounds_toArray, List.set_cons_zero, List.set_cons_succ]
          refine grow_take 40 (some 96) ?_ rfl rfl (by kernel_rfl) (fun _ _ _ h => h) (by kernel_rfl) hCalm ?_ ?_
          rotate_left
          · intro wS hS; (try dsimp only at hS); go_simp <;> with_reducible rfl
          try simp only [Act.put, List.setIfInBounds_toArray, List.set_cons_zero, List.set_cons_succ]
          refine grow_take 41 (some 97) ?_ rfl rfl (by kernel_rfl) (fun _ _ _ h => h) (by kernel_rfl) hCalm ?_ ?_
          rotate_left
          · intro wS hS; (try dsimp only at hS); go_simp <;> with_reducible rfl
          try simp only [Act.put, List.setIfInBounds_toArray, List.set_cons_zero, List.set_cons_succ]
          refine grow_take 42 (some 98) ?_ rfl rfl (by kernel_rfl) (fun _ _ _ h => h) (by kernel_rfl) hCalm ?_ ?_
          rotate_left
          · intro wS hS; (try dsimp only at hS); go_simp <;> with_reducible rfl
          try simp only [Act.put, List.setIfInBounds_toArray, List.set_cons_zero, List.set_cons_succ]
          refine grow_take 43 (some 99) ?_ rfl rfl (by kernel_rfl) (fun _ _ _ h => h) (by kernel_rfl) hCalm ?_ ?_
          rotate_left
          · intro wS hS; (try dsimp only at hS); go_simp <;> with_reducible rfl
          try simp only [Act.put, List.setIfInBounds_toArray, List.set_cons_zero, List.set_cons_succ]
          refine grow_take 44 (some 100) ?_ rfl rfl (by kernel_rfl) (fun _ _ _ h => h) (by kernel_rfl) hCalm ?_ ?_
          rotate_left
          · intro wS hS; (try dsimp only at hS); go_simp <;> with_reducible rfl
          try simp only [Act.put, List.setIfInBounds_toArray, List.set_cons_zero, List.set_cons_succ]
          refine grow_take 45 (some 101) ?_ rfl rfl (by kernel_rfl) (fun _ _ _ h => h) (by kernel_rfl) hCalm ?_ ?_
          rotate_left
          · intro wS hS; (try dsimp only at hS); go_simp <;> with_reducible rfl
          try simp only [Act.put, List.setIfInBounds_toArray, List.set_cons_zero, List.set_cons_succ]
          refine grow_take 46 (some 102) ?_ rfl rfl (by kernel_rfl) (fun _ _ _ h => h) (by kernel_rfl) hCalm ?_ ?_
          rotate_left
          · intro wS hS; (try dsimp only at hS); go_simp <;> with_reducible rfl
          try simp only [Act.put, List.setIfInBounds_toArray, List.set_cons_zero, List.set_cons_succ]
          refine grow_take 47 (some 103) ?_ rfl rfl (by kernel_rfl) (fun _ _ _ h => h) (by kernel_rfl) hCalm ?_ ?_
          rotate_left
          · intro wS hS; (try dsimp only at hS); go_simp <;> with_reducible rfl
          try simp only [Act.put, List.setIfInBounds_toArray, List.set_cons_zero, List.set_cons_succ]
          refine grow_take 48 (some 104) (.bool false) rfl rfl (by kernel_rfl) (fun _ _ _ h => h) (by kernel_rfl) hCalm ?_ ?_
          · intro wS hS; (try dsimp only at hS); go_simp
            have := HIN.out; omega
          try simp only [Act.put, List.setIfInBounds_toArray, List.set_cons_zero, List.set_cons_succ]
          refine grow_take 49 (some 105) ?_ rfl rfl (by kernel_rfl) (fun _ _ _ h => h) (by kernel_rfl) hCalm ?_ ?_
          rotate_left
          · intro wS hS; (try dsimp only at hS); go_simp <;> with_reducible rfl
          try simp only [Act.put, List.setIfInBounds_toArray, List.set_cons_zero, List.set_cons_succ]
          refine grow_done (by kernel_rfl) (fun wA hA => ?_) _
          have HB9 := Lib.hid (HBR.out.trans (hA.mono HBR.out.size)); clear hA
          go_wp2_with fail
          go_roundw
          case rel => exact ⟨i + 1, by go_num, HI.out, HB9.out⟩
          case measure => have := HI.out; simp [intOf]; omega
        case neg =>
          obtain ⟨k, hk, hPK⟩ := lpick_one which (nl : Int) HW.out (by have := HN0.out; omega)
          obtain ⟨k, rfl⟩ : ∃ kn : Nat, k = (kn : Int) := ⟨k.toNat, by omega⟩
          obtain rfl : i = nl := by omega
          have HPK := Lib.hid hPK
          have hkn : k < i := by omega
          have hko : k < out.length := by have := HOL.out; have := HNL.out; omega
          have hkl : k < l.length := by have := HNL.out; omega
          have HX := Lib.hid (fun W (ht : Kz W (some ⟨g, 0, none⟩) out) => by have h := Kz.cell ht (Below.refl W.heap.size W) (Nat.le_refl _) hko; rw [Nat.zero_add] at h; exact h)
          have hp1 := HTT.out.pers HC.out hko; have hin := HTT.out.in_ HC.out hko hkl; have hcb := HC.out.2 k hkl
          have HIF := Lib.hid (fun V => HTT.out.iff HC.out hko V)
          obtain ⟨x, hx⟩ : ∃ x, x = out[k] := ⟨_, rfl⟩
          rw [← hx] at HX hp1 hin HIF
          obtain ⟨xp, lo, hi2⟩ := x
          dsimp only at HX hp1 hin HIF
          subst hp1
          have hbd : -200 ≤ lo ∧ lo ≤ hi2 ∧ hi2 ≤ 200 := by omega
          have HBN := Lib.hid hbd
          have HCA := Lib.hid (fun W (hk1 : Kz W (some ⟨b, o, none⟩) l) (hm1 : Mz W B2 ms) V (h1 : lo ≤ V) (h2 : V ≤ hi2) => (lposs_yes hk1 hm1 HM.out.ok HC.out.ok (by have := HN0.out; omega) (by omega) ((HIF.out V).2 ⟨h1, h2⟩) : Calls Try.prog 63 #[.slice (some ⟨b, o, none⟩) l.length c2, .slice B2 ms.length d2, .int .i64 (k : Nat), .int .i64 V] W _))
          have HCN := Lib.hid (fun W (hk1 : Kz W (some ⟨b, o, none⟩) l) (hm1 : Mz W B2 ms) V (h1 : ¬ (lo ≤ V ∧ V ≤ hi2)) (h2 : -300 ≤ V ∧ V ≤ 300) => (lposs_no hk1 hm1 HM.out.ok HC.out.ok (by have := HN0.out; omega) (by omega) HFE.out (fun h => h1 ((HIF.out V).1 h)) : Calls Try.prog 63 #[.slice (some ⟨b, o, none⟩) l.length c2, .slice B2 ms.length d2, .int .i64 (k : Nat), .int .i64 V] W _))
          rw [← HNL.out] at HCA HCN
          have q1 : (0 : Int) ≤ (k : Int) := by omega
          have q2 : (k : Int) < (i : Int) := by omega
          have hni : ¬ ((i : Int) < (i : Int)) := by omega
          clear hx hk hPK hin hcb hbd hlt hi hkn hko hkl
          go_wp2_with fail
          refine (HPK.out _).mono ?_
          rintro e v7 ⟨rfl, hb⟩
          have HB7 := Lib.hid (HBW.out.trans (hb.mono HBW.out.size)); have FK7 := Lib.hid (FKR.out.below hb (Nat.le_refl _)); have FM7 := Lib.hid (FMR.out.below hb (Nat.le_refl _)); have FT7 := Lib.hid (FTR.out.below hb (Nat.le_refl _)); clear hb
          obtain ⟨y0, y1, y2⟩ := HX.out _ FT7.out
          go_wp2_with fail
          clear y0 y1 y2
          go_loopw [14] (fun nn wr2 => ∃ V : Int, nn = .int .i64 V ∧ lo ≤ V ∧ V ≤ hi2 + 1 ∧ Below v7.heap.size v7 wr2) (fun nn _ => (hi2 + 1 - intOf nn).toNat)
          case atStart => exact ⟨lo, rfl, Int.le_refl _, by have := HBN.out; omega, Below.refl _ _⟩
          case round =>
            rename World => wr2
            obtain ⟨V, rfl, hV1, hV2, hB2⟩ := hrel
            have HBR2 := Lib.hid hB2; clear hB2
            have FK8 := Lib.hid (FK7.out.below HBR2.out (Nat.le_refl _)); have FM8 := Lib.hid (FM7.out.below HBR2.out (Nat.le_refl _)); have FT8 := Lib.hid (FT7.out.below HBR2.out (Nat.le_refl _)); have HB8 := Lib.hid (HB7.out.trans (HBR2.out.mono HB7.out.size))
            obtain ⟨y0, y1, y2⟩ := HX.out _ FT8.out
            by_cases hle : V ≤ hi2
            case pos =>
              have HC9 := Lib.hid (HCA.out _ FK8.out FM8.out V hV1 hle)
              have HV := Lib.hid (And.intro hV1 hle)
              have q5 : IntKind.i64.wrap (V + 1) = V + 1 := IntWalk.i64_in _ (by have := HBN.out; omega)
              clear hV1 hV2
              go_wp2_with fail
              refine HC9.out.mono ?_
              rintro e v9 ⟨rfl, hb⟩
              have HB9 := Lib.hid (HBR2.out.trans (hb.mono HBR2.out.size)); clear hb HC9 y0 y1 y2
              go_wp2_with fail
              go_roundw
              case rel => exact ⟨V + 1, rfl, by have := HV.out; omega, by have := HV.out; omega, HB9.out⟩
              case measure => have := HV.out; simp [intOf]; omega
            case neg =>
              obtain rfl : V = hi2 + 1 := by omega
              have q6 : ¬ (hi2 + 1 ≤ hi2) := by omega
              have f1 : IntKind.i64.wrap (lo - 1) = lo - 1 := IntWalk.i64_in _ (by have := HBN.out; omega)
              have f2 : IntKind.i64.wrap (hi2 + 1) = hi2 + 1 := IntWalk.i64_in _ (by have := HBN.out; omega)
              have HN1 := Lib.hid (fun W hk1 hm1 => HCN.out W hk1 hm1 (lo - 1) (by omega) (by have := HBN.out; omega)); have HN2 := Lib.hid (fun W hk1 hm1 => HCN.out W hk1 hm1 (hi2 + 1) (by omega) (by have := HBN.out; omega))
              clear hV1 hV2 hle
              go_wp2_with fail
              clear y0 y1 y2
              refine wp_region_grow (S := (fun w' => w'.cell? ⟨g, k * 3, none⟩ = some (.int .i64 (k : Nat)) ∧ w'.cell? ⟨g, k * 3 + 1, none⟩ = some (.int .i64 lo) ∧ w'.cell? ⟨g, k * 3 + 2, none⟩ = some (.int .i64 hi2) ∧ Kz w' (some ⟨b, o, none⟩) l ∧ Mz w' B2 ms)) ((fun w' => Below wr2.heap.size wr2 w')) (by kernel_rfl) (⟨fun w2 h2 => ⟨(HX.out _ (FT8.out.below h2 (Nat.le_refl _))).1, (HX.out _ (FT8.out.below h2 (Nat.le_refl _))).2.1, (HX.out _ (FT8.out.below h2 (Nat.le_refl _))).2.2, FK8.out.below h2 (Nat.le_refl _), FM8.out.below h2 (Nat.le_refl _)⟩, fun w2 w3 h2 hb2 => h2.trans (hb2.mono h2.size)⟩) ((Below.refl wr2.heap.size wr2).drew) (fun hCalm => ?_)
              refine grow_take 0 (some 134) ?_ rfl rfl (by kernel_rfl) (fun _ _ _ h => h) (by kernel_rfl) hCalm ?_ ?_
              rotate_left
              · intro wS hS; (try dsimp only at hS); go_simp <;> with_reducible rfl
              try simp only [Act.put, List.setIfInBounds_toArray, List.set_cons_zero, List.set_cons_succ]
              refine grow_take 1 (some 135) ?_ rfl rfl (by kernel_rfl) (fun _ _ _ h => h) (by kernel_rfl) hCalm ?_ ?_
              rotate_left
              · intro wS hS; (try dsimp only at hS); go_simp <;> with_reducible rfl
              try simp only [Act.put, List.setIfInBounds_toArray, List.set_cons_zero, List.set_cons_succ]
              refine grow_take 2 (some 136) ?_ rfl rfl (by kernel_rfl) (fun _ _ _ h => h) (by kernel_rfl) hCalm ?_ ?_
              rotate_left
              · intro wS hS; (try dsimp only at hS); go_simp <;> with_reducible rfl
              try simp only [Act.put, List.setIfInBounds_toArray, List.set_cons_zero, List.set_cons_succ]
              refine grow_take 3 (some 137) ?_ rfl rfl (by kernel_rfl) (fun _ _ _ h => h) (by kernel_rfl) hCalm ?_ ?_
              rotate_left
              · intro wS hS; (try dsimp only at hS); go_simp <;> with_reducible rfl
              try simp only [Act.put, List.setIfInBounds_toArray, List.set_cons_zero, List.set_cons_succ]
              refine grow_take 4 (some 138) ?_ rfl rfl (by kernel_rfl) (fun _ _ _ h => h) (by kernel_rfl) hCalm ?_ ?_
              rotate_left
              · intro wS hS; (try dsimp only at hS); go_simp <;> with_reducible rfl
              try simp only [Act.put, List.setIfInBounds_toArray, List.set_cons_zero, List.set_cons_succ]
              refine grow_take 5 (some 139) ?_ rfl rfl (by kernel_rfl) (fun _ _ _ h => h) (by kernel_rfl) hCalm ?_ ?_
              rotate_left
              · intro wS hS; (try dsimp only at hS); go_simp <;> with_reducible rfl
              try simp only [Act.put, List.setIfInBounds_toArray, List.set_cons_zero, List.set_cons_succ]
              refine grow_take 6 (some 140) ?_ rfl rfl (by kernel_rfl) (fun _ _ _ h => h) (by kernel_rfl) hCalm ?_ ?_
              rotate_left
              · intro wS hS; (try dsimp only at hS); go_simp <;> with_reducible rfl
              try simp only [Act.put, List.setIfInBounds_toArray, List.set_cons_zero, List.set_cons_succ]
              refine grow_take 7 (some 141) ?_ rfl rfl (by kernel_rfl) (fun _ _ _ h => h) (by kernel_rfl) hCalm ?_ ?_
              rotate_left
              · intro wS hS; (try dsimp only at hS); go_simp <;> with_reducible rfl
              try simp only [Act.put, List.setIfInBounds_toArray, List.set_cons_zero, List.set_cons_succ]
              refine grow_take 8 (some 142) ?_ rfl rfl (by kernel_rfl) (fun _ _ _ h => h) (by kernel_rfl) hCalm ?_ ?_
              rotate_left
              · intro wS hS; (try dsimp only at hS); go_simp <;> with_reducible rfl
              try simp only [Act.put, List.setIfInBounds_toArray, List.set_cons_zero, List.set_cons_succ]
              refine grow_take 9 (some 143) ?_ rfl rfl (by kernel_rfl) (fun _ _ _ h => h) (by kernel_rfl) hCalm ?_ ?_
              rotate_left
              · intro wS hS; (try dsimp only at hS); go_simp <;> with_reducible rfl
              try simp only [Act.put, List.setIfInBounds_toArray, List.set_cons_zero, List.set_cons_succ]
              refine grow_take 10 (some 144) ?_ rfl rfl (by kernel_rfl) (fun _ _ _ h => h) (by kernel_rfl) hCalm ?_ ?_
              rotate_left
              · intro wS hS; (try dsimp only at hS); go_simp <;> with_reducible rfl
              try simp only [Act.put, List.setIfInBounds_toArray, List.set_cons_zero, List.set_cons_succ]
              refine grow_take 11 (some 145) ?_ rfl rfl (by kernel_rfl) (fun _ _ _ h => h) (by kernel_rfl) hCalm ?_ ?_
              rotate_left
              · intro wS hS; (try dsimp only at hS); go_simp <;> with_reducible rfl
              try simp only [Act.put, List.setIfInBounds_toArray, List.set_cons_zero, List.set_cons_succ]
              refine grow_take 12 (some 146) ?_ rfl rfl (by kernel_rfl) (fun _ _ _ h => h) (by kernel_rfl) hCalm ?_ ?_
              rotate_left
              · intro wS hS; (try dsimp only at hS); go_simp <;> with_reducible rfl
              try simp only [Act.put, List.setIfInBounds_toArray, List.set_cons_zero, List.set_cons_succ]
              refine grow_call 13 (some 147) (.bool false) 63 [.tmp 134, .tmp 135, .tmp 140, .tmp 146] #[80, 82, 3, 3] rfl rfl (by kernel_rfl) (fun _ _ _ h => h) (by kernel_rfl) hCalm rfl (enters_of Try.func63 (by kernel_rfl) rfl) (fun wz hS => HN1.out wz hS.2.2.2.1 hS.2.2.2.2) (by kernel_rfl) ?_
              try simp only [Act.put, List.setIfInBounds_toArray, List.set_cons_zero, List.set_cons_succ]
              refine grow_take 14 (some 148) ?_ rfl rfl (by kernel_rfl) (fun _ _ _ h => h) (by kernel_rfl) hCalm ?_ ?_
              rotate_left
              · intro wS hS; (try dsimp only at hS); go_simp <;> with_reducible rfl
              try simp only [Act.put, List.setIfInBounds_toArray, List.set_cons_zero, List.set_cons_succ]
              refine grow_take 15 (some 149) ?_ rfl rfl (by kernel_rfl) (fun _ _ _ h => h) (by kernel_rfl) hCalm ?_ ?_
              rotate_left
              · intro wS hS; (try dsimp only at hS); go_simp <;> with_reducible rfl
              try simp only [Act.put, List.setIfInBounds_toArray, List.set_cons_zero, List.set_cons_succ]
              refine grow_take 16 (some 150) ?_ rfl rfl (by kernel_rfl) (fun _ _ _ h => h) (by kernel_rfl) hCalm ?_ ?_
              rotate_left
              · intro wS hS; (try dsimp only at hS); go_simp <;> with_reducible rfl
              try simp only [Act.put, List.setIfInBounds_toArray, List.set_cons_zero, List.set_cons_succ]
              refine grow_take 17 (some 151) ?_ rfl rfl (by kernel_rfl) (fun _ _ _ h => h) (by kernel_rfl) hCalm ?_ ?_
              rotate_left
              · intro wS hS; (try dsimp only at hS); go_simp <;> with_reducible rfl
              try simp only [Act.put, List.setIfInBounds_toArray, List.set_cons_zero, List.set_cons_succ]
              refine grow_take 18 (some 152) ?_ rfl rfl (by kernel_rfl) (fun _ _ _ h => h) (by kernel_rfl) hCalm ?_ ?_
              rotate_left
              · intro wS hS; (try dsimp only at hS); go_simp <;> with_reducible rfl
              try simp only [Act.put, List.setIfInBounds_toArray, List.set_cons_zero, List.set_cons_succ]
              refine grow_take 19 (some 153) ?_ rfl rfl (by kernel_rfl) (fun _ _ _ h => h) (by kernel_rfl) hCalm ?_ ?_
              rotate_left
              · intro wS hS; (try dsimp only at hS); go_simp <;> with_reducible rfl
              try simp only [Act.put, List.setIfInBounds_toArray, List.set_cons_zero, List.set_cons_succ]
              refine grow_take 20 (some 154) ?_ rfl rfl (by kernel_rfl) (fun _ _ _ h => h) (by kernel_rfl) hCalm ?_ ?_
              rotate_left
              · intro wS hS; (try dsimp only at hS); go_simp <;> with_reducible rfl
              try simp only [Act.put, List.setIfInBounds_toArray, List.set_cons_zero, List.set_cons_succ]
              refine grow_take 21 (some 155) ?_ rfl rfl (by kernel_rfl) (fun _ _ _ h => h) (by kernel_rfl) hCalm ?_ ?_
              rotate_left
              · intro wS hS; (try dsimp only at hS); go_simp <;> with_reducible rfl
              try simp only [Act.put, List.setIfInBounds_toArray, List.set_cons_zero, List.set_cons_succ]
              refine grow_take 22 (some 156) ?_ rfl rfl (by kernel_rfl) (fun _ _ _ h => h) (by kernel_rfl) hCalm ?_ ?_
              rotate_left
              · intro wS hS; (try dsimp only at hS); go_simp <;> with_reducible rfl
              try simp only [Act.put, List.setIfInBounds_toArray, List.set_cons_zero, List.set_cons_succ]
              refine grow_take 23 (some 157) ?_ rfl rfl (by kernel_rfl) (fun _ _ _ h => h) (by kernel_rfl) hCalm ?_ ?_
              rotate_left
              · intro wS hS; (try dsimp only at hS); go_simp <;> with_reducible rfl
              try simp only [Act.put, List.setIfInBounds_toArray, List.set_cons_zero, List.set_cons_succ]
              refine grow_take 24 (some 158) ?_ rfl rfl (by kernel_rfl) (fun _ _ _ h => h) (by kernel_rfl) hCalm ?_ ?_
              rotate_left
              · intro wS hS; (try dsimp only at hS); go_simp <;> with_reducible rfl
              try simp only [Act.put, List.setIfInBounds_toArray, List.set_cons_zero, List.set_cons_succ]
              refine grow_take 25 (some 159) ?_ rfl rfl (by kernel_rfl) (fun _ _ _ h => h) (by kernel_rfl) hCalm ?_ ?_
              rotate_left
              · intro wS hS; (try dsimp only at hS); go_simp <;> with_reducible rfl
              try simp only [Act.put, List.setIfInBounds_toArray, List.set_cons_zero, List.set_cons_succ]
              refine grow_take 26 (some 160) ?_ rfl rfl (by kernel_rfl) (fun _ _ _ h => h) (by kernel_rfl) hCalm ?_ ?_
              rotate_left
              · intro wS hS; (try dsimp only at hS); go_simp <;> with_reducible rfl
              try simp only [Act.put, List.setIfInBounds_toArray, List.set_cons_zero, List.set_cons_succ]
              refine grow_take 27 (some 161) ?_ rfl rfl (by kernel_rfl) (fun _ _ _ h => h) (by kernel_rfl) hCalm ?_ ?_
              rotate_left
              · intro wS hS; (try dsimp only at hS); go_simp <;> with_reducible rfl
              try simp only [Act.put, List.setIfInBounds_toArray, List.set_cons_zero, List.set_cons_succ]
              refine grow_take 28 (some 162) ?_ rfl rfl (by kernel_rfl) (fun _ _ _ h => h) (by kernel_rfl) hCalm ?_ ?_
              rotate_left
              · intro wS hS; (try dsimp only at hS); go_simp <;> with_reducible rfl
              try simp only [Act.put, List.setIfInBounds_toArray, List.set_cons_zero, List.set_cons_succ]
              refine grow_call 29 (some 163) (.bool false) 63 [.tmp 150, .tmp 151, .tmp 156, .tmp 162] #[80, 82, 3, 3] rfl rfl (by kernel_rfl) (fun _ _ _ h => h) (by kernel_rfl) hCalm rfl (enters_of Try.func63 (by kernel_rfl) rfl) (fun wz hS => HN2.out wz hS.2.2.2.1 hS.2.2.2.2) (by kernel_rfl) ?_
              try simp only [Act.put, List.setIfInBounds_toArray, List.set_cons_zero, List.set_cons_succ]
              refine grow_take 30 (some 164) ?_ rfl rfl (by kernel_rfl) (fun _ _ _ h => h) (by kernel_rfl) hCalm ?_ ?_
              rotate_left
              · intro wS hS; (try dsimp only at hS); go_simp <;> with_reducible rfl
              try simp only [Act.put, List.setIfInBounds_toArray, List.set_cons_zero, List.set_cons_succ]
              refine grow_take 31 (some 165) ?_ rfl rfl (by kernel_rfl) (fun _ _ _ h => h) (by kernel_rfl) hCalm ?_ ?_
              rotate_left
              · intro wS hS; (try dsimp only at hS); go_simp <;> with_reducible rfl
              try simp only [Act.put, List.setIfInBounds_toArray, List.set_cons_zero, List.set_cons_succ]
              refine grow_take 32 (some 6) ?_ rfl rfl (by kernel_rfl) (fun _ _ _ h => h) (by kernel_rfl) hCalm ?_ ?_
              rotate_left
              · intro wS hS; (try dsimp only at hS); go_simp <;> with_reducible rfl
              try simp only [Act.put, List.setIfInBounds_toArray, List.set_cons_zero, List.set_cons_succ]
              refine grow_done (by kernel_rfl) (fun wA hA => ?_) _
              have HB9 := Lib.hid (HB8.out.trans (hA.mono HB8.out.size)); clear hA
              go_wp2_with fail
              go_ret
              exact ⟨rfl, HB9.out⟩
end Go.Proofs.Ytbcgfohacbapoaa
