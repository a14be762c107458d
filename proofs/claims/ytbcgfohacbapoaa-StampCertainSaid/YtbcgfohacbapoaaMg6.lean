
/- The contract of merged. Conditions: the slices read, at most 1000 stamps each. -/
import Derived.Test.YtbcgfohacbapoaaAp6
import Derived.Test.YtbcgfohacbapoaaGs5
namespace Go.Proofs.Ytbcgfohacbapoaa
open Go.RowKit Go.Lib

def slen : Value → Nat
  | .slice _ n _ => n
  | _ => 0
/-- A slice of stamps as a value, with what a call that made it says. -/
def SlR (l : List Sm) (B : Nat) (e : Ending) (w' : World) : Prop := ∃ A c, e = .returned (.slice A l.length c) ∧ Smz w' A l ∧ l.length ≤ c ∧ (A = none → c = 0) ∧ (∀ b o, A = some ⟨b, o, none⟩ → B ≤ b) ∧ c ≤ maxLen
theorem tz_first {W w : World} {b o : Nat} {x : Sm} {l : List Sm} (h : Smz w (some ⟨b, o, none⟩) (x :: l)) (hb : Below w.heap.size w W) : W.cell? ⟨b, o, none⟩ = some (.int .i64 x.t) ∧ W.cell? ⟨b, o + 1, none⟩ = some (.int .i64 x.p) ∧ W.cell? ⟨b, o + 2, none⟩ = some (.int .i64 x.n) := by
  have := Smz.cell h hb (Nat.le_refl _) (i := 0) (by simp)
  simpa using this
theorem tz_rest {w : World} {b o : Nat} {x : Sm} {l : List Sm} (h : Smz w (some ⟨b, o, none⟩) (x :: l)) : Smz w (some ⟨b, o + 3, none⟩) l := by
  have := Rz.drop h 1
  simpa using this
set_option maxRecDepth 100000 in
set_option maxHeartbeats 8000000 in
theorem pmerged_any (a b : List Sm) (A B : Option Addr) (c d : Nat) (w : World) (hA : Smz w A a) (hB : Smz w B b) (hac : a.length ≤ c) (hbd : b.length ≤ d) (hA0 : A = none → c = 0) (hB0 : B = none → d = 0) (hcm : c ≤ maxLen) (hdm : d ≤ maxLen) (ha : a.length ≤ 1000) (hb : b.length ≤ 1000) :
    Calls Try.prog 88 #[.slice A a.length c, .slice B b.length d] w fun e w' => SlR (mrg a b) w.heap.size e w' ∧ Below w.heap.size w w' := by
  obtain ⟨w0, hmk, hown0, hg0⟩ : ∃ w0, (Instr.makeSlice 65 (.int .i64 0) (.int .i64 ((a.length + b.length : Nat) : Int))).run Try.prog w = .ok (.slice (some ⟨w.heap.size, 0, none⟩) 0 (a.length + b.length)) w0 ∧ OwnL smc 3 64 w0 w.heap.size (.slice (some ⟨w.heap.size, 0, none⟩) 0 (a.length + b.length)) ([] : List Sm) ∧ w.grownBy w0 none := by
    obtain ⟨i, z, bb, hi, hz, hsz, hby, hb1, hzc⟩ := apM.info
    exact run_make_own w w.heap.size 65 64 i z 3 apM.und hi hz hsz .i64 .i64 (a.length + b.length) (by rw [hby]; have : bb * (a.length + b.length) ≤ 100 * (a.length + b.length) := Nat.mul_le_mul_right _ hb1; omega) (by unfold maxLen; omega) (Nat.le_refl _)
  have e0 : IntKind.i64.wrap ((a.length : Int) + (b.length : Int)) = ((a.length + b.length : Nat) : Int) := by rw [IntWalk.i64_in _ (by omega)]; omega
  have HB0 : Hid (Below w.heap.size w w0) := Lib.hid ⟨hg0.os, hg0.tape, hg0.output, hg0.size, fun k hk => hg0.block k hk (by simp)⟩
  have HO0 := Lib.hid hown0
  obtain ⟨nn, hnn⟩ : ∃ n, n = a.length + b.length := ⟨_, rfl⟩
  rw [← hnn] at e0 hmk HO0
  have HST : Hid (([] : List Sm) ++ mrg a b = mrg a b) := Lib.hid (by simp)
  have HLA := Lib.hid ha; have HLB := Lib.hid hb
  have HAL : Hid (Smz w A a ∧ a.length ≤ c ∧ (A = none → c = 0) ∧ c ≤ maxLen) := Lib.hid ⟨hA, hac, hA0, hcm⟩
  have HBL : Hid (Smz w B b ∧ b.length ≤ d ∧ (B = none → d = 0) ∧ d ≤ maxLen) := Lib.hid ⟨hB, hbd, hB0, hdm⟩
  have HTOT : Hid (∀ pre a' b' : List Sm, pre ++ mrg a' b' = mrg a b → pre.length + a'.length + b'.length ≤ 2000) := Lib.hid (fun pre a' b' h => by
    have h1 := congrArg List.length h
    have h2 := (mrg_perm a' b').length_eq; have h3 := (mrg_perm a b).length_eq
    simp only [List.length_append] at h1 h2 h3
    omega)
  clear hA hB hac hbd hA0 hB0 hcm hdm ha hb hown0 hg0 hnn
  go_enter Try.func88, Try.ntmps88
  go_wp2_with fail
  clear hmk e0
  go_loopw [0, 1, 5] (fun sa sb vv wr => ∃ (a' b' pre : List Sm) (A' B' : Option Addr) (c' d' : Nat) (v1 : Value), v1 = vv ∧ sa = .slice A' a'.length c' ∧ sb = .slice B' b'.length d' ∧ (Smz w A' a' ∧ a'.length ≤ c' ∧ (A' = none → c' = 0) ∧ c' ≤ maxLen) ∧ (Smz w B' b' ∧ b'.length ≤ d' ∧ (B' = none → d' = 0) ∧ d' ≤ maxLen) ∧ pre ++ mrg a' b' = mrg a b ∧ OwnL smc 3 64 wr w.heap.size v1 pre ∧ Below w.heap.size w wr) (fun sa sb _ _ => slen sa + slen sb)
  case atStart => exact ⟨a, b, [], A, B, c, d, _, rfl, rfl, rfl, HAL.out, HBL.out, HST.out, HO0.out, HB0.out⟩
  case round =>
    clear HAL HBL HST HO0 HB0
    obtain ⟨a', b', pre, A', B', c', d', v1, rfl, rfl, rfl, hTa, hTb, hpre, hown, hB⟩ := hrel
    have HTA := Lib.hid hTa; have HTB := Lib.hid hTb; have HPR := Lib.hid hpre; have HOW := Lib.hid hown; have HB := Lib.hid hB
    have HTT := Lib.hid (HTOT.out pre a' b' hpre)
    clear hTa hTb hpre hown hB
    by_cases ha0 : a'.length = 0
    case pos =>
      obtain rfl : a' = [] := List.eq_nil_of_length_eq_zero ha0
      have HEND : Hid (([] : List Sm) ++ b' = mrg [] b') := Lib.hid (by simp [mrg])
      have q0 : ¬ (0 : Int) < ((([] : List Sm).length : Nat) : Int) := by simp
      have hundef := un_none
      clear ha0
      go_wp2_with (first
        | (at_builtin; refine wpList_append_all apM rfl _ _ rfl w.heap.size _ pre rfl HOW.out A' c' [] rfl (HTA.out.1.below HB.out (Nat.le_refl _)) HTA.out.2.2.1 (by have := HTT.out; omega) HB.out.size ?_; intro v2 w2 hown2 hgrow2; have HO2 := Lib.hid hown2; have HB2 := Lib.hid (HB.out.grown hgrow2 HB.out.size (fun k e => OwnL.block HOW.out e)); clear hown2 hgrow2)
        | (at_builtin; refine wpList_append_all apM rfl _ _ rfl w.heap.size _ (pre ++ []) rfl HO2.out B' d' b' rfl (HTB.out.1.below HB2.out (Nat.le_refl _)) HTB.out.2.2.1 (by have := HTT.out; simp; omega) HB2.out.size ?_; intro v3 w3 hown3 hgrow3; have HO3 := Lib.hid hown3; have HB3 := Lib.hid (HB2.out.grown hgrow3 HB2.out.size (fun k e => OwnL.block HO2.out e)); clear hown3 hgrow3))
      go_ret
      refine ⟨?_, HB3.out⟩
      have hfl : pre ++ [] ++ b' = mrg a b := by rw [← HPR.out, List.append_assoc, HEND.out]
      obtain ⟨A3, c3, hv, hz, hc, hn, hm⟩ := OwnL.read apM HO3.out
      have hbk : ∀ b o, A3 = some ⟨b, o, none⟩ → w.heap.size ≤ b := fun b o e => OwnL.block HO3.out (by rw [hv, e]; rfl)
      rw [hfl] at hv hz hc
      exact ⟨A3, c3, by rw [hv]; rfl, hz, hc, hn, hbk, hm⟩
    case neg =>
      by_cases hb0 : b'.length = 0
      case pos =>
        obtain rfl : b' = [] := List.eq_nil_of_length_eq_zero hb0
        have HEND : Hid (a' ++ ([] : List Sm) = mrg a' []) := Lib.hid (by rw [mrg_nil, List.append_nil])
        have q0 : (0 : Int) < (a'.length : Int) := by omega
        have q3 : ¬ (0 : Int) < ((([] : List Sm).length : Nat) : Int) := by simp
        clear ha0 hb0
        go_wp2_with (first
          | (at_builtin; refine wpList_append_all apM rfl _ _ rfl w.heap.size _ pre rfl HOW.out A' c' a' rfl (HTA.out.1.below HB.out (Nat.le_refl _)) HTA.out.2.2.1 (by have := HTT.out; omega) HB.out.size ?_; intro v2 w2 hown2 hgrow2; have HO2 := Lib.hid hown2; have HB2 := Lib.hid (HB.out.grown hgrow2 HB.out.size (fun k e => OwnL.block HOW.out e)); clear hown2 hgrow2)
          | (at_builtin; refine wpList_append_all apM rfl _ _ rfl w.heap.size _ (pre ++ a') rfl HO2.out B' d' [] rfl (HTB.out.1.below HB2.out (Nat.le_refl _)) HTB.out.2.2.1 (by have := HTT.out; simp; omega) HB2.out.size ?_; intro v3 w3 hown3 hgrow3; have HO3 := Lib.hid hown3; have HB3 := Lib.hid (HB2.out.grown hgrow3 HB2.out.size (fun k e => OwnL.block HO2.out e)); clear hown3 hgrow3))
        go_ret
        refine ⟨?_, HB3.out⟩
        have hfl : pre ++ a' ++ [] = mrg a b := by rw [← HPR.out, List.append_assoc, HEND.out]
        obtain ⟨A3, c3, hv, hz, hc, hn, hm⟩ := OwnL.read apM HO3.out
        have hbk : ∀ b o, A3 = some ⟨b, o, none⟩ → w.heap.size ≤ b := fun b o e => OwnL.block HO3.out (by rw [hv, e]; rfl)
        rw [hfl] at hv hz hc
        exact ⟨A3, c3, by rw [hv]; rfl, hz, hc, hn, hbk, hm⟩
      case neg =>
        obtain ⟨x, a2, rfl⟩ := List.exists_cons_of_ne_nil (l := a') (fun h => ha0 (by rw [h]; rfl))
        obtain ⟨y, b2, rfl⟩ := List.exists_cons_of_ne_nil (l := b') (fun h => hb0 (by rw [h]; rfl))
        obtain ⟨ba, oa, rfl⟩ := Rz.some HTA.out.1 (by simp)
        obtain ⟨bb, ob, rfl⟩ := Rz.some HTB.out.1 (by simp)
        have HX := Lib.hid (fun W (hb : Below w.heap.size w W) => tz_first HTA.out.1 hb)
        have HY := Lib.hid (fun W (hb : Below w.heap.size w W) => tz_first HTB.out.1 hb)
        obtain ⟨na, hna⟩ : ∃ n, n = (x :: a2).length := ⟨_, rfl⟩
        obtain ⟨nb, hnb⟩ : ∃ n, n = (y :: b2).length := ⟨_, rfl⟩
        have HNA : Hid (na = a2.length + 1 ∧ na ≤ c') := Lib.hid ⟨by rw [hna]; rfl, by rw [hna]; exact HTA.out.2.1⟩
        have HNB : Hid (nb = b2.length + 1 ∧ nb ≤ d') := Lib.hid ⟨by rw [hnb]; rfl, by rw [hnb]; exact HTB.out.2.1⟩
        rw [← hna, ← hnb]
        have q0 : (0 : Int) < (na : Int) := by rw [hna]; simp
        have q3 : (0 : Int) < (nb : Int) := by rw [hnb]; simp
        have q1 : (1 : Int) ≤ (na : Int) := by omega
        have q4 : (1 : Int) ≤ (nb : Int) := by omega
        have q6 : (na : Int) ≤ (c' : Int) := by have := HNA.out; omega
        have q7 : (nb : Int) ≤ (d' : Int) := by have := HNB.out; omega
        clear ha0 hb0 hna hnb
        have HBF := Lib.hid (fun W => pbef6_any y x W)
        go_wp2_with fail
        refine wp_region_grow (S := (fun w' => w'.cell? ⟨ba, oa, none⟩ = some (.int .i64 x.t) ∧ w'.cell? ⟨ba, oa + 1, none⟩ = some (.int .i64 x.p) ∧ w'.cell? ⟨ba, oa + 2, none⟩ = some (.int .i64 x.n) ∧ w'.cell? ⟨bb, ob, none⟩ = some (.int .i64 y.t) ∧ w'.cell? ⟨bb, ob + 1, none⟩ = some (.int .i64 y.p) ∧ w'.cell? ⟨bb, ob + 2, none⟩ = some (.int .i64 y.n))) ((fun w' => Below w.heap.size w w' ∧ OwnL smc 3 64 w' w.heap.size v1 pre)) (by kernel_rfl) (⟨fun w2 h2 => ⟨(HX.out _ h2.1).1, (HX.out _ h2.1).2.1, (HX.out _ h2.1).2.2, (HY.out _ h2.1).1, (HY.out _ h2.1).2.1, (HY.out _ h2.1).2.2⟩, fun w2 w3 h2 hb2 => ⟨h2.1.trans (hb2.mono h2.1.size), OwnL.below h2.2 hb2⟩⟩) (⟨HB.out.drew, OwnL.drew HOW.out⟩) (fun hCalm => ?_)
        refine grow_take 0 (some 20) ?_ rfl rfl (by kernel_rfl) (fun _ _ _ h => h) (by kernel_rfl) hCalm ?_ ?_
        rotate_left
        · intro wS hS; (try dsimp only at hS); go_simp <;> with_reducible rfl
        try simp only [Act.put, List.setIfInBounds_toArray, List.set_cons_zero, List.set_cons_succ]
        refine grow_take 1 (some 21) ?_ rfl rfl (by kernel_rfl) (fun _ _ _ h => h) (by kernel_rfl) hCalm ?_ ?_
        rotate_left
        · intro wS hS; (try dsimp only at hS); go_simp <;> with_reducible rfl
        try simp only [Act.put, List.setIfInBounds_toArray, List.set_cons_zero, List.set_cons_succ]
        refine grow_take 2 (some 22) ?_ rfl rfl (by kernel_rfl) (fun _ _ _ h => h) (by kernel_rfl) hCalm ?_ ?_
        rotate_left
        · intro wS hS; (try dsimp only at hS); go_simp <;> with_reducible rfl
        try simp only [Act.put, List.setIfInBounds_toArray, List.set_cons_zero, List.set_cons_succ]
        refine grow_take 3 (some 23) ?_ rfl rfl (by kernel_rfl) (fun _ _ _ h => h) (by kernel_rfl) hCalm ?_ ?_
        rotate_left
        · intro wS hS; (try dsimp only at hS); go_simp <;> with_reducible rfl
        try simp only [Act.put, List.setIfInBounds_toArray, List.set_cons_zero, List.set_cons_succ]
        refine grow_take 4 (some 24) ?_ rfl rfl (by kernel_rfl) (fun _ _ _ h => h) (by kernel_rfl) hCalm ?_ ?_
        rotate_left
        · intro wS hS; (try dsimp only at hS); go_simp <;> with_reducible rfl
        try simp only [Act.put, List.setIfInBounds_toArray, List.set_cons_zero, List.set_cons_succ]
        refine grow_take 5 (some 25) ?_ rfl rfl (by kernel_rfl) (fun _ _ _ h => h) (by kernel_rfl) hCalm ?_ ?_
        rotate_left
        · intro wS hS; (try dsimp only at hS); go_simp <;> with_reducible rfl
        try simp only [Act.put, List.setIfInBounds_toArray, List.set_cons_zero, List.set_cons_succ]
        refine grow_call 6 (some 26) (.bool (bef y x)) 48 [.tmp 22, .tmp 25] #[64, 64] rfl rfl (by kernel_rfl) (fun _ _ _ h => h) (by kernel_rfl) hCalm rfl (enters_of Try.func48 (by kernel_rfl) rfl) (fun wz _ => HBF.out wz) (by kernel_rfl) ?_
        try simp only [Act.put, List.setIfInBounds_toArray, List.set_cons_zero, List.set_cons_succ]
        refine grow_done (by kernel_rfl) (fun wA hA => ?_) _
        have HB5 := Lib.hid hA.1; have HO5 := Lib.hid hA.2; clear hA
        obtain ⟨r, hr⟩ : ∃ r, r = bef y x := ⟨_, rfl⟩
        have HRT : Hid (r = true → mrg (x :: a2) (y :: b2) = y :: mrg (x :: a2) b2) := Lib.hid (fun h => by rw [mrg, if_pos (by rw [← hr, h])])
        have HRF : Hid (r = false → mrg (x :: a2) (y :: b2) = x :: mrg a2 (y :: b2)) := Lib.hid (fun h => by rw [mrg, if_neg (by rw [← hr, h]; simp)])
        rw [← hr]
        clear hr HBF
        have HN6 : Hid (pre.length ≤ 1000000) := Lib.hid (by have := HTT.out; omega)
        cases r
        case true =>
          have HRR := Lib.hid (HRT.out rfl); clear HRT HRF
          go_wp2_with fail
          refine wp_region_grow (S := (fun w' => w'.cell? ⟨bb, ob, none⟩ = some (.int .i64 y.t) ∧ w'.cell? ⟨bb, ob + 1, none⟩ = some (.int .i64 y.p) ∧ w'.cell? ⟨bb, ob + 2, none⟩ = some (.int .i64 y.n))) ((fun w' => Below w.heap.size w w' ∧ OwnL smc 3 64 w' w.heap.size v1 pre)) (by kernel_rfl) (⟨fun w2 h2 => ⟨(HY.out _ h2.1).1, (HY.out _ h2.1).2.1, (HY.out _ h2.1).2.2⟩, fun w2 w3 h2 hb2 => ⟨h2.1.trans (hb2.mono h2.1.size), OwnL.below h2.2 hb2⟩⟩) (⟨HB5.out.drew, OwnL.drew HO5.out⟩) (fun hCalm => ?_)
          refine grow_take 0 (some 27) ?_ rfl rfl (by kernel_rfl) (fun _ _ _ h => h) (by kernel_rfl) hCalm ?_ ?_
          rotate_left
          · intro wS hS; (try dsimp only at hS); go_simp <;> with_reducible rfl
          try simp only [Act.put, List.setIfInBounds_toArray, List.set_cons_zero, List.set_cons_succ]
          refine grow_take 1 (some 28) ?_ rfl rfl (by kernel_rfl) (fun _ _ _ h => h) (by kernel_rfl) hCalm ?_ ?_
          rotate_left
          · intro wS hS; (try dsimp only at hS); go_simp <;> with_reducible rfl
          try simp only [Act.put, List.setIfInBounds_toArray, List.set_cons_zero, List.set_cons_succ]
          refine grow_take 2 (some 29) ?_ rfl rfl (by kernel_rfl) (fun _ _ _ h => h) (by kernel_rfl) hCalm ?_ ?_
          rotate_left
          · intro wS hS; (try dsimp only at hS); go_simp <;> with_reducible rfl
          try simp only [Act.put, List.setIfInBounds_toArray, List.set_cons_zero, List.set_cons_succ]
          refine grow_take 3 (some 30) ?_ rfl rfl (by kernel_rfl) (fun _ _ _ h => h) (by kernel_rfl) hCalm ?_ ?_
          rotate_left
          · intro wS hS; (try dsimp only at hS); go_simp <;> with_reducible rfl
          try simp only [Act.put, List.setIfInBounds_toArray, List.set_cons_zero, List.set_cons_succ]
          refine grow_take 6 (some 33) ?_ rfl rfl (by kernel_rfl) (fun _ _ _ h => h) (by kernel_rfl) hCalm ?_ ?_
          rotate_left
          · intro wS hS; (try dsimp only at hS); go_simp <;> with_reducible rfl
          try simp only [Act.put]
          refine grow_take 7 (some 34) ?_ rfl rfl (by kernel_rfl) (fun _ _ _ h => h) (by kernel_rfl) hCalm ?_ ?_
          rotate_left
          · intro wS hS; (try dsimp only at hS); go_simp <;> with_reducible rfl
          try simp only [Act.put]
          refine grow_each [4] (by kernel_rfl) (by decide) ?_
          refine grow_cons 4 rfl (by kernel_rfl) (fun wA hA K hK => ?_) grow_nil
          obtain ⟨pN, hpN⟩ : ∃ b, b = wA.heap.size := ⟨_, rfl⟩
          have hnew : Blk (wA.alloc (.cells #[.int .i64 y.t, .int .i64 y.p, .int .i64 y.n] 64)) pN 64 #[.int .i64 y.t, .int .i64 y.p, .int .i64 y.n] := by rw [hpN]; exact Blk.new wA _ _
          go_simp
          rw [← hpN]
          refine hK.out _ _ (fun w' => Below w.heap.size w w' ∧ OwnL smc 3 64 w' w.heap.size v1 pre ∧ Blk w' pN 64 #[.int .i64 y.t, .int .i64 y.p, .int .i64 y.n]) ⟨fun w2 h2 => ⟨(HY.out _ h2.1).1, (HY.out _ h2.1).2.1, (HY.out _ h2.1).2.2⟩, fun w2 w3 h2 hb2 => ⟨h2.1.trans (hb2.mono h2.1.size), OwnL.below h2.2.1 hb2, h2.2.2.below hb2 h2.2.2.lt⟩⟩ ⟨hA.1.alloc hA.1.size _, OwnL.below hA.2 ((Below.refl _ _).alloc (Nat.le_refl _) _), hnew⟩ ?_
          clear hnew hpN hK K hA wA hCalm
          have hCalm : Calm (fun w' => w'.cell? ⟨bb, ob, none⟩ = some (.int .i64 y.t) ∧ w'.cell? ⟨bb, ob + 1, none⟩ = some (.int .i64 y.p) ∧ w'.cell? ⟨bb, ob + 2, none⟩ = some (.int .i64 y.n)) (fun w' => Below w.heap.size w w' ∧ OwnL smc 3 64 w' w.heap.size v1 pre ∧ Blk w' pN 64 #[.int .i64 y.t, .int .i64 y.p, .int .i64 y.n]) := ⟨fun w2 h2 => ⟨(HY.out _ h2.1).1, (HY.out _ h2.1).2.1, (HY.out _ h2.1).2.2⟩, fun w2 w3 h2 hb2 => ⟨h2.1.trans (hb2.mono h2.1.size), OwnL.below h2.2.1 hb2, h2.2.2.below hb2 h2.2.2.lt⟩⟩
          try simp only [Act.put, List.setIfInBounds_toArray, List.set_cons_zero, List.set_cons_succ]
          refine grow_each [5] (by kernel_rfl) (by decide) ?_
          refine grow_cons 5 rfl (by kernel_rfl) (fun wA hA K hK => ?_) grow_nil
          refine wp_append_one apM _ _ rfl w.heap.size v1 pre rfl hA.2.1 pN y rfl hA.2.2 HN6.out (Nat.le_trans (Nat.le_refl _) hA.1.size) ?_
          intro vN w2 hown2 hgrow2
          have hbg := hA.1.grown hgrow2 hA.1.size (fun k e => Nat.le_trans (Nat.le_refl _) (OwnL.block hA.2.1 e))
          refine hK.out _ _ (fun w' => Below w.heap.size w w' ∧ OwnL smc 3 64 w' w.heap.size vN (pre ++ [y])) ⟨fun w2 h2 => ⟨(HY.out _ h2.1).1, (HY.out _ h2.1).2.1, (HY.out _ h2.1).2.2⟩, fun w2 w3 h2 hb2 => ⟨h2.1.trans (hb2.mono h2.1.size), OwnL.below h2.2 hb2⟩⟩ ⟨hbg, hown2⟩ ?_
          clear hbg hown2 hgrow2 hK K hA wA hCalm w2
          have hCalm : Calm (fun w' => w'.cell? ⟨bb, ob, none⟩ = some (.int .i64 y.t) ∧ w'.cell? ⟨bb, ob + 1, none⟩ = some (.int .i64 y.p) ∧ w'.cell? ⟨bb, ob + 2, none⟩ = some (.int .i64 y.n)) (fun w' => Below w.heap.size w w' ∧ OwnL smc 3 64 w' w.heap.size vN (pre ++ [y])) := ⟨fun w2 h2 => ⟨(HY.out _ h2.1).1, (HY.out _ h2.1).2.1, (HY.out _ h2.1).2.2⟩, fun w2 w3 h2 hb2 => ⟨h2.1.trans (hb2.mono h2.1.size), OwnL.below h2.2 hb2⟩⟩
          try simp only [Act.put, List.setIfInBounds_toArray]
          refine grow_take 8 (some 5) ?_ rfl rfl (by kernel_rfl) (fun _ _ _ h => h) (by kernel_rfl) hCalm ?_ ?_
          rotate_left
          · intro wS hS; (try dsimp only at hS); go_simp <;> with_reducible rfl
          try simp only [Act.put]
          refine grow_take 9 (some 1) ?_ rfl rfl (by kernel_rfl) (fun _ _ _ h => h) (by kernel_rfl) hCalm ?_ ?_
          rotate_left
          · intro wS hS; (try dsimp only at hS); go_simp <;> with_reducible rfl
          try simp only [Act.put]
          refine grow_done (by kernel_rfl) (fun wA hA => ?_) _
          have HA6 := Lib.hid hA.1; have HO6 := Lib.hid hA.2; clear hA
          go_wp2_with fail
          all_goals
            have hna := HNA.out; have hnb := HNB.out
            have hpr : pre ++ [y] ++ mrg (x :: a2) b2 = mrg a b := by have h1 := HPR.out; rw [HRR.out] at h1; rw [List.append_assoc]; exact h1
            have hmx := HTB.out.2.2.2
            first
            | have hms : slen (.slice (some ⟨bb, ob, none⟩) (nb - 1) 0) < slen (.slice (some ⟨bb, ob, none⟩) nb 1) := by simp only [slen]; omega
              have hl0 : b2 = [] := List.eq_nil_of_length_eq_zero (by omega)
              subst hl0
              exact ⟨⟨_, _, _, ⟨x :: a2, [], pre ++ [y], some ⟨ba, oa, none⟩, some ⟨bb, ob, none⟩, c', by rw [hna.1]; rfl, 0, by rw [hnb.1]; rfl, HTA.out, ⟨Rz.nil _ _, by simp, (fun _ => rfl), by unfold maxLen; omega⟩, hpr, HO6.out, HA6.out⟩, rfl, rfl, rfl⟩, hms⟩
            | have hms : slen (.slice (some ⟨bb, ob + 3, none⟩) (nb - 1) (d' - 1)) < slen (.slice (some ⟨bb, ob, none⟩) nb d') := by simp only [slen]; omega
              exact ⟨⟨_, _, _, ⟨x :: a2, b2, pre ++ [y], some ⟨ba, oa, none⟩, some ⟨bb, ob + 3, none⟩, c', by rw [hna.1]; rfl, d' - 1, by rw [hnb.1]; rfl, HTA.out, ⟨tz_rest HTB.out.1, by omega, (fun h => by cases h), by omega⟩, hpr, HO6.out, HA6.out⟩, rfl, rfl, rfl⟩, hms⟩
        case false =>
          have HRR := Lib.hid (HRF.out rfl); clear HRT HRF
          go_wp2_with fail
          refine wp_region_grow (S := (fun w' => w'.cell? ⟨ba, oa, none⟩ = some (.int .i64 x.t) ∧ w'.cell? ⟨ba, oa + 1, none⟩ = some (.int .i64 x.p) ∧ w'.cell? ⟨ba, oa + 2, none⟩ = some (.int .i64 x.n))) ((fun w' => Below w.heap.size w w' ∧ OwnL smc 3 64 w' w.heap.size v1 pre)) (by kernel_rfl) (⟨fun w2 h2 => ⟨(HX.out _ h2.1).1, (HX.out _ h2.1).2.1, (HX.out _ h2.1).2.2⟩, fun w2 w3 h2 hb2 => ⟨h2.1.trans (hb2.mono h2.1.size), OwnL.below h2.2 hb2⟩⟩) (⟨HB5.out.drew, OwnL.drew HO5.out⟩) (fun hCalm => ?_)
          refine grow_take 0 (some 35) ?_ rfl rfl (by kernel_rfl) (fun _ _ _ h => h) (by kernel_rfl) hCalm ?_ ?_
          rotate_left
          · intro wS hS; (try dsimp only at hS); go_simp <;> with_reducible rfl
          try simp only [Act.put, List.setIfInBounds_toArray, List.set_cons_zero, List.set_cons_succ]
          refine grow_take 1 (some 36) ?_ rfl rfl (by kernel_rfl) (fun _ _ _ h => h) (by kernel_rfl) hCalm ?_ ?_
          rotate_left
          · intro wS hS; (try dsimp only at hS); go_simp <;> with_reducible rfl
          try simp only [Act.put, List.setIfInBounds_toArray, List.set_cons_zero, List.set_cons_succ]
          refine grow_take 2 (some 37) ?_ rfl rfl (by kernel_rfl) (fun _ _ _ h => h) (by kernel_rfl) hCalm ?_ ?_
          rotate_left
          · intro wS hS; (try dsimp only at hS); go_simp <;> with_reducible rfl
          try simp only [Act.put, List.setIfInBounds_toArray, List.set_cons_zero, List.set_cons_succ]
          refine grow_take 3 (some 38) ?_ rfl rfl (by kernel_rfl) (fun _ _ _ h => h) (by kernel_rfl) hCalm ?_ ?_
          rotate_left
          · intro wS hS; (try dsimp only at hS); go_simp <;> with_reducible rfl
          try simp only [Act.put, List.setIfInBounds_toArray, List.set_cons_zero, List.set_cons_succ]
          refine grow_take 6 (some 41) ?_ rfl rfl (by kernel_rfl) (fun _ _ _ h => h) (by kernel_rfl) hCalm ?_ ?_
          rotate_left
          · intro wS hS; (try dsimp only at hS); go_simp <;> with_reducible rfl
          try simp only [Act.put]
          refine grow_take 7 (some 42) ?_ rfl rfl (by kernel_rfl) (fun _ _ _ h => h) (by kernel_rfl) hCalm ?_ ?_
          rotate_left
          · intro wS hS; (try dsimp only at hS); go_simp <;> with_reducible rfl
          try simp only [Act.put]
          refine grow_each [4] (by kernel_rfl) (by decide) ?_
          refine grow_cons 4 rfl (by kernel_rfl) (fun wA hA K hK => ?_) grow_nil
          obtain ⟨pN, hpN⟩ : ∃ b, b = wA.heap.size := ⟨_, rfl⟩
          have hnew : Blk (wA.alloc (.cells #[.int .i64 x.t, .int .i64 x.p, .int .i64 x.n] 64)) pN 64 #[.int .i64 x.t, .int .i64 x.p, .int .i64 x.n] := by rw [hpN]; exact Blk.new wA _ _
          go_simp
          rw [← hpN]
          refine hK.out _ _ (fun w' => Below w.heap.size w w' ∧ OwnL smc 3 64 w' w.heap.size v1 pre ∧ Blk w' pN 64 #[.int .i64 x.t, .int .i64 x.p, .int .i64 x.n]) ⟨fun w2 h2 => ⟨(HX.out _ h2.1).1, (HX.out _ h2.1).2.1, (HX.out _ h2.1).2.2⟩, fun w2 w3 h2 hb2 => ⟨h2.1.trans (hb2.mono h2.1.size), OwnL.below h2.2.1 hb2, h2.2.2.below hb2 h2.2.2.lt⟩⟩ ⟨hA.1.alloc hA.1.size _, OwnL.below hA.2 ((Below.refl _ _).alloc (Nat.le_refl _) _), hnew⟩ ?_
          clear hnew hpN hK K hA wA hCalm
          have hCalm : Calm (fun w' => w'.cell? ⟨ba, oa, none⟩ = some (.int .i64 x.t) ∧ w'.cell? ⟨ba, oa + 1, none⟩ = some (.int .i64 x.p) ∧ w'.cell? ⟨ba, oa + 2, none⟩ = some (.int .i64 x.n)) (fun w' => Below w.heap.size w w' ∧ OwnL smc 3 64 w' w.heap.size v1 pre ∧ Blk w' pN 64 #[.int .i64 x.t, .int .i64 x.p, .int .i64 x.n]) := ⟨fun w2 h2 => ⟨(HX.out _ h2.1).1, (HX.out _ h2.1).2.1, (HX.out _ h2.1).2.2⟩, fun w2 w3 h2 hb2 => ⟨h2.1.trans (hb2.mono h2.1.size), OwnL.below h2.2.1 hb2, h2.2.2.below hb2 h2.2.2.lt⟩⟩
          try simp only [Act.put, List.setIfInBounds_toArray, List.set_cons_zero, List.set_cons_succ]
          refine grow_each [5] (by kernel_rfl) (by decide) ?_
          refine grow_cons 5 rfl (by kernel_rfl) (fun wA hA K hK => ?_) grow_nil
          refine wp_append_one apM _ _ rfl w.heap.size v1 pre rfl hA.2.1 pN x rfl hA.2.2 HN6.out (Nat.le_trans (Nat.le_refl _) hA.1.size) ?_
          intro vN w2 hown2 hgrow2
          have hbg := hA.1.grown hgrow2 hA.1.size (fun k e => Nat.le_trans (Nat.le_refl _) (OwnL.block hA.2.1 e))
          refine hK.out _ _ (fun w' => Below w.heap.size w w' ∧ OwnL smc 3 64 w' w.heap.size vN (pre ++ [x])) ⟨fun w2 h2 => ⟨(HX.out _ h2.1).1, (HX.out _ h2.1).2.1, (HX.out _ h2.1).2.2⟩, fun w2 w3 h2 hb2 => ⟨h2.1.trans (hb2.mono h2.1.size), OwnL.below h2.2 hb2⟩⟩ ⟨hbg, hown2⟩ ?_
          clear hbg hown2 hgrow2 hK K hA wA hCalm w2
          have hCalm : Calm (fun w' => w'.cell? ⟨ba, oa, none⟩ = some (.int .i64 x.t) ∧ w'.cell? ⟨ba, oa + 1, none⟩ = some (.int .i64 x.p) ∧ w'.cell? ⟨ba, oa + 2, none⟩ = some (.int .i64 x.n)) (fun w' => Below w.heap.size w w' ∧ OwnL smc 3 64 w' w.heap.size vN (pre ++ [x])) := ⟨fun w2 h2 => ⟨(HX.out _ h2.1).1, (HX.out _ h2.1).2.1, (HX.out _ h2.1).2.2⟩, fun w2 w3 h2 hb2 => ⟨h2.1.trans (hb2.mono h2.1.size), OwnL.below h2.2 hb2⟩⟩
          try simp only [Act.put, List.setIfInBounds_toArray]
          refine grow_take 8 (some 5) ?_ rfl rfl (by kernel_rfl) (fun _ _ _ h => h) (by kernel_rfl) hCalm ?_ ?_
          rotate_left
          · intro wS hS; (try dsimp only at hS); go_simp <;> with_reducible rfl
          try simp only [Act.put]
          refine grow_take 9 (some 0) ?_ rfl rfl (by kernel_rfl) (fun _ _ _ h => h) (by kernel_rfl) hCalm ?_ ?_
          rotate_left
          · intro wS hS; (try dsimp only at hS); go_simp <;> with_reducible rfl
          try simp only [Act.put]
          refine grow_done (by kernel_rfl) (fun wA hA => ?_) _
          have HA6 := Lib.hid hA.1; have HO6 := Lib.hid hA.2; clear hA
          go_wp2_with fail
          all_goals
            have hna := HNA.out; have hnb := HNB.out
            have hpr : pre ++ [x] ++ mrg a2 (y :: b2) = mrg a b := by have h1 := HPR.out; rw [HRR.out] at h1; rw [List.append_assoc]; exact h1
            have hmx := HTA.out.2.2.2
            first
            | have hms : slen (.slice (some ⟨ba, oa, none⟩) (na - 1) 0) < slen (.slice (some ⟨ba, oa, none⟩) na 1) := by simp only [slen]; omega
              have hl0 : a2 = [] := List.eq_nil_of_length_eq_zero (by omega)
              subst hl0
              exact ⟨⟨_, _, _, ⟨[], y :: b2, pre ++ [x], some ⟨ba, oa, none⟩, some ⟨bb, ob, none⟩, 0, by rw [hna.1]; rfl, d', by rw [hnb.1]; rfl, ⟨Rz.nil _ _, by simp, (fun _ => rfl), by unfold maxLen; omega⟩, HTB.out, hpr, HO6.out, HA6.out⟩, rfl, rfl, rfl⟩, hms⟩
            | have hms : slen (.slice (some ⟨ba, oa + 3, none⟩) (na - 1) (c' - 1)) < slen (.slice (some ⟨ba, oa, none⟩) na c') := by simp only [slen]; omega
              exact ⟨⟨_, _, _, ⟨a2, y :: b2, pre ++ [x], some ⟨ba, oa + 3, none⟩, some ⟨bb, ob, none⟩, c' - 1, by rw [hna.1]; rfl, d', by rw [hnb.1]; rfl, ⟨tz_rest HTA.out.1, by omega, (fun h => by cases h), by omega⟩, HTB.out, hpr, HO6.out, HA6.out⟩, rfl, rfl, rfl⟩, hms⟩
end Go.Proofs.Ytbcgfohacbapoaa
