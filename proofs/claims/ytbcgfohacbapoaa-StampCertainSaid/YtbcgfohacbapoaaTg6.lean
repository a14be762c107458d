
/- The contracts of first and of what Tight asks it for. Conditions: the slices read. -/
import Derived.Test.YtbcgfohacbapoaaFl6
namespace Go.Proofs.Ytbcgfohacbapoaa
open Go.RowKit Go.Lib

set_option maxRecDepth 100000 in
set_option maxHeartbeats 4000000 in
theorem pfirst_any (last : Nat) (F : FuncId) (cs : List Value) (P : Nat → Bool) (w : World) (hl : last ≤ 1000) (hcf : ∀ args w, (callFunc F args).run Try.prog w = .ok (.enter F args) w) (hP : P last = true) (hm : ∀ j k, j ≤ k → P j = true → P k = true)
    (hF : ∀ W, Below w.heap.size w W → ∀ k : Nat, k ≤ last → Calls Try.prog F (.int .i64 (k : Nat) :: cs).toArray W fun e W' => e = .returned (.bool (P k)) ∧ Below W.heap.size W W') :
    Calls Try.prog 94 #[.int .i64 (last : Nat), .func (.func F) #[] cs.toArray] w fun e w' => (∃ k : Nat, k ≤ last ∧ e = .returned (.int .i64 k) ∧ P k = true ∧ ∀ j, j < k → P j = false) ∧ Below w.heap.size w w' := by
  have HF := Lib.hid hF; have HM := Lib.hid hm; have HP := Lib.hid hP; have HL := Lib.hid hl; have HCF := Lib.hid hcf
  clear hF hm hP hl hcf
  go_enter Try.func94, Try.ntmps94
  go_wp2_with fail
  go_loopw [0, 5] (fun bb aa wr => ∃ a b : Nat, bb = .int .i64 b ∧ aa = .int .i64 a ∧ a ≤ b ∧ b ≤ last ∧ P b = true ∧ (∀ j, j < a → P j = false) ∧ Below w.heap.size w wr) (fun bb aa _ => (intOf bb).toNat - (intOf aa).toNat)
  case atStart => exact ⟨0, last, rfl, rfl, Nat.zero_le _, Nat.le_refl _, HP.out, fun j hj => absurd hj (by omega), Below.refl _ _⟩
  case round =>
    obtain ⟨a, b, rfl, rfl, hab, hb, hPb, hno, hB⟩ := hrel
    have HNO := Lib.hid hno; have HB := Lib.hid hB; have HPB := Lib.hid hPb; clear hno hB hPb
    by_cases hlt : a < b
    case neg =>
      obtain rfl : a = b := by omega
      have HBL := Lib.hid hb
      clear hlt hab hb
      go_wp2_with fail
      go_ret
      exact ⟨⟨a, HBL.out, rfl, HPB.out, HNO.out⟩, HB.out⟩
    case pos =>
      have hbl := HL.out
      have q1 : (a : Int) < (b : Int) := by omega
      obtain ⟨m, hmm⟩ : ∃ m, m = (a + b) / 2 := ⟨_, rfl⟩
      have e1 : IntKind.i64.wrap ((a : Int) + (b : Int)) = (a : Int) + (b : Int) := IntWalk.i64_in _ (by omega)
      have e2 : ((a : Int) + (b : Int)).tdiv 2 = (m : Int) := by rw [hmm, Int.tdiv_eq_ediv_of_nonneg (by omega)]; omega
      have e3 : IntKind.i64.wrap (m : Int) = (m : Int) := IntWalk.i64_in _ (by omega)
      have e4 : IntKind.i64.wrap ((m : Int) + 1) = (m : Int) + 1 := IntWalk.i64_in _ (by omega)
      have HI : Hid (a ≤ m ∧ m < b ∧ b ≤ last) := Lib.hid (by omega)
      have HC := Lib.hid (HF.out wr HB.out m (by omega))
      obtain ⟨r, hr⟩ : ∃ r, r = P m := ⟨_, rfl⟩
      rw [← hr] at HC
      have HR := Lib.hid hr
      have hcf := HCF.out
      clear hmm hlt hab hb hbl hr
      go_wp2_with fail
      refine HC.out.mono ?_
      rintro e v0 ⟨rfl, hb⟩
      have HB0 := Lib.hid (HB.out.trans (hb.mono HB.out.size)); clear hb HC hcf
      cases r
      case true =>
        go_wp2_with fail
        go_roundw
        case rel => exact ⟨a, m, rfl, rfl, HI.out.1, by have := HI.out; omega, HR.out.symm, HNO.out, HB0.out⟩
        case measure => have := HI.out; simp [intOf]; omega
      case false =>
        have HN2 : Hid (∀ j, j < m + 1 → P j = false) := Lib.hid (fun j hj => by
          cases h : P j
          · rfl
          · have h2 := HM.out j m (by omega) h
            rw [← HR.out] at h2; cases h2)
        go_wp2_with fail
        go_roundw
        case rel => exact ⟨m + 1, b, rfl, by go_num, by have := HI.out; omega, HI.out.2.2, HPB.out, HN2.out, HB0.out⟩
        case measure => have := HI.out; simp [intOf]; omega
set_option maxRecDepth 100000 in
set_option maxHeartbeats 4000000 in
theorem ptight1_any (l : List Sk) (ms : List Mt) (A : Option Addr) (c b o d : Nat) (bk bm k : Nat) (w : World) (hA : Kz w A l) (hs : SkOk l) (hB : Mz w (some ⟨b, o, none⟩) ms) (hm : MtOk l ms) (hk : k < ms.length) (hd : ms.length ≤ d) (hbk : bk < w.heap.size) (hbm : bm < w.heap.size)
    (hc1 : w.cell? ⟨bk, 0, none⟩ = some (.slice A l.length c)) (hc2 : w.cell? ⟨bm, 0, none⟩ = some (.slice (some ⟨b, o, none⟩) ms.length d)) :
    Calls Try.prog 93 #[.int .i64 (k : Nat), .pointer (some ⟨bk, 0, none⟩), .pointer (some ⟨bm, 0, none⟩)] w fun e w' => e = .returned (.bool (!decide (Feas l (ms.take (k + 1))))) ∧ Below w.heap.size w w' := by
  have hl60 := hm.1
  have htl : (ms.take (k + 1)).length = k + 1 := by simp; omega
  have HBY := Lib.hid (fun W (hb : Below w.heap.size w W) => pbyperson_any l A c W (hA.below hb (Nat.le_refl _)) hs.prs)
  have HNA := Lib.hid (fun W (hb : Below w.heap.size w W) mb (hM : MapB W mb l.length (who l) (byP l)) => by
    have h := pnar_any l (ms.take (k + 1)) mb (some ⟨b, o, none⟩) d W hM hs (hm.take (k + 1)) ((hB.below hb (Nat.le_refl _)).take (k + 1))
    rw [htl] at h
    exact h)
  have HCB := Lib.hid (fun W (hb : Below w.heap.size w W) => (show W.cell? ⟨bk, 0, none⟩ = some (.slice A l.length c) ∧ W.cell? ⟨bm, 0, none⟩ = some (.slice (some ⟨b, o, none⟩) ms.length d) from ⟨(hb.cell (p := ⟨bk, 0, none⟩) hbk).trans hc1, (hb.cell (p := ⟨bm, 0, none⟩) hbm).trans hc2⟩))
  have e1 : IntKind.i64.wrap ((k : Int) + 1) = ((k + 1 : Nat) : Int) := by rw [IntWalk.i64_in _ (by omega)]; omega
  obtain ⟨k1, hk1⟩ : ∃ k1, k1 = k + 1 := ⟨_, rfl⟩
  rw [← hk1] at e1 HNA
  rw [← hk1]
  have q1 : (0 : Int) ≤ (k1 : Int) := by omega
  have q2 : (k1 : Int) ≤ (d : Int) := by omega
  have HS0 : Hid (w.drew.cell? ⟨bk, 0, none⟩ = some (.slice A l.length c) ∧ w.drew.cell? ⟨bm, 0, none⟩ = some (.slice (some ⟨b, o, none⟩) ms.length d)) := Lib.hid (HCB.out w.drew (Below.refl _ _).drew)
  clear hA hs hB hm hk hd hbk hbm hc1 hc2 htl hk1 hl60
  go_enter Try.func93, Try.ntmps93
  go_wp2_with fail
  refine wp_region_held_drew (S := (fun w' => w'.cell? ⟨bk, 0, none⟩ = some (.slice A l.length c) ∧ w'.cell? ⟨bm, 0, none⟩ = some (.slice (some ⟨b, o, none⟩) ms.length d))) (by kernel_rfl) (HS0.out) (fun hHeld => ?_)
  refine held_take 0 (some 5) ?_ rfl rfl (by kernel_rfl) (fun _ _ _ h => h) (by kernel_rfl) ?_ (by assumption) ?_
  rotate_left
  · intro wS hS; (try dsimp only at hS); go_simp <;> with_reducible rfl
  try simp only [Act.put, List.setIfInBounds_toArray, List.set_cons_zero, List.set_cons_succ]
  refine held_take 2 (some 7) ?_ rfl rfl (by kernel_rfl) (fun _ _ _ h => h) (by kernel_rfl) ?_ (by assumption) ?_
  rotate_left
  · intro wS hS; (try dsimp only at hS); go_simp <;> with_reducible rfl
  try simp only [Act.put, List.setIfInBounds_toArray, List.set_cons_zero, List.set_cons_succ]
  refine held_take 3 (some 8) ?_ rfl rfl (by kernel_rfl) (fun _ _ _ h => h) (by kernel_rfl) ?_ (by assumption) ?_
  rotate_left
  · intro wS hS; (try dsimp only at hS); go_simp <;> with_reducible rfl
  try simp only [Act.put, List.setIfInBounds_toArray, List.set_cons_zero, List.set_cons_succ]
  refine held_take 4 (some 9) ?_ rfl rfl (by kernel_rfl) (fun _ _ _ h => h) (by kernel_rfl) ?_ (by assumption) ?_
  rotate_left
  · intro wS hS; (try dsimp only at hS); go_simp <;> with_reducible rfl
  try simp only [Act.put, List.setIfInBounds_toArray, List.set_cons_zero, List.set_cons_succ]
  refine held_take 5 (some 10) ?_ rfl rfl (by kernel_rfl) (fun _ _ _ h => h) (by kernel_rfl) ?_ (by assumption) ?_
  rotate_left
  · intro wS hS; (try dsimp only at hS); go_simp <;> with_reducible rfl
  try simp only [Act.put, List.setIfInBounds_toArray, List.set_cons_zero, List.set_cons_succ]
  refine held_call 1 (some 6) 91 [.tmp 5] #[80] rfl rfl (by kernel_rfl) (by kernel_rfl) rfl (enters_of Try.func91 (by kernel_rfl) rfl) (HBY.out _ (Below.refl _ _).drew) (by kernel_rfl) ?_
  rintro e wq ⟨rfl, hM1, hb1⟩
  have HM1 := Lib.hid hM1
  have HB1 := Lib.hid ((Below.refl w.heap.size w).drew.trans hb1)
  refine ⟨_, rfl, (HCB.out _ HB1.out), ?_⟩
  have hHeld := (HCB.out _ HB1.out)
  try simp only [Act.put, List.setIfInBounds_toArray, List.set_cons_zero, List.set_cons_succ]
  refine held_call 6 (some 11) 92 [.tmp 6, .tmp 10] #[124, 82] rfl rfl (by kernel_rfl) (by kernel_rfl) rfl (enters_of Try.func92 (by kernel_rfl) rfl) (HNA.out _ HB1.out _ HM1.out) (by kernel_rfl) ?_
  rintro e wq ⟨F2, rfl, hM2, hG2, -⟩
  have HB2 := Lib.hid (HB1.out.grown hG2 HB1.out.size (fun k e => by cases e; exact Nat.le_refl _))
  refine ⟨_, rfl, (HCB.out _ HB2.out), ?_⟩
  have hHeld := (HCB.out _ HB2.out)
  try simp only [Act.put, List.setIfInBounds_toArray, List.set_cons_zero, List.set_cons_succ]
  refine held_take 7 (some 12) ?_ rfl rfl (by kernel_rfl) (fun _ _ _ h => h) (by kernel_rfl) ?_ (by assumption) ?_
  rotate_left
  · intro wS hS; (try dsimp only at hS); go_simp <;> with_reducible rfl
  try simp only [Act.put, List.setIfInBounds_toArray, List.set_cons_zero, List.set_cons_succ]
  refine held_take 8 (some 4) ?_ rfl rfl (by kernel_rfl) (fun _ _ _ h => h) (by kernel_rfl) ?_ (by assumption) ?_
  rotate_left
  · intro wS hS; (try dsimp only at hS); go_simp <;> with_reducible rfl
  try simp only [Act.put, List.setIfInBounds_toArray, List.set_cons_zero, List.set_cons_succ]
  refine wpAnyH_done (by kernel_rfl) ?_ _
  go_wp2_with fail
  go_ret
  exact ⟨rfl, HB2.out⟩
end Go.Proofs.Ytbcgfohacbapoaa
