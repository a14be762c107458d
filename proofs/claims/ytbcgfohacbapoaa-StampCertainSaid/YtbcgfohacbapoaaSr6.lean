
/- The contracts of Sorted and Next. Conditions: the slices read, at most 1000 stamps. -/
import Derived.Test.YtbcgfohacbapoaaMg6
namespace Go.Proofs.Ytbcgfohacbapoaa
open Go.RowKit Go.Lib

/-- A slice that a law may hand on. -/
def SlA (w : World) (A : Option Addr) (c : Nat) (l : List Sm) : Prop := Smz w A l ∧ l.length ≤ c ∧ (A = none → c = 0) ∧ c ≤ maxLen
set_option maxRecDepth 100000 in
set_option maxHeartbeats 8000000 in
theorem psorted_few (l : List Sm) (A : Option Addr) (c : Nat) (w : World) (hA : SlA w A c l) (h2 : l.length < 2) :
    Calls Try.prog 43 #[.slice A l.length c] w fun e w' => (∃ out, IsSrt l out ∧ SlR out w.heap.size e w') ∧ Below w.heap.size w w' := by
  have HA := Lib.hid hA; have HN := Lib.hid h2
  have q1 : (l.length : Int) < 2 := by omega
  clear hA h2
  go_enter Try.func43, Try.ntmps43
  go_wp2_with (at_builtin; refine wpList_append_all apM rfl _ _ rfl w.heap.size _ ([] : List Sm) rfl (OwnL.nil _ _) A c l rfl HA.out.1 HA.out.2.2.1 (by have := HN.out; simp; omega) (Nat.le_refl _) ?_; intro v2 w2 hown2 hgrow2; have HO2 := Lib.hid hown2; have HB2 := Lib.hid ((Below.refl w.heap.size w).grown hgrow2 (Nat.le_refl _) (fun k e => by cases e)); clear hown2 hgrow2)
  go_ret
  refine ⟨⟨l, IsSrt.few HN.out, ?_⟩, HB2.out⟩
  obtain ⟨A3, c3, hv, hz, hc, hn, hm⟩ := OwnL.read apM HO2.out
  have hbk : ∀ b o, A3 = some ⟨b, o, none⟩ → w.heap.size ≤ b := fun b o e => OwnL.block HO2.out (by rw [hv, e]; rfl)
  rw [List.nil_append] at hv hz hc
  exact ⟨A3, c3, by rw [hv]; rfl, hz, hc, hn, hbk, hm⟩
set_option maxRecDepth 100000 in
set_option maxHeartbeats 8000000 in
theorem psorted_more (l : List Sm) (A : Option Addr) (c : Nat) (w : World) (hA : SlA w A c l) (h2 : ¬ l.length < 2) (hl : l.length ≤ 1000)
    (ih : ∀ (l' : List Sm) (A' : Option Addr) (c' : Nat) (w' : World), l'.length < l.length → SlA w' A' c' l' → Calls Try.prog 43 #[.slice A' l'.length c'] w' fun e w'' => (∃ out, IsSrt l' out ∧ SlR out w'.heap.size e w'') ∧ Below w'.heap.size w' w'') :
    Calls Try.prog 43 #[.slice A l.length c] w fun e w' => (∃ out, IsSrt l out ∧ SlR out w.heap.size e w') ∧ Below w.heap.size w w' := by
  obtain ⟨b, o, rfl⟩ := hA.1.some (by omega)
  obtain ⟨n, hn⟩ : ∃ n, n = l.length := ⟨_, rfl⟩
  obtain ⟨h, hh⟩ : ∃ h, h = n / 2 := ⟨_, rfl⟩
  have hc := hA.2.1; have hcm := hA.2.2.2
  have l1 : (l.take h).length = h := by rw [List.length_take]; omega
  have l2 : (l.drop h).length = n - h := by rw [List.length_drop, hn]
  have HC1 := Lib.hid (fun W (hb : Below w.heap.size w W) => by
    have := ih (l.take h) (some ⟨b, o, none⟩) c W (by omega) ⟨(hA.1.below hb (Nat.le_refl _)).take h, by omega, by simp, hcm⟩
    rw [l1] at this; exact this)
  have HC2 := Lib.hid (fun W (hb : Below w.heap.size w W) => by
    have := ih (l.drop h) (some ⟨b, o + h * 3, none⟩) (c - h) W (by omega) ⟨(hA.1.below hb (Nat.le_refl _)).drop h, by omega, by simp, by omega⟩
    rw [l2] at this; exact this)
  have HLN : Hid (∀ o1 o2 : List Sm, IsSrt (l.take h) o1 → IsSrt (l.drop h) o2 → o1.length ≤ 1000 ∧ o2.length ≤ 1000 ∧ IsSrt l (mrg o1 o2)) := Lib.hid (fun o1 o2 g1 g2 => by
    have e1 := g1.1.length_eq; have e2 := g2.1.length_eq
    refine ⟨by omega, by omega, ?_⟩
    have := g1.merge g2; rwa [List.take_append_drop] at this)
  have q0 : ¬ (n : Int) < 2 := by omega
  have e1 : (n : Int).tdiv 2 = (h : Int) := by rw [hh, Int.tdiv_eq_ediv_of_nonneg (by omega)]; omega
  have e2 : IntKind.i64.wrap (h : Int) = (h : Int) := IntWalk.i64_in _ (by omega)
  have q1 : (0 : Int) ≤ (h : Int) := by omega
  have q2 : (h : Int) ≤ (c : Int) := by omega
  have q3 : (h : Int) ≤ (n : Int) := by omega
  have q4 : (n : Int) ≤ (c : Int) := by omega
  have q5 : ¬ c - h = 0 := by omega
  have q6 : ¬ c = h := by omega
  rw [← hn]
  clear hh hn hc hcm l1 l2 hA h2 hl ih
  go_enter Try.func43, Try.ntmps43
  go_wp2_with fail
  refine wp_region_grow (S := (fun _ => True)) ((fun w' => Below w.heap.size w w')) (by kernel_rfl) (⟨fun _ _ => trivial, fun w2 w3 h2 hb2 => h2.trans (hb2.mono h2.size)⟩) ((Below.refl _ _).drew) (fun hCalm => ?_)
  refine grow_take 0 (some 12) ?_ rfl rfl (by kernel_rfl) (fun _ _ _ h => h) (by kernel_rfl) hCalm ?_ ?_
  rotate_left
  · intro wS hS; (try dsimp only at hS); go_simp <;> with_reducible rfl
  try simp only [Act.put, List.setIfInBounds_toArray, List.set_cons_zero, List.set_cons_succ]
  refine grow_take 1 (some 13) ?_ rfl rfl (by kernel_rfl) (fun _ _ _ h => h) (by kernel_rfl) hCalm ?_ ?_
  rotate_left
  · intro wS hS; (try dsimp only at hS); go_simp <;> with_reducible rfl
  try simp only [Act.put, List.setIfInBounds_toArray, List.set_cons_zero, List.set_cons_succ]
  refine grow_take 2 (some 14) ?_ rfl rfl (by kernel_rfl) (fun _ _ _ h => h) (by kernel_rfl) hCalm ?_ ?_
  rotate_left
  · intro wS hS; (try dsimp only at hS); go_simp <;> with_reducible rfl
  try simp only [Act.put, List.setIfInBounds_toArray, List.set_cons_zero, List.set_cons_succ]
  refine grow_take 4 (some 16) ?_ rfl rfl (by kernel_rfl) (fun _ _ _ h => h) (by kernel_rfl) hCalm ?_ ?_
  rotate_left
  · intro wS hS; (try dsimp only at hS); go_simp <;> with_reducible rfl
  try simp only [Act.put, List.setIfInBounds_toArray, List.set_cons_zero, List.set_cons_succ]
  refine grow_take 5 (some 17) ?_ rfl rfl (by kernel_rfl) (fun _ _ _ h => h) (by kernel_rfl) hCalm ?_ ?_
  rotate_left
  · intro wS hS; (try dsimp only at hS); go_simp <;> with_reducible rfl
  try simp only [Act.put, List.setIfInBounds_toArray, List.set_cons_zero, List.set_cons_succ]
  refine grow_take 6 (some 18) ?_ rfl rfl (by kernel_rfl) (fun _ _ _ h => h) (by kernel_rfl) hCalm ?_ ?_
  rotate_left
  · intro wS hS; (try dsimp only at hS); go_simp <;> with_reducible rfl
  try simp only [Act.put, List.setIfInBounds_toArray, List.set_cons_zero, List.set_cons_succ]
  refine grow_each [3] (by kernel_rfl) (by decide) ?_
  refine grow_cons 3 rfl (by kernel_rfl) (fun wA hA K hK => ?_) grow_nil
  go_simp
  refine (HC1.out _ hA).mono ?_
  rintro e v ⟨⟨o1, hs1, A1, c1, rfl, hz1, hc1, hn1, hb1, hm1⟩, hb⟩
  have HQ1 := Lib.hid (And.intro hs1 (And.intro hc1 (And.intro hn1 hm1))); clear hs1 hc1 hn1 hb1 hm1
  refine hK.out _ _ (fun w' => Below w.heap.size w w' ∧ Smz w' A1 o1) ⟨fun _ _ => trivial, fun w2 w3 h2 hb2 => ⟨h2.1.trans (hb2.mono h2.1.size), h2.2.below hb2 (Nat.le_refl _)⟩⟩ ⟨hA.trans (hb.mono hA.size), hz1⟩ ?_
  clear hb hz1 hK K hA wA hCalm
  have hCalm : Calm (fun _ => True) (fun w' => Below w.heap.size w w' ∧ Smz w' A1 o1) := ⟨fun _ _ => trivial, fun w2 w3 h2 hb2 => ⟨h2.1.trans (hb2.mono h2.1.size), h2.2.below hb2 (Nat.le_refl _)⟩⟩
  try simp only [Act.put, List.setIfInBounds_toArray, List.set_cons_zero, List.set_cons_succ]
  refine grow_each [7] (by kernel_rfl) (by decide) ?_
  refine grow_cons 7 rfl (by kernel_rfl) (fun wA hA K hK => ?_) grow_nil
  go_simp
  refine (HC2.out _ hA.1).mono ?_
  rintro e v ⟨⟨o2, hs2, A2, c2, rfl, hz2, hc2, hn2, hb2, hm2⟩, hb⟩
  have HQ2 := Lib.hid (And.intro hs2 (And.intro hc2 (And.intro hn2 hm2))); clear hs2 hc2 hn2 hb2 hm2
  refine hK.out _ _ (fun w' => Below w.heap.size w w' ∧ Smz w' A1 o1 ∧ Smz w' A2 o2) ⟨fun _ _ => trivial, fun w2 w3 h2 hb2 => ⟨h2.1.trans (hb2.mono h2.1.size), h2.2.1.below hb2 (Nat.le_refl _), h2.2.2.below hb2 (Nat.le_refl _)⟩⟩ ⟨hA.1.trans (hb.mono hA.1.size), hA.2.below hb (Nat.le_refl _), hz2⟩ ?_
  clear hb hz2 hK K hA wA hCalm
  have hCalm : Calm (fun _ => True) (fun w' => Below w.heap.size w w' ∧ Smz w' A1 o1 ∧ Smz w' A2 o2) := ⟨fun _ _ => trivial, fun w2 w3 h2 hb2 => ⟨h2.1.trans (hb2.mono h2.1.size), h2.2.1.below hb2 (Nat.le_refl _), h2.2.2.below hb2 (Nat.le_refl _)⟩⟩
  try simp only [Act.put, List.setIfInBounds_toArray, List.set_cons_zero, List.set_cons_succ]
  refine grow_each [8] (by kernel_rfl) (by decide) ?_
  refine grow_cons 8 rfl (by kernel_rfl) (fun wA hA K hK => ?_) grow_nil
  go_simp
  have hlen := HLN.out o1 o2 HQ1.out.1 HQ2.out.1
  refine (pmerged_any o1 o2 A1 A2 c1 c2 wA hA.2.1 hA.2.2 HQ1.out.2.1 HQ2.out.2.1 HQ1.out.2.2.1 HQ2.out.2.2.1 HQ1.out.2.2.2 HQ2.out.2.2.2 hlen.1 hlen.2.1).mono ?_
  rintro e v ⟨⟨A3, c3, rfl, hz3, hc3, hn3, hb3, hm3⟩, hb⟩
  have hbb := hA.1
  have HQ3 := Lib.hid (And.intro hlen.2.2 (And.intro hc3 (And.intro hn3 (And.intro (show ∀ b o, A3 = some ⟨b, o, none⟩ → w.heap.size ≤ b from fun b o e => Nat.le_trans hbb.size (hb3 b o e)) hm3)))); clear hlen hc3 hn3 hb3 hm3
  refine hK.out _ _ (fun w' => Below w.heap.size w w' ∧ Smz w' A3 (mrg o1 o2)) ⟨fun _ _ => trivial, fun w2 w3 h2 hb2 => ⟨h2.1.trans (hb2.mono h2.1.size), h2.2.below hb2 (Nat.le_refl _)⟩⟩ ⟨hbb.trans (hb.mono hbb.size), hz3⟩ ?_
  clear hb hz3 hbb hK K hA wA hCalm
  have hCalm : Calm (fun _ => True) (fun w' => Below w.heap.size w w' ∧ Smz w' A3 (mrg o1 o2)) := ⟨fun _ _ => trivial, fun w2 w3 h2 hb2 => ⟨h2.1.trans (hb2.mono h2.1.size), h2.2.below hb2 (Nat.le_refl _)⟩⟩
  try simp only [Act.put, List.setIfInBounds_toArray, List.set_cons_zero, List.set_cons_succ]
  refine grow_take 9 (some 2) ?_ rfl rfl (by kernel_rfl) (fun _ _ _ h => h) (by kernel_rfl) hCalm ?_ ?_
  rotate_left
  · intro wS hS; (try dsimp only at hS); go_simp <;> with_reducible rfl
  try simp only [Act.put, List.setIfInBounds_toArray, List.set_cons_zero, List.set_cons_succ]
  refine grow_done (by kernel_rfl) (fun wA hA => ?_) _
  have HA9 := Lib.hid hA; clear hA
  go_wp2_with fail
  go_ret
  exact ⟨⟨mrg o1 o2, HQ3.out.1, A3, c3, rfl, HA9.out.2, HQ3.out.2⟩, HA9.out.1⟩
theorem psorted_any (l : List Sm) (A : Option Addr) (c : Nat) (w : World) (hA : SlA w A c l) (hl : l.length ≤ 1000) : Calls Try.prog 43 #[.slice A l.length c] w fun e w' => (∃ out, IsSrt l out ∧ SlR out w.heap.size e w') ∧ Below w.heap.size w w' := by
  have key : ∀ (n : Nat) (l : List Sm) (A : Option Addr) (c : Nat) (w : World), l.length ≤ n → SlA w A c l → l.length ≤ 1000 → Calls Try.prog 43 #[.slice A l.length c] w fun e w' => (∃ out, IsSrt l out ∧ SlR out w.heap.size e w') ∧ Below w.heap.size w w' := by
    intro n
    induction n with
    | zero => intro l A c w h0 hA _; exact psorted_few l A c w hA (by omega)
    | succ n ih =>
      intro l A c w h0 hA hl
      by_cases h2 : l.length < 2
      · exact psorted_few l A c w hA h2
      · exact psorted_more l A c w hA h2 hl (fun l' A' c' w' hlt hA' => ih l' A' c' w' (by omega) hA' (by omega))
  exact key l.length l A c w (Nat.le_refl _) hA hl
end Go.Proofs.Ytbcgfohacbapoaa
