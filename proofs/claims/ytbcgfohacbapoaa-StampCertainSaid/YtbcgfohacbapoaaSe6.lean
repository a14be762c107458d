
/- The chapter's example: what the contracts say of it. No conditions. -/
import Derived.Test.YtbcgfohacbapoaaEr6
import Derived.Test.YtbcgfohacbapoaaSx6
namespace Go.Proofs.Ytbcgfohacbapoaa
open Go.RowKit Go.Lib

abbrev l0 : List Sk := [⟨1, 0, 10⟩, ⟨2, -5, 5⟩]
abbrev m0 : List Mt := [⟨1, 108, 2, 100⟩, ⟨1, 200, 2, 201⟩]
abbrev m1 : List Mt := [⟨1, 108, 2, 100⟩]
abbrev t0 : List Sk := [⟨1, 3, 10⟩, ⟨2, -5, 2⟩]
abbrev sa : Sm := ⟨110, 1, 1⟩
abbrev sb : Sm := ⟨103, 2, 1⟩
theorem sk0 : SkOk l0 := fun i hi => by
  match i, hi with
  | 0, _ => intro s hs; simp at hs; subst hs; simp
  | 1, _ => intro s hs; simp at hs; subst hs; simp
  | _ + 2, h => simp at h; omega
theorem pr0 : PrOk l0 m0 := ⟨sk0, by simp, fun m hm => by
  simp at hm
  rcases hm with rfl | rfl
  · exact ⟨by decide, rfl, rfl, by decide, by decide⟩
  · exact ⟨by decide, rfl, rfl, by decide, by decide⟩⟩
theorem pr1 : PrOk l0 m1 := ⟨sk0, by simp, fun m hm => pr0.2.2 m (by simp at hm; simp [hm])⟩
theorem prn : PrOk l0 [] := ⟨sk0, by simp, fun m hm => by cases hm⟩
theorem pr_no : ¬ PrOk [] m0 := fun h => by have := (h.2.2 ⟨1, 108, 2, 100⟩ (by simp)).2.1; cases this
theorem poss0 {ms : List Mt} {A : Int → Int} : Poss l0 ms A ↔ ((0 ≤ A 1 ∧ A 1 ≤ 10) ∧ -5 ≤ A 2 ∧ A 2 ≤ 5) ∧ ∀ m ∈ ms, A m.a - A m.b = m.ta - m.tb := by
  unfold Poss; simp
theorem tt0 : IsTt l0 m1 t0 := by
  refine ⟨rfl, ⟨fun q => if q = 1 then 3 else -5, poss0.2 ?_, ?_⟩, ⟨fun q => if q = 1 then 10 else 2, poss0.2 ?_, ?_⟩, fun A hA s hs => ?_⟩
  · simp
  · simp
  · simp
  · simp
  · have h := poss0.1 hA
    have h2 := h.2 ⟨1, 108, 2, 100⟩ (by simp)
    dsimp only at h2
    simp at hs
    rcases hs with rfl | rfl
    · dsimp only; omega
    · dsimp only; omega
theorem fe1 : Feas l0 m1 := by obtain ⟨L, hL, _⟩ := tt0.2.1; exact ⟨L, hL⟩
theorem fen : Feas l0 [] := feas_nil sk0
theorem fe_no : ¬ Feas l0 m0 := fun ⟨A, hA⟩ => by
  have h1 := hA.2 ⟨1, 108, 2, 100⟩ (by simp); have h2 := hA.2 ⟨1, 200, 2, 201⟩ (by simp)
  dsimp only at h1 h2; omega
theorem told_a : Told l0 sa := ⟨rfl, by decide⟩
theorem told_b : Told l0 sb := ⟨rfl, by decide⟩
theorem or_n : orR l0 [] sa sb = .tuple #[.int .i64 0, .int .i64 0] := by
  have h1 : ¬ Earl l0 [] sa sb := fun h => by
    have := h (fun _ => 0) (poss0.2 (by simp)); simp at this
  have h2 : ¬ Earl l0 [] sb sa := fun h => by
    have := h (fun q => if q = 1 then 10 else -5) (poss0.2 (by simp)); simp at this
  unfold orR; rw [if_pos ⟨prn, fen, told_a, told_b⟩, if_neg h1, if_neg h2]
theorem or_1 : orR l0 m1 sa sb = .tuple #[.int .i64 (-1), .int .i64 0] := by
  have h1 : Earl l0 m1 sa sb := fun A hA => by
    have h2 := hA.2 ⟨1, 108, 2, 100⟩ (by simp)
    dsimp only at h2 ⊢; omega
  unfold orR; rw [if_pos ⟨pr1, fe1, told_a, told_b⟩, if_pos h1]
theorem or_0 : orR l0 m0 sa sb = .tuple #[.int .i64 0, .int .i64 60] := by
  unfold orR; rw [if_neg (fun h => fe_no h.2.1)]
theorem wh_0 : whR l0 1 100 = .tuple #[.agg #[.int .i64 90, .int .i64 101], .int .i64 0] := by
  unfold whR; rw [if_pos ⟨rfl, sk0, by decide⟩]; rfl
theorem nx_0 : nxR [⟨50, 3, 2⟩] 1 7 20 = .tuple #[.agg #[.int .i64 51, .int .i64 1, .int .i64 7], .int .i64 0] := by
  have h : NxOk [⟨50, 3, 2⟩] 1 7 20 := ⟨fun s hs => by simp at hs; subst hs; decide, by decide⟩
  unfold nxR; rw [if_pos h]; rfl
section
variable (W : World) (g1 g2 : Nat) (hk : Kz W (some ⟨g1, 0, none⟩) l0) (hm : Mz W (some ⟨g2, 0, none⟩) m0)
theorem mz1 {W : World} {g2 : Nat} (hm : Mz W (some ⟨g2, 0, none⟩) m0) : Mz W (some ⟨g2, 0, none⟩) m1 := Rz.take hm 1
include hk hm
theorem sane_t1 : Calls Try.prog 54 #[.slice (some ⟨g1, 0, none⟩) 2 2, .slice (some ⟨g2, 0, none⟩) 1 2] W fun e w' => (∃ g, e = .returned (.tuple #[.slice (some ⟨g, 0, none⟩) 2 2, .int .i64 (-1), .int .i64 0]) ∧ Kz w' (some ⟨g, 0, none⟩) t0) ∧ Below W.heap.size W w' := by
  refine (ptight_ok l0 m1 (some ⟨g1, 0, none⟩) (some ⟨g2, 0, none⟩) 2 2 W hk (by simp) (mz1 hm) (by simp) pr1 fe1).mono ?_
  rintro e w' ⟨⟨out, g, rfl, ht, hz⟩, hb⟩
  have := ht.unique tt0
  subst this
  exact ⟨⟨g, rfl, hz⟩, hb⟩
theorem sane_t2 : Calls Try.prog 54 #[.slice (some ⟨g1, 0, none⟩) 2 2, .slice (some ⟨g2, 0, none⟩) 2 2] W fun e w' => e = .returned (.tuple #[.slice none 0 0, .int .i64 1, .int .i64 0]) ∧ Below W.heap.size W w' := by
  refine (ptight_bad l0 m0 (some ⟨g1, 0, none⟩) (some ⟨g2, 0, none⟩) 2 2 W hk (by simp) hm (by simp) (by simp) pr0 fe_no).mono ?_
  rintro e w' ⟨⟨k, hk, rfl, hn, hf⟩, hb⟩
  have h1 : k = 1 := by
    match k, hk with
    | 0, _ => exact absurd fe1 hn
    | 1, _ => rfl
    | _ + 2, h => simp at h; omega
  subst h1
  exact ⟨rfl, hb⟩
theorem sane_o1 : Calls Try.prog 61 #[.slice (some ⟨g1, 0, none⟩) 2 2, .slice (some ⟨g2, 0, none⟩) 1 2, smv sa, smv sb] W fun e w' => e = .returned (.tuple #[.int .i64 (-1), .int .i64 0]) ∧ Below W.heap.size W w' := by
  have := porder_any l0 m1 sa sb (some ⟨g1, 0, none⟩) (some ⟨g2, 0, none⟩) 2 2 W hk (by simp) (mz1 hm) (by simp) (by simp)
  rw [or_1] at this; exact this
theorem sane_o2 : Calls Try.prog 61 #[.slice (some ⟨g1, 0, none⟩) 2 2, .slice (some ⟨g2, 0, none⟩) 2 2, smv sa, smv sb] W fun e w' => e = .returned (.tuple #[.int .i64 0, .int .i64 60]) ∧ Below W.heap.size W w' := by
  have := porder_any l0 m0 sa sb (some ⟨g1, 0, none⟩) (some ⟨g2, 0, none⟩) 2 2 W hk (by simp) hm (by simp) (by simp)
  rw [or_0] at this; exact this
theorem sane_p1 : Calls Try.prog 57 #[.slice (some ⟨g1, 0, none⟩) 2 2, .slice (some ⟨g2, 0, none⟩) 2 2] W fun e w' => e = .returned (.bool true) ∧ Below W.heap.size W w' := by
  have := pproper_any l0 m0 (some ⟨g1, 0, none⟩) (some ⟨g2, 0, none⟩) 2 2 W hk (by simp) hm (by simp)
  rw [decide_eq_true pr0] at this; exact this
omit hk in
theorem sane_p2 : Calls Try.prog 57 #[.slice none 0 0, .slice (some ⟨g2, 0, none⟩) 2 2] W fun e w' => e = .returned (.bool false) ∧ Below W.heap.size W w' := by
  have := pproper_any [] m0 none (some ⟨g2, 0, none⟩) 0 2 W (Rz.nil _ _) (by simp) hm (by simp)
  rw [decide_eq_false pr_no] at this; exact this
omit hm in
theorem sane_o0 : Calls Try.prog 61 #[.slice (some ⟨g1, 0, none⟩) 2 2, .slice none 0 0, smv sa, smv sb] W fun e w' => e = .returned (.tuple #[.int .i64 0, .int .i64 0]) ∧ Below W.heap.size W w' := by
  have := porder_any l0 [] sa sb (some ⟨g1, 0, none⟩) none 2 0 W hk (by simp) (Rz.nil _ _) (by simp) (by simp)
  rw [or_n] at this; exact this
omit hm in
theorem sane_w : Calls Try.prog 59 #[.slice (some ⟨g1, 0, none⟩) 2 2, .int .i64 1, .int .i64 100] W fun e w' => e = .returned (.tuple #[.agg #[.int .i64 90, .int .i64 101], .int .i64 0]) ∧ Below W.heap.size W w' := by
  have := pwhen_any l0 1 100 (some ⟨g1, 0, none⟩) 2 W hk (by simp)
  rw [wh_0] at this; exact this
end
theorem sane_n (W : World) (g : Nat) (h : Smz W (some ⟨g, 0, none⟩) [⟨50, 3, 2⟩]) : Calls Try.prog 46 #[.slice (some ⟨g, 0, none⟩) 1 1, .int .i64 1, .int .i64 7, .int .i64 20] W fun e w' => e = .returned (.tuple #[.agg #[.int .i64 51, .int .i64 1, .int .i64 7], .int .i64 0]) ∧ Below W.heap.size W w' := by
  have := pnext_any [⟨50, 3, 2⟩] 1 7 20 (some ⟨g, 0, none⟩) 1 W h (by simp)
  rw [nx_0] at this; exact this
theorem rz_of_cells {α : Type} {cs : α → List Value} {k : Nat} (hk : ∀ x, (cs x).length = k) {W : World} {g : Nat} {t : TypeId} {l : List α} (h : Blk W g t (l.flatMap cs).toArray) : Rz cs k W (some ⟨g, 0, none⟩) l := fun _ => ⟨g, 0, rfl, h.lt, fun i hi j v hv => by
  refine h.cell (i := 0 + i * k + j) ?_
  rw [List.getElem?_toArray, Nat.zero_add]
  have hj : j < k := by rw [← hk l[i]]; exact (List.getElem?_eq_some_iff.1 hv).1
  clear h
  induction l generalizing i with
  | nil => simp at hi
  | cons x r ih =>
    cases i with
    | zero => rw [List.flatMap_cons, List.getElem?_append_left (by rw [hk]; omega)]; simpa using hv
    | succ i =>
      rw [List.flatMap_cons, List.getElem?_append_right (by rw [hk, Nat.add_mul]; omega), show (i + 1) * k + j - (cs x).length = i * k + j from by rw [hk, Nat.add_mul]; omega]
      simp only [List.length_cons] at hi
      exact ih (by omega) i (by omega) (by simpa using hv)⟩
end Go.Proofs.Ytbcgfohacbapoaa
