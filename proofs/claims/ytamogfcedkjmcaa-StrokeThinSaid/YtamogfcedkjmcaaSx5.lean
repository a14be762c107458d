
/- The example of the chapter: the stroke, and what is so of it. No conditions. -/
import Derived.Test.YtamogfcedkjmcaaFw5
import Derived.Test.YtamogfcedkjmcaaKq5
import Derived.Test.YtamogfcedkjmcaaPb5
import Derived.Test.YtamogfcedkjmcaaWi5
import Derived.Test.YtamogfcedkjmcaaPm5
namespace Go.Proofs.Ytamogfcedkjmcaa
open Go.RowKit Go.Lib Go.Shelf

/-- The dots of the example. -/
def exds : List Dt := [⟨0, 0, 0, 0⟩, ⟨50, 2, 0, 0⟩, ⟨100, 0, 0, 0⟩, ⟨100, 60, 0, 0⟩, ⟨101, 100, 0, 0⟩]
theorem ex_len : exds.length = 5 := rfl
theorem ex_vd : Vd 2 7 exds := by
  refine ⟨by omega, by omega, by rw [ex_len]; omega, fun i hi => ?_⟩
  rw [ex_len] at hi
  have h : i = 0 ∨ i = 1 ∨ i = 2 ∨ i = 3 ∨ i = 4 := by omega
  rcases h with rfl | rfl | rfl | rfl | rfl <;> (intro d hd; simp [exds] at hd; subst hd; exact ⟨by decide, fun e he => by simp [exds] at he; subst he; decide⟩)
theorem ex_box : IsBox exds 0 0 101 100 := by
  refine ⟨fun d hd => ?_, ⟨⟨0, 0, 0, 0⟩, by simp [exds], rfl⟩, ⟨⟨101, 100, 0, 0⟩, by simp [exds], rfl⟩, ⟨⟨0, 0, 0, 0⟩, by simp [exds], rfl⟩, ⟨⟨101, 100, 0, 0⟩, by simp [exds], rfl⟩⟩
  simp only [exds, List.mem_cons, List.not_mem_nil, or_false] at hd
  rcases hd with rfl | rfl | rfl | rfl | rfl <;> simp
theorem ex_way : wayL exds = 200 := by decide
theorem wy_inv {B : Nat → Nat → Prop} {k : Nat} {l : List Nat} (h : Wy B k l) : (k = 0 ∧ l = [0]) ∨ ∃ i r, i < k ∧ Wy B i r ∧ B i k ∧ l = r ++ [k] := by
  cases h with
  | base => exact .inl ⟨rfl, rfl⟩
  | step h1 h2 h3 => exact .inr ⟨_, _, h2, h1, h3, rfl⟩
theorem wy0 {B : Nat → Nat → Prop} {l : List Nat} (h : Wy B 0 l) : l = [0] := by
  rcases wy_inv h with ⟨_, h⟩ | ⟨i, r, h1, _⟩
  · exact h
  · omega
theorem wy1 {B : Nat → Nat → Prop} {l : List Nat} (h : Wy B 1 l) : l = [0, 1] ∧ B 0 1 := by
  rcases wy_inv h with ⟨h, _⟩ | ⟨i, r, h1, h2, h3, rfl⟩
  · omega
  · obtain rfl : i = 0 := by omega
    rw [wy0 h2]; exact ⟨rfl, h3⟩
theorem wy2 {B : Nat → Nat → Prop} {l : List Nat} (h : Wy B 2 l) : (l = [0, 2] ∧ B 0 2) ∨ (l = [0, 1, 2] ∧ B 0 1 ∧ B 1 2) := by
  rcases wy_inv h with ⟨h, _⟩ | ⟨i, r, h1, h2, h3, rfl⟩
  · omega
  · have h : i = 0 ∨ i = 1 := by omega
    rcases h with rfl | rfl
    · rw [wy0 h2]; exact .inl ⟨rfl, h3⟩
    · rw [(wy1 h2).1]; exact .inr ⟨rfl, (wy1 h2).2, h3⟩
theorem wy3 {B : Nat → Nat → Prop} {l : List Nat} (h : Wy B 3 l) : (l = [0, 3] ∧ B 0 3) ∨ (l = [0, 1, 3] ∧ B 0 1 ∧ B 1 3) ∨ (l = [0, 2, 3] ∧ B 0 2 ∧ B 2 3) ∨ (l = [0, 1, 2, 3] ∧ B 0 1 ∧ B 1 2 ∧ B 2 3) := by
  rcases wy_inv h with ⟨h, _⟩ | ⟨i, r, h1, h2, h3, rfl⟩
  · omega
  · have h : i = 0 ∨ i = 1 ∨ i = 2 := by omega
    rcases h with rfl | rfl | rfl
    · rw [wy0 h2]; exact .inl ⟨rfl, h3⟩
    · rw [(wy1 h2).1]; exact .inr (.inl ⟨rfl, (wy1 h2).2, h3⟩)
    · rcases wy2 h2 with ⟨rfl, h4⟩ | ⟨rfl, h4, h5⟩
      · exact .inr (.inr (.inl ⟨rfl, h4, h3⟩))
      · exact .inr (.inr (.inr ⟨rfl, h4, h5, h3⟩))
theorem wy4 {B : Nat → Nat → Prop} {l : List Nat} (h : Wy B 4 l) : (l = [0, 4] ∧ B 0 4) ∨ (l = [0, 1, 4] ∧ B 0 1 ∧ B 1 4) ∨ (l = [0, 2, 4] ∧ B 0 2 ∧ B 2 4) ∨ (l = [0, 1, 2, 4] ∧ B 0 1 ∧ B 1 2 ∧ B 2 4) ∨
    (l = [0, 3, 4] ∧ B 0 3) ∨ (l = [0, 1, 3, 4] ∧ B 1 3) ∨ (l = [0, 2, 3, 4] ∧ B 0 2) ∨ l = [0, 1, 2, 3, 4] := by
  rcases wy_inv h with ⟨h, _⟩ | ⟨i, r, h1, h2, h3, rfl⟩
  · omega
  · have h : i = 0 ∨ i = 1 ∨ i = 2 ∨ i = 3 := by omega
    rcases h with rfl | rfl | rfl | rfl
    · rw [wy0 h2]; exact .inl ⟨rfl, h3⟩
    · rw [(wy1 h2).1]; exact .inr (.inl ⟨rfl, (wy1 h2).2, h3⟩)
    · rcases wy2 h2 with ⟨rfl, h4⟩ | ⟨rfl, h4, h5⟩
      · exact .inr (.inr (.inl ⟨rfl, h4, h3⟩))
      · exact .inr (.inr (.inr (.inl ⟨rfl, h4, h5, h3⟩)))
    · rcases wy3 h2 with ⟨rfl, h4⟩ | ⟨rfl, h4, h5⟩ | ⟨rfl, h4, h5⟩ | ⟨rfl, h4⟩
      · exact .inr (.inr (.inr (.inr (.inl ⟨rfl, h4⟩))))
      · exact .inr (.inr (.inr (.inr (.inr (.inl ⟨rfl, h5⟩)))))
      · exact .inr (.inr (.inr (.inr (.inr (.inr (.inl ⟨rfl, h4⟩))))))
      · exact .inr (.inr (.inr (.inr (.inr (.inr (.inr rfl))))))
theorem ex_at {i k n : Nat} {z : Int} {d e f : Dt} (h1 : exds[i]? = some d) (h2 : exds[k]? = some e) (h3 : exds[n]? = some f) (hi : i < n) (hk : n < k) (hn : ¬ NearP d.x d.y e.x e.y f.x f.y z) : ¬ BetwP exds z i k := fun h => hn (h n hi hk d e f h1 h2 h3)
theorem ex_one {i : Nat} {z : Int} {d e f : Dt} (h1 : exds[i]? = some d) (h2 : exds[i + 2]? = some e) (h3 : exds[i + 1]? = some f) (hn : NearP d.x d.y e.x e.y f.x f.y z) : BetwP exds z i (i + 2) := fun n h4 h5 a b c ha hb hc => by
  obtain rfl : n = i + 1 := by omega
  rw [h1, Option.some.injEq] at ha; rw [h2, Option.some.injEq] at hb; rw [h3, Option.some.injEq] at hc
  subst ha; subst hb; subst hc; exact hn
theorem ex_thin2 : IsThin (BetwP exds 2) 4 [0, 2, 4] := by
  have b02 : BetwP exds 2 0 2 := ex_one rfl rfl rfl (by decide)
  have b24 : BetwP exds 2 2 4 := ex_one rfl rfl rfl (by decide)
  have b04 : ¬ BetwP exds 2 0 4 := ex_at (n := 2) rfl rfl rfl (by omega) (by omega) (by decide)
  have b14 : ¬ BetwP exds 2 1 4 := ex_at (n := 2) rfl rfl rfl (by omega) (by omega) (by decide)
  refine ⟨.step (.step .base (by omega) b02) (by omega) b24, fun m hm => ?_⟩
  rcases wy4 hm with ⟨rfl, h⟩ | ⟨rfl, _, h⟩ | ⟨rfl, h⟩ | ⟨rfl, h⟩ | ⟨rfl, h⟩ | ⟨rfl, h⟩ | ⟨rfl, h⟩ | rfl
  · exact absurd h b04
  · exact absurd h b14
  · exact Le.refl _
  · exact .inl (by decide)
  · exact .inr ⟨rfl, .inr (by decide)⟩
  · exact .inl (by decide)
  · exact .inl (by decide)
  · exact .inl (by decide)
theorem ex_thin1 : IsThin (BetwP exds 1) 4 [0, 1, 2, 4] := by
  have b24 : BetwP exds 1 2 4 := ex_one rfl rfl rfl (by decide)
  have b02 : ¬ BetwP exds 1 0 2 := ex_at (n := 1) rfl rfl rfl (by omega) (by omega) (by decide)
  have b04 : ¬ BetwP exds 1 0 4 := ex_at (n := 2) rfl rfl rfl (by omega) (by omega) (by decide)
  have b14 : ¬ BetwP exds 1 1 4 := ex_at (n := 2) rfl rfl rfl (by omega) (by omega) (by decide)
  have b03 : ¬ BetwP exds 1 0 3 := ex_at (n := 2) rfl rfl rfl (by omega) (by omega) (by decide)
  refine ⟨.step (.step (.step .base (by omega) (betw_next _ _ _)) (by omega) (betw_next _ _ _)) (by omega) b24, fun m hm => ?_⟩
  rcases wy4 hm with ⟨rfl, h⟩ | ⟨rfl, _, h⟩ | ⟨rfl, h, _⟩ | ⟨rfl, h⟩ | ⟨rfl, h⟩ | ⟨rfl, h⟩ | ⟨rfl, h⟩ | rfl
  · exact absurd h b04
  · exact absurd h b14
  · exact absurd h b02
  · exact Le.refl _
  · exact absurd h b03
  · exact .inr ⟨rfl, .inr (by decide)⟩
  · exact .inr ⟨rfl, .inr (by decide)⟩
  · exact .inl (by decide)
theorem ex_thin0 : IsThin (BetwP exds 0) 4 [0, 1, 2, 3, 4] := by
  have b02 : ¬ BetwP exds 0 0 2 := ex_at (n := 1) rfl rfl rfl (by omega) (by omega) (by decide)
  have b24 : ¬ BetwP exds 0 2 4 := ex_at (n := 3) rfl rfl rfl (by omega) (by omega) (by decide)
  have b04 : ¬ BetwP exds 0 0 4 := ex_at (n := 2) rfl rfl rfl (by omega) (by omega) (by decide)
  have b14 : ¬ BetwP exds 0 1 4 := ex_at (n := 2) rfl rfl rfl (by omega) (by omega) (by decide)
  have b03 : ¬ BetwP exds 0 0 3 := ex_at (n := 2) rfl rfl rfl (by omega) (by omega) (by decide)
  have b13 : ¬ BetwP exds 0 1 3 := ex_at (n := 2) rfl rfl rfl (by omega) (by omega) (by decide)
  refine ⟨.step (.step (.step (.step .base (by omega) (betw_next _ _ _)) (by omega) (betw_next _ _ _)) (by omega) (betw_next _ _ _)) (by omega) (betw_next _ _ _), fun m hm => ?_⟩
  rcases wy4 hm with ⟨rfl, h⟩ | ⟨rfl, _, h⟩ | ⟨rfl, h, _⟩ | ⟨rfl, _, _, h⟩ | ⟨rfl, h⟩ | ⟨rfl, h⟩ | ⟨rfl, h⟩ | rfl
  · exact absurd h b04
  · exact absurd h b14
  · exact absurd h b02
  · exact absurd h b24
  · exact absurd h b03
  · exact absurd h b13
  · exact absurd h b02
  · exact Le.refl _
theorem ex_turned : exds.map (trn (qrt 1)) = [⟨4095, 0, 0, 0⟩, ⟨4093, 50, 0, 0⟩, ⟨4095, 100, 0, 0⟩, ⟨4035, 100, 0, 0⟩, ⟨3995, 101, 0, 0⟩] := by decide
theorem ex_moved : exds.map (mvd 1 2) = [⟨1, 2, 0, 0⟩, ⟨51, 4, 0, 0⟩, ⟨101, 2, 0, 0⟩, ⟨101, 62, 0, 0⟩, ⟨102, 102, 0, 0⟩] := by decide
theorem ex_kept : keptD exds [0, 2, 4] = [⟨0, 0, 0, 0⟩, ⟨100, 0, 0, 0⟩, ⟨101, 100, 0, 0⟩] := by decide
theorem ex_keptP : KeptP 2 7 exds [0, 2, 4] := by
  refine ⟨ex_vd, by rw [ex_len]; exact ⟨by decide, by decide⟩, fun i hi => ?_⟩
  have h : i = 0 ∨ i = 1 ∨ i = 2 := by have : i < 3 := hi; omega
  rw [ex_len]
  rcases h with rfl | rfl | rfl
  · intro k hk; simp at hk; subst hk; exact ⟨by omega, fun h => absurd h (by omega)⟩
  · intro k hk; simp at hk; subst hk; exact ⟨by omega, fun _ a ha => by simp at ha; omega⟩
  · intro k hk; simp at hk; subst hk; exact ⟨by omega, fun _ a ha => by simp at ha; omega⟩
theorem ex_keptN : ¬ KeptP 2 7 exds [] := fun h => by have := h.2.1.1; simp at this
theorem ex_movP : MovP 2 7 exds 1 2 := by
  refine ⟨ex_vd, by omega, fun d hd => ?_⟩
  simp only [exds, List.mem_cons, List.not_mem_nil, or_false] at hd
  rcases hd with rfl | rfl | rfl | rfl | rfl <;> decide
theorem ex_within : WithinP 2 7 exds 52 3 2 := ⟨ex_vd, 1, by decide, _, _, rfl, rfl, by decide⟩
theorem ex_near3 : NearP 0 0 100 0 50 3 3 := by decide
theorem ex_near2 : ¬ NearP 0 0 100 0 50 3 2 := by decide
set_option maxRecDepth 100000 in
set_option maxHeartbeats 8000000 in
theorem example_any (w : World) :
    Calls Try.prog 40 #[] w fun e w' => ∃ A, e = .returned (.agg #[.int .i64 2, .int .i64 7, .slice A 5 5]) ∧ Dz w' A exds ∧ Below w.heap.size w w' := by
  go_enter Try.func40, Try.ntmps40
  go_wp2_with fail
  have h := Blk.new (w.alloc (.cells #[.int .i64 2, .int .i64 7, .slice (some ⟨w.heap.size + 1, 0, none⟩) 5 5] 27)) 24 (flat exds).toArray
  rw [World.size_alloc] at h
  exact bodyPost_ret (v := .agg #[.int .i64 2, .int .i64 7, .slice (some ⟨w.heap.size + 1, 0, none⟩) 5 5]) (by simp [results, Try.results40, go_sem]) rfl ⟨_, rfl, dz_of_blk h, ((Below.refl _ _).alloc (Nat.le_refl _) _).alloc (by simp) _⟩
end Go.Proofs.Ytamogfcedkjmcaa
