/- The contract of the reference's Moved. Conditions: the slices read. | The contract of the reference's Turned. Conditions: the slices read. | The contract of the reference's Box. Conditions: the slices read. -/
import Derived.Deep.CutRange
import Derived.Test.YtmjcjaecaigahaaDoorLG
import Derived.Test.YtmjcjaecaigahaaDoorLE
import Derived.Test.YtmjcjaecaigahaaDoorLC
namespace Go.Proofs.YtmjcjaecaigahaaDoor
open Go.RowKit Go.Lib Go.Shelf

/-- A stroke of new dots has been returned, or none. -/
def OutS (ok : Prop) (P N : Int) (es : List Dt) (w : World) (e : Ending) (w' : World) : Prop :=
  ((ok ∧ ∃ v, e = .returned (.tuple #[.agg #[.int .i64 P, .int .i64 N, v], .int .i64 0]) ∧ w'.ownsRow w.heap.size 69 4 v es.length (flat es)) ∨
   (¬ ok ∧ e = .returned (.tuple #[.agg #[.int .i64 0, .int .i64 0, .slice none 0 0], .int .i64 50]))) ∧ Below w.heap.size w w'
theorem OutS.no {ok : Prop} {P N : Int} {es : List Dt} {w : World} {e : Ending} {w' : World} (h : ¬ ok) (he : e = .returned (.tuple #[.agg #[.int .i64 0, .int .i64 0, .slice none 0 0], .int .i64 50])) (hb : Below w.heap.size w w') : OutS ok P N es w e w' := ⟨Or.inr ⟨h, he⟩, hb⟩
/-- A dot that is moved. -/
def mvd (x y : Int) (d : Dt) : Dt := ⟨d.x + x, d.y + y, d.t, d.p⟩
end Go.Proofs.YtmjcjaecaigahaaDoor
namespace Go.Proofs.YtmjcjaecaigahaaDoor
open Go.RowKit Go.Lib Go.Shelf

/-- One of four. -/
def sel4 (k : Nat) (a b c d : Int) : Int := if k = 0 then a else if k = 1 then b else if k = 2 then c else d
/-- A dot that is turned by k quarters. -/
def trn (k : Nat) (d : Dt) : Dt := ⟨sel4 k d.x (4095 - d.y) (4095 - d.x) d.y, sel4 k d.y d.x (4095 - d.y) (4095 - d.x), d.t, d.p⟩
end Go.Proofs.YtmjcjaecaigahaaDoor
namespace Go.Proofs.YtmjcjaecaigahaaDoor
open Go.RowKit Go.Lib Go.Shelf

/-- The least of the first i. -/
def LoP (f : Dt → Int) (ds : List Dt) (i : Nat) (v : Int) : Prop := (∀ j d, j < i → ds[j]? = some d → v ≤ f d) ∧ (i = 0 ∧ v = 5000 ∨ ∃ j d, j < i ∧ ds[j]? = some d ∧ f d = v)
/-- By how much the first i are greater. -/
def HiP (f : Dt → Int) (ds : List Dt) (b : Int) (i : Nat) (v : Int) : Prop := (∀ j d, j < i → ds[j]? = some d → f d - b ≤ v) ∧ 0 ≤ v ∧ (v = 0 ∨ ∃ j d, j < i ∧ ds[j]? = some d ∧ f d - b = v)
theorem LoP.step {f : Dt → Int} {ds : List Dt} {i : Nat} {v u : Int} {d : Dt} (h : LoP f ds i v) (hd : ds[i]? = some d) (h5 : f d ≤ 4095) (hu : u = if f d < v then f d else v) : LoP f ds (i + 1) u := by
  refine ⟨fun j e hj he => ?_, Or.inr ?_⟩
  · by_cases hji : j = i
    · subst hji
      rw [hd, Option.some.injEq] at he
      subst he; rw [hu]; split <;> omega
    · have := h.1 j e (by omega) he
      rw [hu]; split <;> omega
  · by_cases hc : f d < v
    · exact ⟨i, d, by omega, hd, by rw [hu, if_pos hc]⟩
    · rcases h.2 with ⟨h0, h1⟩ | ⟨j, e, hj, he, hv⟩
      · omega
      · exact ⟨j, e, by omega, he, by rw [hu, if_neg hc, hv]⟩
theorem HiP.step {f : Dt → Int} {ds : List Dt} {i : Nat} {b v u : Int} {d : Dt} (h : HiP f ds b i v) (hd : ds[i]? = some d) (hu : u = if v < f d - b then f d - b else v) : HiP f ds b (i + 1) u := by
  refine ⟨fun j e hj he => ?_, by have := h.2.1; rw [hu]; split <;> omega, ?_⟩
  · by_cases hji : j = i
    · subst hji
      rw [hd, Option.some.injEq] at he
      subst he; rw [hu]; split <;> omega
    · have := h.1 j e (by omega) he
      rw [hu]; split <;> omega
  · by_cases hc : v < f d - b
    · exact Or.inr ⟨i, d, by omega, hd, by rw [hu, if_pos hc]⟩
    · rcases h.2.2 with h0 | ⟨j, e, hj, he, hv⟩
      · exact Or.inl (by rw [hu, if_neg hc, h0])
      · exact Or.inr ⟨j, e, by omega, he, by rw [hu, if_neg hc, hv]⟩
/-- The least rectangle around the dots. -/
def IsBox (ds : List Dt) (x y w h : Int) : Prop := (∀ d ∈ ds, (x ≤ d.x ∧ d.x ≤ x + w) ∧ (y ≤ d.y ∧ d.y ≤ y + h)) ∧ (∃ d ∈ ds, d.x = x) ∧ (∃ d ∈ ds, d.x = x + w) ∧ (∃ d ∈ ds, d.y = y) ∧ (∃ d ∈ ds, d.y = y + h)
theorem IsBox.unique {ds : List Dt} {x y w h x2 y2 w2 h2 : Int} (a : IsBox ds x y w h) (b : IsBox ds x2 y2 w2 h2) : x = x2 ∧ y = y2 ∧ w = w2 ∧ h = h2 := by
  obtain ⟨a0, ⟨d1, m1, e1⟩, ⟨d2, m2, e2⟩, ⟨d3, m3, e3⟩, ⟨d4, m4, e4⟩⟩ := a
  obtain ⟨b0, ⟨f1, n1, g1⟩, ⟨f2, n2, g2⟩, ⟨f3, n3, g3⟩, ⟨f4, n4, g4⟩⟩ := b
  have := b0 _ m1; have := b0 _ m2; have := b0 _ m3; have := b0 _ m4
  have := a0 _ n1; have := a0 _ n2; have := a0 _ n3; have := a0 _ n4
  omega
end Go.Proofs.YtmjcjaecaigahaaDoor
