/- redrawn, for both of its element types: what change makes of each element. Conditions: the slices read; what change does. | The contracts of Moved and Turned, and of what they do to a dot. Conditions: the slices read. | The contract of Kept. Conditions: the slices read. -/
import Derived.Test.YtmjcjaecaigahaaDoorLH
import Derived.Test.YtmjcjaecaigahaaDoorLC
import Derived.Test.YtmjcjaecaigahaaDoorLK
import Derived.Test.YtmjcjaecaigahaaDoorLF
import Derived.Test.YtmjcjaecaigahaaDoorLL
namespace Go.Proofs.YtmjcjaecaigahaaDoor
open Go.RowKit Go.Lib Go.Shelf

/-- A stroke of such dots has been returned, or none. -/
def OutT (ok : Prop) (P N : Int) (es : List Dt) (w : World) (e : Ending) (w' : World) : Prop :=
  ((ok ∧ ∃ A c, e = .returned (.tuple #[.agg #[.int .i64 P, .int .i64 N, .slice A es.length c], .int .i64 0]) ∧ Dz w' A es ∧ (∀ b o, A = some ⟨b, o, none⟩ → w.heap.size ≤ b) ∧ es.length ≤ c) ∨
   (¬ ok ∧ e = .returned (.tuple #[.agg #[.int .i64 0, .int .i64 0, .slice none 0 0], .int .i64 50]))) ∧ Below w.heap.size w w'
theorem OutS.out {ok : Prop} {P N : Int} {es : List Dt} {w w' : World} {e : Ending} (h : OutS ok P N es w e w') : OutT ok P N es w e w' := by
  obtain ⟨h1, hb⟩ := h
  refine ⟨?_, hb⟩
  rcases h1 with ⟨h2, v, rfl, ho⟩ | h2
  · obtain ⟨_, A, c, rfl, hd⟩ := Dz.of_own ho
    have hcp : es.length ≤ c := by
      rcases ho.2 with ⟨_, h0⟩ | ⟨g, cap, cur, he, _, _, hc, _⟩
      · omega
      · cases he; exact hc
    exact .inl ⟨h2, A, c, rfl, hd, fun b o he => (by subst he; exact own_base ho b rfl), hcp⟩
  · exact .inr h2
theorem dz_of_blk {W : World} {g : Nat} {ds : List Dt} (h : Blk W g 69 (flat ds).toArray) : Dz W (some ⟨g, 0, none⟩) ds := fun _ => ⟨g, 0, rfl, h.lt, fun i hi => by
  have key : ∀ k v, k < 4 → (dcs ds[i])[k]? = some v → W.cell? ⟨g, 0 + i * 4 + k, none⟩ = some v := fun k v hk hv => by
    refine h.cell (i := 0 + i * 4 + k) ?_
    rw [List.getElem?_toArray, Nat.zero_add, flat_at ds i k hi hk, hv]
  exact ⟨key 0 _ (by omega) rfl, key 1 _ (by omega) rfl, key 2 _ (by omega) rfl, key 3 _ (by omega) rfl⟩⟩
end Go.Proofs.YtmjcjaecaigahaaDoor
namespace Go.Proofs.YtmjcjaecaigahaaDoor
open Go.RowKit Go.Lib Go.Shelf

end Go.Proofs.YtmjcjaecaigahaaDoor
namespace Go.Proofs.YtmjcjaecaigahaaDoor
open Go.RowKit Go.Lib Go.Shelf

/-- Strictly ascending indices. -/
def AscP (n : Nat) (l : List Int) : Prop := ∀ i, i < l.length → OkK n l i
theorem AscP.at {n : Nat} {l : List Int} (h : AscP n l) : ∀ (i : Nat) (k : Int), l[i]? = some k → (i : Int) ≤ k ∧ k < n
  | 0, k, hk => by
    have h1 := h 0 (List.getElem?_eq_some_iff.1 hk).1 k hk
    omega
  | i + 1, k, hk => by
    have hl := (List.getElem?_eq_some_iff.1 hk).1
    have h1 := h (i + 1) hl k hk
    have h2 : l[i]? = some l[i] := List.getElem?_eq_getElem (by omega)
    have h3 := AscP.at h i _ h2
    have h4 := h1.2 (by omega) _ h2
    omega
theorem AscP.len {n : Nat} {l : List Int} (h : AscP n l) : l.length ≤ n := by
  by_cases h0 : l.length = 0
  · omega
  · have h1 := h.at (l.length - 1) _ (List.getElem?_eq_getElem (by omega))
    omega
end Go.Proofs.YtmjcjaecaigahaaDoor
