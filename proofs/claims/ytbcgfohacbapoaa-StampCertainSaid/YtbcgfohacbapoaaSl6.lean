
/- Slices of stamps, skews and meetings in memory. No conditions. -/
import Derived.Test.YtbcgfohacbapoaaSo6
import Derived.Test.YtbcgfohacbapoaaOwn5
namespace Go.Proofs.Ytbcgfohacbapoaa
open Go.RowKit Go.Lib

/-- The cells. -/
def skc (s : Sk) : List Value := [.int .i64 s.p, .int .i64 s.lo, .int .i64 s.hi]
def smc (s : Sm) : List Value := [.int .i64 s.t, .int .i64 s.p, .int .i64 s.n]
def mtc (m : Mt) : List Value := [.int .i64 m.a, .int .i64 m.ta, .int .i64 m.b, .int .i64 m.tb]
/-- The slice's cells are those of the elements, k each. -/
def Rz {α : Type} (cs : α → List Value) (k : Nat) (w : World) (A : Option Addr) (l : List α) : Prop :=
  0 < l.length → ∃ b o, A = some ⟨b, o, none⟩ ∧ b < w.heap.size ∧ ∀ i (h : i < l.length) j v, (cs l[i])[j]? = some v → w.cell? ⟨b, o + i * k + j, none⟩ = some v
section
variable {α : Type} {cs : α → List Value} {k : Nat} {w w' : World} {A : Option Addr} {l : List α}
theorem Rz.below {B : Nat} (h : Rz cs k w A l) (hb : Below B w w') (hB : w.heap.size ≤ B) : Rz cs k w' A l := fun hn => by
  obtain ⟨b, o, e, hl, hc⟩ := h hn
  have hl2 : b < B := Nat.lt_of_lt_of_le hl hB
  exact ⟨b, o, e, Nat.lt_of_lt_of_le hl hb.size, fun i hi j v hv => (hb.cell (p := ⟨b, _, none⟩) hl2).trans (hc i hi j v hv)⟩
theorem Rz.nil (w : World) (A : Option Addr) : Rz cs k w A ([] : List α) := fun h => absurd h (by simp)
theorem Rz.some (h : Rz cs k w A l) (hn : 0 < l.length) : ∃ b o, A = some ⟨b, o, none⟩ := by obtain ⟨b, o, e, _⟩ := h hn; exact ⟨b, o, e⟩
theorem Rz.here {b o : Nat} (h : Rz cs k w (Option.some ⟨b, o, none⟩) l) {i : Nat} (hi : i < l.length) : b < w.heap.size := by
  obtain ⟨b', o', e, hl, _⟩ := h (by omega); cases e; exact hl
theorem Rz.at {b o : Nat} (h : Rz cs k w (Option.some ⟨b, o, none⟩) l) {i : Nat} (hi : i < l.length) {j : Nat} {v : Value} (hv : (cs l[i])[j]? = Option.some v) : w.cell? ⟨b, o + i * k + j, none⟩ = Option.some v := by
  obtain ⟨b', o', e, _, hc⟩ := h (by omega); cases e; exact hc i hi j v hv
theorem Rz.cells {W : World} {B : Nat} {b o : Nat} (h : Rz cs k w (Option.some ⟨b, o, none⟩) l) (hb : Below B w W) (hB : w.heap.size ≤ B) {i : Nat} (hi : i < l.length) {j : Nat} {v : Value} (hv : (cs l[i])[j]? = Option.some v) : W.cell? ⟨b, o + i * k + j, none⟩ = Option.some v :=
  (h.below hb hB).at hi hv
/-- A part of a slice. -/
theorem Rz.drop {b o : Nat} (h : Rz cs k w (Option.some ⟨b, o, none⟩) l) (n : Nat) : Rz cs k w (Option.some ⟨b, o + n * k, none⟩) (l.drop n) := fun hn => by
  simp only [List.length_drop] at hn
  refine ⟨b, o + n * k, rfl, h.here (i := n) (by omega), fun i hi j v hv => ?_⟩
  simp only [List.length_drop] at hi
  rw [List.getElem_drop] at hv
  have := h.at (i := n + i) (by omega) hv
  rwa [show o + (n + i) * k + j = o + n * k + i * k + j from by rw [Nat.add_mul]; omega] at this
theorem Rz.take (h : Rz cs k w A l) (n : Nat) : Rz cs k w A (l.take n) := fun hn => by
  simp only [List.length_take] at hn
  obtain ⟨b, o, e, hl, hc⟩ := h (by omega)
  refine ⟨b, o, e, hl, fun i hi j v hv => ?_⟩
  simp only [List.length_take] at hi
  rw [List.getElem_take] at hv
  exact hc i (by omega) j v hv
end
abbrev Kz := Rz skc 3
abbrev Smz := Rz smc 3
abbrev Mz := Rz mtc 4
section
variable {w w' : World} {b o : Nat}
theorem Kz.cell {B : Nat} {l : List Sk} (h : Kz w (some ⟨b, o, none⟩) l) (hb : Below B w w') (hB : w.heap.size ≤ B) {i : Nat} (hi : i < l.length) : w'.cell? ⟨b, o + i * 3, none⟩ = some (.int .i64 l[i].p) ∧ w'.cell? ⟨b, o + i * 3 + 1, none⟩ = some (.int .i64 l[i].lo) ∧ w'.cell? ⟨b, o + i * 3 + 2, none⟩ = some (.int .i64 l[i].hi) :=
  ⟨h.cells hb hB hi (j := 0) rfl, h.cells hb hB hi (j := 1) rfl, h.cells hb hB hi (j := 2) rfl⟩
theorem Smz.cell {B : Nat} {l : List Sm} (h : Smz w (some ⟨b, o, none⟩) l) (hb : Below B w w') (hB : w.heap.size ≤ B) {i : Nat} (hi : i < l.length) : w'.cell? ⟨b, o + i * 3, none⟩ = some (.int .i64 l[i].t) ∧ w'.cell? ⟨b, o + i * 3 + 1, none⟩ = some (.int .i64 l[i].p) ∧ w'.cell? ⟨b, o + i * 3 + 2, none⟩ = some (.int .i64 l[i].n) :=
  ⟨h.cells hb hB hi (j := 0) rfl, h.cells hb hB hi (j := 1) rfl, h.cells hb hB hi (j := 2) rfl⟩
theorem Mz.cell {B : Nat} {l : List Mt} (h : Mz w (some ⟨b, o, none⟩) l) (hb : Below B w w') (hB : w.heap.size ≤ B) {i : Nat} (hi : i < l.length) : w'.cell? ⟨b, o + i * 4, none⟩ = some (.int .i64 l[i].a) ∧ w'.cell? ⟨b, o + i * 4 + 1, none⟩ = some (.int .i64 l[i].ta) ∧ w'.cell? ⟨b, o + i * 4 + 2, none⟩ = some (.int .i64 l[i].b) ∧ w'.cell? ⟨b, o + i * 4 + 3, none⟩ = some (.int .i64 l[i].tb) :=
  ⟨h.cells hb hB hi (j := 0) rfl, h.cells hb hB hi (j := 1) rfl, h.cells hb hB hi (j := 2) rfl, h.cells hb hB hi (j := 3) rfl⟩
end
/-- What has been appended or made, read as a slice. -/
theorem Rz.of_own {α : Type} {cs : α → List Value} {k : Nat} (hk : ∀ x, (cs x).length = k) {W : World} {B n : Nat} {e : TypeId} {v : Value} {l : List α} (h : W.ownsRow B e k v n (l.flatMap cs)) (h0 : 0 < k) : n = l.length ∧ ∃ A c, v = .slice A l.length c ∧ Rz cs k W A l := by
  have hlen : (l.flatMap cs).length = l.length * k := by
    clear h
    induction l with
    | nil => simp
    | cons x r ih => simp only [List.flatMap_cons, List.length_append, List.length_cons, hk, ih]; rw [Nat.add_mul]; omega
  have hn : n = l.length := by
    have := h.1; rw [hlen] at this
    exact (Nat.eq_of_mul_eq_mul_right h0 this).symm
  subst hn
  refine ⟨rfl, ?_⟩
  rcases h.2 with ⟨rfl, h0⟩ | ⟨g, cap, cur, rfl, hB, hg, hc1, hc2, hs, ht⟩
  · exact ⟨none, 0, by rw [h0], fun hh => absurd hh (by omega)⟩
  · refine ⟨_, _, rfl, fun _ => ⟨g, 0, rfl, (Array.getElem?_eq_some_iff.1 hg).1, fun i hi j v hv => ?_⟩⟩
    have hjk : j < k := by rw [← hk l[i]]; exact (List.getElem?_eq_some_iff.1 hv).1
    have key : (l.flatMap cs)[i * k + j]? = Option.some v := by
      clear h ht hg hB hc1 hc2 hs hlen
      induction l generalizing i with
      | nil => simp at hi
      | cons x r ih =>
        cases i with
        | zero =>
          rw [List.flatMap_cons, List.getElem?_append_left (by rw [hk]; omega)]
          simpa using hv
        | succ i =>
          rw [List.flatMap_cons, List.getElem?_append_right (by rw [hk, Nat.add_mul]; omega), show (i + 1) * k + j - (cs x).length = i * k + j from by rw [hk, Nat.add_mul]; omega]
          exact ih (by simp only [List.length_cons] at hi; omega) i (by simpa using hi) (by simpa using hv)
    have h3 : cur[0 + i * k + j]? = Option.some v := by
      have hlt : i * k + j < l.length * k := by
        have : (i + 1) * k ≤ l.length * k := Nat.mul_le_mul_right k hi
        rw [Nat.add_mul] at this; omega
      rw [← ht, List.getElem?_take_of_lt hlt] at key
      rw [Nat.zero_add]; simpa using key
    exact Blk.cell (show Blk W g e cur from hg) h3
end Go.Proofs.Ytbcgfohacbapoaa
