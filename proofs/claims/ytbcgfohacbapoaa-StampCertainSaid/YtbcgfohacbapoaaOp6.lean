
/- How an argument is opened that is a slice of arrays of ints. No conditions. -/
import Derived.Test.YtbcgfohacbapoaaOq5
import Derived.Test.YtbcgfohacbapoaaXz6
import Derived.Deep.Slices
namespace Go.Proofs.Ytbcgfohacbapoaa
open Go.ChangeShapes Go.WideShapes Go.ChangeAt Go.WideMaps Go.WideElems Go.RowKit

theorem add_plain (b o i : Nat) : (⟨b, o, none⟩ : Addr).add i = ⟨b, o + i, none⟩ := by unfold Addr.add; split <;> simp_all
theorem cells_at {w : World} {base : Nat} {a : Addr} {n : Nat} {cs : List Value} (h : w.cells? base a n = some cs) : cs.length = n ∧ ∀ i, i < n → w.cell? (a.add i) = cs[i]? := by
  unfold World.cells? at h
  split at h
  · refine ⟨by simpa using mapM_some_length h, fun i hi => ?_⟩
    have := mapM_some_get h i i (by simp [hi])
    exact this
  · cases h
section
variable {H : Type} {enc : TypeId × Value → H} {P : Program} {W : World} {bs : Nat} {sp : Nat → Bool} {held : Bool}
/-- An array's cells, read as ints. -/
theorem ints_cells {t e : TypeId} {n m : Nat} {cs : List Value} {x : DataW H × List MemPlace} (ht : P.underlying t = some (.array m e)) (he : P.underlying e = some (.int .i64)) (hc : P.cellsOf e = 1) (h : DataW.trod enc P W bs sp held n t cs = some x) :
    ∀ j, j < m → ∃ z : Int, cs[j]? = some (.int .i64 z) ∧ -9223372036854775808 ≤ z ∧ z ≤ 9223372036854775807 := fun j hj => by
  obtain ⟨xs, k, -, -, -, hxl, hall⟩ := DataW.trod_array ht h
  have h1 := hall j hj
  rw [hc, List.getElem?_eq_getElem (by omega)] at h1
  obtain ⟨z, h2, -, h4⟩ := DataW.trod_int he h1
  refine ⟨z, ?_, wf_int h4⟩
  have := congrArg (·[0]?) h2
  simpa [List.getElem?_take, List.getElem?_drop] using this
theorem open_rows {b0 : Nat} {r : Reach} {t e f : TypeId} {v : Value} {d : DataW H} {p : List MemPlace}
    {m0 : Nat} (hm0 : 0 < m0) (ht : P.underlying t = some (.slice e)) (he : P.underlying e = some (.array m0 f)) (hf : P.underlying f = some (.int .i64)) (hc : P.cellsOf f = 1) (hce : P.cellsOf e = m0) (hval : Value.okWide P W r b0 t v) (hd : DataW.Trod enc P W bs sp held t v d p) :
    ∃ (A : Option Addr) (n c : Nat), v = .slice A n c ∧ Xz m0 W A n ∧ n ≤ 9223372036854775807 := by
  obtain ⟨a0, len, cap, rfl⟩ := okWide_slice ht hval
  obtain ⟨fuel, hf2⟩ := hd
  rcases Go.Deep.open_slice ht hf2 with ⟨hcs, hx⟩ | ⟨a, len', cap', m, n, D, Pl, hcs, _, hl, hm, hmm, hx, hel⟩
  · simp [Value.cells] at hcs
    obtain ⟨rfl, rfl, rfl⟩ := hcs
    exact ⟨none, 0, 0, rfl, fun h => absurd h (by omega), by omega⟩
  · simp [Value.cells] at hcs
    obtain ⟨rfl, rfl, rfl⟩ := hcs
    have hmax : len ≤ 9223372036854775807 := by unfold maxLen at hm; omega
    have hlm : len ≤ m := by rw [hmm]; split <;> omega
    have hat : ∀ i, i < len → ∀ j, j < m0 → ∃ z : Int, W.cell? ((a.add (i * m0)).add j) = some (.int .i64 z) ∧ -9223372036854775808 ≤ z ∧ z ≤ 9223372036854775807 := fun i hi j hj => by
      obtain ⟨cs', h1, h2⟩ := hel i (by omega)
      rw [hce] at h1
      obtain ⟨z, h3, h4⟩ := ints_cells he hf hc h2 j hj
      exact ⟨z, ((cells_at h1).2 j hj).trans h3, h4⟩
    refine ⟨some a, len, cap, rfl, fun hn => ?_, hmax⟩
    obtain ⟨b, o, s⟩ := a
    obtain ⟨z0, hc0, -⟩ := hat 0 (by omega) 0 hm0
    have hs1 : s = none := by
      cases s with
      | none => rfl
      | some k => exact absurd (World.cell?_spot hc0) (by simp [Addr.add])
    subst hs1
    have l1 : b < W.heap.size := by have := World.block_lt_of_cell? W _ hc0; rw [add_plain, add_plain] at this; exact this
    refine ⟨b, o, rfl, l1, fun i hi j hj => ?_⟩
    obtain ⟨u0, c0, r0⟩ := hat i hi j hj
    rw [add_plain, add_plain] at c0
    exact ⟨u0, r0, c0⟩
end
end Go.Proofs.Ytbcgfohacbapoaa
