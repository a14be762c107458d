/- How an argument is opened that is an array of ints. No conditions. | How an argument is opened that is an array of six ints, and one that is a slice of arrays of three ints. No conditions. -/
import Derived.Deep.Slices
import Derived.Test.YtmjcjaecaigahaaDoorLB
import Derived.Test.YtmjcjaecaigahaaDoorLQ
namespace Go.Proofs.YtmjcjaecaigahaaDoor
open Go.ChangeShapes Go.WideShapes Go.ChangeAt Go.WideMaps Go.WideElems Go.RowKit

section
variable {H : Type} {enc : TypeId × Value → H} {P : Program} {w : World} {base : Nat} {spare : Nat → Bool} {held : Bool}
def intIn : Value → Int
  | .int _ z => z
  | _ => 0
theorem open_ints {r : Reach} {b0 n : Nat} {t e : TypeId} {v : Value} {d : DataW H} {ps : List MemPlace} (ht : P.underlying t = some (.array n e)) (he : P.underlying e = some (.int .i64)) (hc : P.cellsOf e = 1) (hct : P.cellsOf t = n)
    (hval : Value.okWide P w r b0 t v) (hd : DataW.Trod enc P w base spare held t v d ps) :
    ∃ zs : List Int, zs.length = n ∧ v = .agg (zs.map iv).toArray ∧ d = .agg (zs.map fun z => .lit (.int .i64 z)) ∧ ps = [] ∧ ∀ z ∈ zs, -9223372036854775808 ≤ z ∧ z ≤ 9223372036854775807 := by
  simp only [Value.okWide, ht] at hval
  obtain ⟨cs, rfl, hcs, -⟩ := hval
  obtain ⟨fuel, hf⟩ := hd
  obtain ⟨xs, m, rfl, hx, hl, hxl, hall⟩ := DataW.trod_array ht hf
  rw [hc] at hall
  have hl2 : cs.toList.length = n := by rw [← hct]; exact hl
  have hl3 : cs.size = n := by simpa using hl2
  have hat : ∀ i (h : i < n), ∃ z, cs.toList[i]'(by omega) = .int .i64 z ∧ xs[i]'(by omega) = (.lit (.int .i64 z), []) ∧ (Lit.int .i64 z).wf = true := fun i h => by
    have h1 := hall i h
    rw [List.getElem?_eq_getElem (by omega)] at h1
    obtain ⟨z, h2, h3, h4⟩ := DataW.trod_int he h1
    refine ⟨z, ?_, h3, h4⟩
    have h5 : cs.toList[i]? = some (.int .i64 z) := by
      have := congrArg (·[0]?) h2
      simpa [List.getElem?_take, List.getElem?_drop, Value.cells] using this
    rw [List.getElem?_eq_getElem (by omega)] at h5
    exact Option.some.inj h5
  refine ⟨cs.toList.map intIn, by simpa using hl3, ?_, ?_, ?_, ?_⟩
  · congr 1
    apply Array.ext
    · simp
    · intro i h1 h2
      obtain ⟨z, h3, -, -⟩ := hat i (by omega)
      have h4 : cs[i] = .int .i64 z := by simpa using h3
      simp [h4, intIn, iv]
  · have e1 := congrArg Prod.fst hx
    simp only at e1
    rw [e1]
    congr 1
    apply List.ext_getElem
    · simp [hxl, hl3]
    · intro i h1 h2
      obtain ⟨z, h3, h4, -⟩ := hat i (by simpa [hxl] using h1)
      have h5 : cs[i]'(by have : i < xs.length := by simpa using h1
                          omega) = .int .i64 z := by simpa using h3
      simp [h4, h5, intIn]
  · have e2 := congrArg Prod.snd hx
    simp only at e2
    rw [e2, List.flatMap_eq_nil_iff]
    intro x hx2
    obtain ⟨i, hi, rfl⟩ := List.getElem_of_mem hx2
    obtain ⟨z, -, h4, -⟩ := hat i (by omega)
    rw [h4]
  · intro z hz
    obtain ⟨v, hv, rfl⟩ := List.mem_map.1 hz
    obtain ⟨i, hi, rfl⟩ := List.getElem_of_mem hv
    obtain ⟨z, h3, -, h5⟩ := hat i (by omega)
    rw [h3]
    exact wf_int h5
end
theorem four_of : ∀ {zs : List Int}, zs.length = 4 → ∃ a b c d, zs = [a, b, c, d]
  | [a, b, c, d], _ => ⟨a, b, c, d, rfl⟩
end Go.Proofs.YtmjcjaecaigahaaDoor
namespace Go.Proofs.YtmjcjaecaigahaaDoor
open Go.ChangeShapes Go.WideShapes Go.ChangeAt Go.WideMaps Go.WideElems Go.RowKit

theorem add_plain (b o i : Nat) : (⟨b, o, none⟩ : Addr).add i = ⟨b, o + i, none⟩ := by unfold Addr.add; split <;> simp_all
theorem cells_at {w : World} {base : Nat} {a : Addr} {n : Nat} {cs : List Value} (h : w.cells? base a n = some cs) : cs.length = n ∧ ∀ i, i < n → w.cell? (a.add i) = cs[i]? := by
  unfold World.cells? at h
  split at h
  · refine ⟨by simpa using mapM_some_length h, fun i hi => ?_⟩
    have := mapM_some_get h i i (by simp [hi])
    exact this
  · cases h
section
variable {H : Type} {enc : TypeId × Value → H} {P : Program} {W : World} {bs : Nat} {sp : Nat → Bool} {held : Bool}
/-- An array's cells, read as ints. -/
theorem ints_cells {t e : TypeId} {n m : Nat} {cs : List Value} {x : DataW H × List MemPlace} (ht : P.underlying t = some (.array m e)) (he : P.underlying e = some (.int .i64)) (hc : P.cellsOf e = 1) (h : DataW.trod enc P W bs sp held n t cs = some x) :
    ∀ j, j < m → ∃ z : Int, cs[j]? = some (.int .i64 z) ∧ -9223372036854775808 ≤ z ∧ z ≤ 9223372036854775807 := fun j hj => by
  obtain ⟨xs, k, -, -, -, hxl, hall⟩ := DataW.trod_array ht h
  have h1 := hall j hj
  rw [hc, List.getElem?_eq_getElem (by omega)] at h1
  obtain ⟨z, h2, -, h4⟩ := DataW.trod_int he h1
  refine ⟨z, ?_, wf_int h4⟩
  have := congrArg (·[0]?) h2
  simpa [List.getElem?_take, List.getElem?_drop] using this
theorem open_trips {b0 : Nat} {r : Reach} {t e f : TypeId} {v : Value} {d : DataW H} {p : List MemPlace}
    (ht : P.underlying t = some (.slice e)) (he : P.underlying e = some (.array 3 f)) (hf : P.underlying f = some (.int .i64)) (hc : P.cellsOf f = 1) (hce : P.cellsOf e = 3) (hval : Value.okWide P W r b0 t v) (hd : DataW.Trod enc P W bs sp held t v d p) :
    ∃ (A : Option Addr) (n c : Nat), v = .slice A n c ∧ Tz W A n ∧ n ≤ 9223372036854775807 := by
  obtain ⟨a0, len, cap, rfl⟩ := okWide_slice ht hval
  obtain ⟨fuel, hf2⟩ := hd
  rcases Go.Deep.open_slice ht hf2 with ⟨hcs, hx⟩ | ⟨a, len', cap', m, n, D, Pl, hcs, _, hl, hm, hmm, hx, hel⟩
  · simp [Value.cells] at hcs
    obtain ⟨rfl, rfl, rfl⟩ := hcs
    exact ⟨none, 0, 0, rfl, fun h => absurd h (by omega), by omega⟩
  · simp [Value.cells] at hcs
    obtain ⟨rfl, rfl, rfl⟩ := hcs
    have hmax : len ≤ 9223372036854775807 := by unfold maxLen at hm; omega
    have hlm : len ≤ m := by rw [hmm]; split <;> omega
    have hat : ∀ i, i < len → ∀ j, j < 3 → ∃ z : Int, W.cell? ((a.add (i * 3)).add j) = some (.int .i64 z) ∧ -9223372036854775808 ≤ z ∧ z ≤ 9223372036854775807 := fun i hi j hj => by
      obtain ⟨cs', h1, h2⟩ := hel i (by omega)
      rw [hce] at h1
      obtain ⟨z, h3, h4⟩ := ints_cells he hf hc h2 j hj
      exact ⟨z, ((cells_at h1).2 j hj).trans h3, h4⟩
    refine ⟨some a, len, cap, rfl, fun hn => ?_, hmax⟩
    obtain ⟨b, o, s⟩ := a
    obtain ⟨z0, hc0, -⟩ := hat 0 (by omega) 0 (by omega)
    have hs1 : s = none := by
      cases s with
      | none => rfl
      | some k => exact absurd (World.cell?_spot hc0) (by simp [Addr.add])
    subst hs1
    have l1 : b < W.heap.size := by have := World.block_lt_of_cell? W _ hc0; rw [add_plain, add_plain] at this; exact this
    refine ⟨b, o, rfl, l1, fun i hi => ?_⟩
    obtain ⟨u0, c0, r0⟩ := hat i hi 0 (by omega)
    obtain ⟨u1, c1, r1⟩ := hat i hi 1 (by omega)
    obtain ⟨u2, c2, r2⟩ := hat i hi 2 (by omega)
    rw [add_plain, add_plain] at c0 c1 c2
    exact ⟨u0, u1, u2, r0, r1, r2, by simpa using c0, c1, c2⟩
end
end Go.Proofs.YtmjcjaecaigahaaDoor
