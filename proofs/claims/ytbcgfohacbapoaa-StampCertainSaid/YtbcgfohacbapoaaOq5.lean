
/- How an argument is opened that is an array of ints. No conditions. -/
import Derived.Test.YtbcgfohacbapoaaLf5
namespace Go.Proofs.Ytbcgfohacbapoaa
open Go.ChangeShapes Go.WideShapes Go.ChangeAt Go.WideMaps Go.WideElems Go.RowKit

section
variable {H : Type} {enc : TypeId × Value → H} {P : Program} {w : World} {base : Nat} {spare : Nat → Bool} {held : Bool}
def intIn : Value → Int
  | .int _ z => z
  | _ => 0
theorem open_ints {r : Reach} {b0 n : Nat} {t e : TypeId} {v : Value} {d : DataW H} {ps : List MemPlace} (ht : P.underlying t = some (.array n e)) (he : P.underlying e = some (.int .i64)) (hc : P.cellsOf e = 1) (hct : P.cellsOf t = n)
    (hval : Value.okWide P w r b0 t v) (hd : DataW.Trod enc P w base spare held t v d ps) :
    ∃ zs : List Int, zs.length = n ∧ v = .agg (zs.map iv).toArray ∧ d = .agg (zs.map fun z => .lit (.int .i64 z)) ∧ ps = [] ∧ ∀ z ∈ zs, -9223372036854775808 ≤ z ∧ z ≤ 9223372036854775807 := by
  simp only [Value.okWide, ht] at hval
  obtain ⟨cs, rfl, hcs, -⟩ := hval
  obtain ⟨fuel, hf⟩ := hd
  obtain ⟨xs, m, rfl, hx, hl, hxl, hall⟩ := DataW.trod_array ht hf
  rw [hc] at hall
  have hl2 : cs.toList.length = n := by rw [← hct]; exact hl
  have hl3 : cs.size = n := by simpa using hl2
  have hat : ∀ i (h : i < n), ∃ z, cs.toList[i]'(by omega) = .int .i64 z ∧ xs[i]'(by omega) = (.lit (.int .i64 z), []) ∧ (Lit.int .i64 z).wf = true := fun i h => by
    have h1 := hall i h
    rw [List.getElem?_eq_getElem (by omega)] at h1
    obtain ⟨z, h2, h3, h4⟩ := DataW.trod_int he h1
    refine ⟨z, ?_, h3, h4⟩
    have h5 : cs.toList[i]? = some (.int .i64 z) := by
      have := congrArg (·[0]?) h2
      simpa [List.getElem?_take, List.getElem?_drop, Value.cells] using this
    rw [List.getElem?_eq_getElem (by omega)] at h5
    exact Option.some.inj h5
  refine ⟨cs.toList.map intIn, by simpa using hl3, ?_, ?_, ?_, ?_⟩
  · congr 1
    apply Array.ext
    · simp
    · intro i h1 h2
      obtain ⟨z, h3, -, -⟩ := hat i (by omega)
      have h4 : cs[i] = .int .i64 z := by simpa using h3
      simp [h4, intIn, iv]
  · have e1 := congrArg Prod.fst hx
    simp only at e1
    rw [e1]
    congr 1
    apply List.ext_getElem
    · simp [hxl, hl3]
    · intro i h1 h2
      obtain ⟨z, h3, h4, -⟩ := hat i (by simpa [hxl] using h1)
      have h5 : cs[i]'(by have : i < xs.length := by simpa using h1
                          omega) = .int .i64 z := by simpa using h3
      simp [h4, h5, intIn]
  · have e2 := congrArg Prod.snd hx
    simp only at e2
    rw [e2, List.flatMap_eq_nil_iff]
    intro x hx2
    obtain ⟨i, hi, rfl⟩ := List.getElem_of_mem hx2
    obtain ⟨z, -, h4, -⟩ := hat i (by omega)
    rw [h4]
  · intro z hz
    obtain ⟨v, hv, rfl⟩ := List.mem_map.1 hz
    obtain ⟨i, hi, rfl⟩ := List.getElem_of_mem hv
    obtain ⟨z, h3, -, h5⟩ := hat i (by omega)
    rw [h3]
    exact wf_int h5
end
theorem four_of : ∀ {zs : List Int}, zs.length = 4 → ∃ a b c d, zs = [a, b, c, d]
  | [a, b, c, d], _ => ⟨a, b, c, d, rfl⟩
theorem two_of : ∀ {zs : List Int}, zs.length = 2 → ∃ a b, zs = [a, b]
  | [a, b], _ => ⟨a, b, rfl⟩
end Go.Proofs.Ytbcgfohacbapoaa
