/- How an argument is opened that is a struct of two strings. No conditions. -/
import Derived.ChangeSame
import Derived.Test.YtgokpdidhpogdaaGreatKOpen4
namespace Go.Proofs.YtgokpdidhpogdaaGreat
open Go.ChangeShapes Go.WideShapes Go.ChangeAt Go.WideMaps Go.WideElems Go.RowKit

theorem wf_u8 {n : Int} (h : (Lit.int .u8 n).wf = true) : 0 ≤ n ∧ n < 256 := by
  have h1 : IntKind.u8.min = 0 := rfl
  have h2 : IntKind.u8.max = 255 := rfl
  simp only [Lit.wf, Bool.and_eq_true, decide_eq_true_eq] at h
  omega
section
variable {H : Type} {enc : TypeId × Value → H} {P : Program} {w : World} {base : Nat} {spare : Nat → Bool} {held : Bool}
theorem open_ratio {r : Reach} {b0 : Nat} {t e : TypeId} {f0 f1 : Field} {v : Value} {d : DataW H} {ps : List MemPlace} (ht : P.underlying t = some (.struct #[f0, f1])) (h0 : f0.type = e ∧ f0.offset = 0) (h1 : f1.type = e ∧ f1.offset = 1) (he : P.underlying e = some .string) (hc : P.cellsOf e = 1) (hct : P.cellsOf t = 2)
    (hval : Value.okWide P w r b0 t v) (hd : DataW.Trod enc P w base spare held t v d ps) :
    ∃ a b : ByteArray, v = .agg #[.string a, .string b] ∧ d = .agg [.lit (.string a.data.toList), .lit (.string b.data.toList)] ∧ ps = [] ∧ a.size ≤ maxLen ∧ b.size ≤ maxLen := by
  simp only [Value.okWide, ht] at hval
  obtain ⟨cs, rfl, hcs, -⟩ := hval
  obtain ⟨fuel, hf⟩ := hd
  obtain ⟨y0, y1, n, hx, hl, g0, g1⟩ := trod_struct2 ht hf
  rw [hct] at hl
  rw [h0.1, h0.2, hc] at g0
  rw [h1.1, h1.2, hc] at g1
  obtain ⟨a, ha, ha2, ha3⟩ := DataW.trod_string he g0
  obtain ⟨b, hb, hb2, hb3⟩ := DataW.trod_string he g1
  have hcells : (Value.agg cs).cells = cs := rfl
  rw [hcells] at ha hb hl
  obtain ⟨l⟩ := cs
  simp only at ha hb hl
  match l, hl with
  | [x, y], _ =>
    simp at ha hb
    subst ha hb ha2 hb2
    have e1 := congrArg Prod.fst hx; have e2 := congrArg Prod.snd hx
    exact ⟨a, b, rfl, e1, e2, ha3, hb3⟩
end
end Go.Proofs.YtgokpdidhpogdaaGreat
