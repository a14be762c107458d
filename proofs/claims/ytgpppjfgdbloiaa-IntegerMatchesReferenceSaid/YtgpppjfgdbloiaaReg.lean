/- Regions by hand: taking an operation first, a call that stands alone. No conditions. -/
import Derived.Test.YtgpppjfgdbloiaaDivP
import Derived.Laws.OwnMore
import Derived.Shelf.Abstract
import Derived.Orders
namespace Go.Proofs.Ytgpppjfgdbloiaa
open Go.RowKit Go.Lib Go.Shelf

theorem step_callg {P : Program} {o : Oper} {a : Act} {w : World} {K : Act → World → Prop} {Q : Exit → Act → World → Prop} {E : Prop} {wants : Bool}
    (hg : wants = true) (f : FuncId) (xs : List Operand) (ts : Array TypeId) (hop : o.op = Op.call { callee := Callee.value (Operand.func f), args := xs.toArray, argTypes := ts }) (eg : ∀ args w, (callFunc f args).run P w = .ok (.enter f args) w)
    {args : List Value} {R : Ending → World → Prop} (hc : Calls P f args.toArray w R) (ha : xs.map a.eval = args) (hK : ∀ e w', R e w' → ∃ v, e = .returned v ∧ K (a.put o.dst v) w') :
    if wants = true then Oper.wp P o a w K Q else E := by
  rw [if_pos hg]
  have he : (execOp a.eval o).run P w = .ok (.enter f args.toArray) w := by
    subst ha
    simp only [execOp, hop, resolve, Act.eval, Sem.run_bind, Result.andThen]
    simp [invoke, eg, go_sem]
  unfold Oper.wp
  rw [he, Oper.upon_enter]
  refine hc.mono fun e w' h => ?_
  obtain ⟨v, rfl, hk⟩ := hK e w' h
  exact hk
theorem wpAny_takeL {P : Program} {md : Region.Mode} {ops : Array Oper} {Q : Exit → Act → World → Prop} {fuel : Nat} {listed : Array Bool} {a : Act} {w : World} {oi : Oper} (i : Nat) (d : Option Nat) (v : Value) (hi : ops[i]? = some oi) (hd : oi.dst = d)
    (hs : Region.noSelect ops = true) (hf : Region.free md ops listed i = true) (hr : (Region.ready md ops listed).contains i = true)
    (hQ : ∀ c a w, Q (.panic c) (a.put d v) w → Q (.panic c) a w) (hy : _root_.Go.Yields P ops oi v a)
    (h : wpAny P md ops Q fuel (listed.setIfInBounds i true) (a.put d v) w) : wpAny P md ops Q (fuel + 1) listed a w := by
  subst hd
  exact wpAny_take hi hs hf hr hQ hy h
theorem wpAny_callL {P : Program} {md : Region.Mode} {ops : Array Oper} {Q : Exit → Act → World → Prop} {fuel : Nat} {listed : Array Bool} {a : Act} {w : World} {oi : Oper} (i : Nat) (d : Option Nat) (f : FuncId) (xs : List Operand) (ts : Array TypeId) (hi : ops[i]? = some oi) (hd : oi.dst = d)
    (hr : Region.ready md ops listed = [i]) (hw : Region.wanted oi (yielded ops a.tmps) = true) (hop : oi.op = Op.call { callee := Callee.value (Operand.func f), args := xs.toArray, argTypes := ts }) (eg : ∀ args w, (callFunc f args).run P w = .ok (.enter f args) w)
    {args : List Value} {R : Ending → World → Prop} (hc : Calls P f args.toArray w R) (ha : xs.map a.eval = args) (hK : ∀ e w', R e w' → ∃ v, e = .returned v ∧ wpAny P md ops Q fuel (listed.setIfInBounds i true) (a.put d v) w') :
    wpAny P md ops Q (fuel + 1) listed a w := by
  subst hd
  refine wpAny_ready hr (by simp) (AllReady.cons hi (fun K hKK => ?_) AllReady.nil)
  exact step_callg hw f xs ts hop eg hc ha fun e w' h => by
    obtain ⟨v, he, hk⟩ := hK e w' h
    exact ⟨v, he, hKK _ _ hk⟩
end Go.Proofs.Ytgpppjfgdbloiaa
