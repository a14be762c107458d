
/- Regions by hand under a held condition: taking an operation first, leaving out those whose guards do not hold, a call that stands alone. No conditions. -/
import Derived.Test.YtbcgfohacbapoaaMem
import Derived.OrdersHeld
import Derived.Deep.RegionHeld3
namespace Go.Proofs.Ytbcgfohacbapoaa
open Go.RowKit Go.Lib

section
variable {P : Program} {md : Region.Mode} {ops : Array Oper} {Q : Exit → Act → World → Prop} {S : World → Prop}
/-- May operation i be taken first? -/
def mayB (md : Region.Mode) (ops : Array Oper) (listed : Array Bool) (i : Nat) : Bool := Region.noSelect ops && Region.free md ops listed i && (Region.ready md ops listed).contains i
theorem held_take {fuel : Nat} {listed : Array Bool} {a : Act} {w : World} {oi : Oper} (i : Nat) (d : Option Nat) (v : Value) (hi : ops[i]? = some oi) (hd : oi.dst = d) (hm : mayB md ops listed i = true)
    (hQ : ∀ c a w, Q (.panic c) (a.put d v) w → Q (.panic c) a w) (hw : Region.wanted oi (yielded ops a.tmps) = true) (hy : ∀ w, S w → (execOp a.eval oi).run P w = .ok (.value v) w) (hS : S w)
    (h : wpAnyH P md ops Q S fuel (listed.setIfInBounds i true) (a.put d v) w) : wpAnyH P md ops Q S (fuel + 1) listed a w := by
  subst hd
  simp only [mayB, Bool.and_eq_true] at hm
  exact wpAnyH_take hi hm.1.1 hm.1.2 hm.2 hQ (Or.inl ⟨hw, hy⟩) hS h
theorem held_skip {fuel : Nat} {listed : Array Bool} {a : Act} {w : World} {oi : Oper} (i : Nat) (d : Option Nat) (hi : ops[i]? = some oi) (hd : oi.dst = d) (hm : mayB md ops listed i = true)
    (hQ : ∀ c a w, Q (.panic c) (a.put d undef) w → Q (.panic c) a w) (hw : Region.wanted oi (yielded ops a.tmps) = false) (hS : S w)
    (h : wpAnyH P md ops Q S fuel (listed.setIfInBounds i true) (a.put d undef) w) : wpAnyH P md ops Q S (fuel + 1) listed a w := by
  subst hd
  simp only [mayB, Bool.and_eq_true] at hm
  exact wpAnyH_take hi hm.1.1 hm.1.2 hm.2 hQ (Or.inr ⟨hw, rfl⟩) hS h
/-- Several that are left out, one after the other. -/
def skipB (md : Region.Mode) (ops : Array Oper) : List (Nat × Option Nat) → Array Bool → Array Value → Bool
  | [], _, _ => true
  | (i, d) :: r, listed, tmps => match ops[i]? with
    | none => false
    | some o => o.dst == d && mayB md ops listed i && !Region.wanted o (yielded ops tmps) && skipB md ops r (listed.setIfInBounds i true) ((Act.mk tmps []).put d undef).tmps
def skipL (l : List (Nat × Option Nat)) (listed : Array Bool) : Array Bool := l.foldl (fun x i => x.setIfInBounds i.1 true) listed
def skipA (l : List (Nat × Option Nat)) (a : Act) : Act := l.foldl (fun x i => x.put i.2 undef) a
theorem put_tmps (a : Act) (d : Option Nat) (v : Value) (e : List _) : (({ tmps := a.tmps, defers := e } : Act).put d v).tmps = (a.put d v).tmps := by
  cases d <;> rfl
theorem held_skips (l : List (Nat × Option Nat)) (n : Nat) (hQ : ∀ (t : Tmp) c a w, Q (.panic c) (Act.put a (some t) undef) w → Q (.panic c) a w) : ∀ {fuel : Nat} {listed : Array Bool} {a : Act} {w : World}, fuel = n + l.length → skipB md ops l listed a.tmps = true → S w →
    wpAnyH P md ops Q S n (skipL l listed) (skipA l a) w → wpAnyH P md ops Q S fuel listed a w := by
  induction l with
  | nil => intro fuel listed a w hf _ _ h; subst hf; exact h
  | cons x l ih =>
    intro fuel listed a w hf hb hS h
    obtain ⟨i, d⟩ := x
    obtain rfl : fuel = (n + l.length) + 1 := by rw [hf]; simp; omega
    unfold skipB at hb
    cases ho : ops[i]? with
    | none => rw [ho] at hb; cases hb
    | some o =>
      rw [ho] at hb
      simp only [Bool.and_eq_true, Bool.not_eq_true', beq_iff_eq] at hb
      obtain ⟨⟨⟨h1, h2⟩, h3⟩, h4⟩ := hb
      rw [put_tmps] at h4
      exact held_skip i d ho h1 h2 (fun c a w hh => by cases d with | none => exact hh | some t => exact hQ t c a w hh) h3 hS (ih rfl h4 hS h)
theorem held_call {fuel : Nat} {listed : Array Bool} {a : Act} {w : World} {oi : Oper} (i : Nat) (d : Option Nat) (f : FuncId) (xs : List Operand) (ts : Array TypeId) (hi : ops[i]? = some oi) (hd : oi.dst = d)
    (hr : Region.ready md ops listed = [i]) (hw : Region.wanted oi (yielded ops a.tmps) = true) (hop : oi.op = Op.call { callee := Callee.value (Operand.func f), args := xs.toArray, argTypes := ts }) (eg : ∀ args w, (callFunc f args).run P w = .ok (.enter f args) w)
    {args : List Value} {R : Ending → World → Prop} (hc : Calls P f args.toArray w R) (ha : xs.map a.eval = args) (hK : ∀ e w', R e w' → ∃ v, e = .returned v ∧ S w' ∧ wpAnyH P md ops Q S fuel (listed.setIfInBounds i true) (a.put d v) w') :
    wpAnyH P md ops Q S (fuel + 1) listed a w := by
  subst hd
  refine wpAnyH_ready hr (by simp) (AllReadyH.cons hi (fun K hKK => ?_) AllReadyH.nil)
  rw [if_pos hw]
  have he : (execOp a.eval oi).run P w = .ok (.enter f args.toArray) w := by
    subst ha
    simp only [execOp, hop, resolve, Act.eval, Sem.run_bind, Result.andThen]
    simp [invoke, eg, go_sem]
  unfold Oper.wp
  rw [he, Oper.upon_enter]
  refine hc.mono fun e w' h => ?_
  obtain ⟨v, rfl, hs, hk⟩ := hK e w' h
  exact hKK.out _ _ hs fun _ => hk
end
end Go.Proofs.Ytbcgfohacbapoaa
