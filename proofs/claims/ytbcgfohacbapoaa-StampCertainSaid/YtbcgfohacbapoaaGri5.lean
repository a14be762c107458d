
/- XGrw5's laws inside the wide fence (for iterators: a round of the loop is a late operation). No conditions. -/
import Derived.Test.YtbcgfohacbapoaaGrw5
import Derived.OrdersIn
import Derived.RangeFuncNested
namespace Go.Proofs.Ytbcgfohacbapoaa
open Go.RowKit Go.Lib

section
variable {n : Nat} {P : Program} {ops : Array Oper} {Q : Exit → Act → World → Prop} {md : Region.Mode} {S : World → Prop} {Z : Nat → Bool} {E : Nat → Nat → Bool}
theorem Early.opIn {i : Nat} {o : Oper} {v : Value} {a : Act} {w : World} {K : Act → World → Prop} (hi : ops[i]? = some o) (h : Early P ops S o v a) (hS : S w) (hK : ∀ w', Below w.heap.size w w' → K (a.put o.dst v) w') : wpOpIn Fence.wide n P ops Q i K a w := by
  unfold wpOpIn
  simp only [hi]
  have hab : ∀ f, o.about P w a.eval = some f → Fence.wide.fn f := fun _ _ => trivial
  rcases h with ⟨hw, h⟩ | ⟨hw, rfl⟩
  · simp only [hw, if_true]
    refine ⟨hab, ?_⟩
    rw [show Fence.wide.round = none from rfl, Oper.semAt_none]
    rcases h w hS with h1 | ⟨f, args, h1, h2⟩
    · rw [h1]; exact hK _ (Below.refl _ _)
    · rw [h1, Oper.uponIn_enter]
      refine ⟨fun h3 => (by cases h3), (callsIn_wide.2 h2).mono fun e w' h3 => ?_⟩
      obtain ⟨rfl, h4⟩ := h3
      exact hK _ h4
  · simp only [hw, Bool.false_eq_true, if_false]; exact ⟨hab, hK _ (Below.refl _ _)⟩
theorem wpOpIn_swap {j : Nat} {oi oj : Oper} {v : Value} (hj : ops[j]? = some oj) (hap : oi.apart ops oj = true) (hsi : ∀ cs b, oi.op ≠ .select cs b) (hsj : ∀ cs b, oj.op ≠ .select cs b)
    (hQ : ∀ c a w, Q (.panic c) (a.put oi.dst v) w → Q (.panic c) a w) {K : Act → World → Prop} {a : Act} {w : World} (hy : Early P ops S oi v a) (h : wpOpIn Fence.wide n P ops Q j K (a.put oi.dst v) w) :
    wpOpIn Fence.wide n P ops Q j (fun a' w' => Early P ops S oi v a' ∧ K (a'.put oi.dst v) w') a w := by
  obtain ⟨h1, h2, h3⟩ := Oper.apart_spec hap
  have kp : ∀ (a : Act), Early P ops S oi v a → ∀ u, Early P ops S oi v (a.put oj.dst u) := fun a hy u => hy.same (execOp_put oi hsi a oj.dst u h3) (wanted_put oi a oj.dst u h3)
  have kd : ∀ d, Early P ops S oi v { a with defers := d :: a.defers } := fun d => hy.same rfl rfl
  have pc : ∀ u, (a.put oi.dst v).put oj.dst u = (a.put oj.dst u).put oi.dst v := fun u => Act.put_comm a v u h2
  have hab : ∀ f, oj.about P w a.eval = some f → Fence.wide.fn f := fun _ _ => trivial
  unfold wpOpIn at *
  simp only [hj] at *
  rw [wanted_put oj a oi.dst v h1] at h
  split
  · rename_i hw
    simp only [hw, if_true] at h
    unfold Oper.wpIn at *
    refine ⟨hab, ?_⟩
    have h := h.2
    rw [show Fence.wide.round = none from rfl, Oper.semAt_none, execOp_put oj hsj a oi.dst v h1] at h
    rw [show Fence.wide.round = none from rfl, Oper.semAt_none]
    generalize (execOp a.eval oj).run P w = r at *
    cases r with
    | ok x w' =>
      cases x <;> simp only [Oper.uponIn] at h ⊢
      case value u => exact ⟨kp a hy u, by rw [← pc u]; exact h⟩
      case skip => exact ⟨kp a hy _, by rw [← pc undef]; exact h⟩
      case defer d =>
        refine ⟨kp _ (kd d) _, ?_⟩
        rw [← Act.put_comm _ v undef h2, ← Act.put_defers]
        exact h
      case enter f args =>
        refine ⟨h.1, CallsIn.mono h.2 fun e w'' he => ?_⟩
        cases e with
        | returned u => exact ⟨kp a hy u, by rw [← pc u]; exact he⟩
        | panicked c => exact hQ _ _ _ he
        | outgrown => exact he
      case row row args => exact ⟨h.1, RowsIn.mono h.2 fun u w'' he => ⟨kp a hy u, by rw [← pc u]; exact he⟩⟩
      case round l f tmps assign body =>
        refine ⟨h.1, RoundIn.mono h.2 fun e w'' he => ?_⟩
        cases e with
        | returned u => exact ⟨kp a hy u, by rw [← pc u]; exact he⟩
        | panicked c => exact hQ _ _ _ he
        | outgrown => exact he
    | halt x w' =>
      cases x <;> simp only [Oper.uponIn] at h ⊢
      case panic u => exact hQ _ _ _ h
  · rename_i hw
    simp only [hw] at h
    exact ⟨hab, kp a hy _, by rw [← Act.put_comm a v undef h2]; exact h.2⟩
/-- In whatever order the rest comes up, from each world that meets I; once a late one has come up, nothing is asked of I. -/
def GrowI (n : Nat) (P : Program) (md : Region.Mode) (ops : Array Oper) (Q : Exit → Act → World → Prop) (S : World → Prop) (Z : Nat → Bool) : Nat → Array Bool → Act → (World → Prop) → Prop
  | 0, listed, a, I => Region.ready md ops listed = [] ∧ ∀ w, I w → Q .normal a w
  | fuel + 1, listed, a, I => (Region.ready md ops listed = [] → ∀ w, I w → Q .normal a w) ∧
      ∀ i, i ∈ Region.ready md ops listed → ∀ w, I w → wpOpIn Fence.wide n P ops Q i (fun a' w' => ∃ I', (Soon Z (listed.setIfInBounds i true) → Calm S I') ∧ I' w' ∧ GrowI n P md ops Q S Z fuel (listed.setIfInBounds i true) a' I') a w
theorem GrowI.any : ∀ (fuel : Nat) (listed : Array Bool) (a : Act) (I : World → Prop) (w : World), GrowI n P md ops Q S Z fuel listed a I → I w → wpAnyIn Fence.wide n P md ops Q fuel listed a w
  | 0, _, _, _, w, h, hw => ⟨h.1, h.2 w hw⟩
  | n + 1, _, _, _, w, h, hw => ⟨fun h0 => h.1 h0 w hw, fun i hi => wpOpIn_mono (fun _ _ h2 => by
      obtain ⟨I', _, h3, h4⟩ := h2
      exact GrowI.any n _ _ I' _ h4 h3) (h.2 i hi w hw)⟩
theorem GrowI.first {i : Nat} {oi : Oper} {v : Value} (hi : ops[i]? = some oi) (hs : Says md ops E) (hZE : ∀ z, Z z = true → E z i = true) (hz : Z i = false)
    (hsel : ∀ (j : Nat) (o : Oper) cs b, ops[j]? = some o → o.op ≠ .select cs b) (hQ : ∀ c a w, Q (.panic c) (a.put oi.dst v) w → Q (.panic c) a w) :
    ∀ (fuel : Nat) (listed : Array Bool) (a : Act) (I : World → Prop),
      (∀ j oj, ops[j]? = some oj → j ≠ i → listed.getD j true = false → (∀ e ∈ oj.after, Region.binds md e = true → e.on ≠ i) → oi.apart ops oj = true) →
      i ∈ Region.ready md ops listed → Kept E listed → Early P ops S oi v a → Calm S I →
      GrowI n P md ops Q S Z fuel (listed.setIfInBounds i true) (a.put oi.dst v) I → GrowI n P md ops Q S Z (fuel + 1) listed a I := by
  intro fuel
  induction fuel with
  | zero =>
    intro listed a I _ hr _ hy hI H
    refine ⟨fun h => (by rw [h] at hr; cases hr), fun j hj w hw => ?_⟩
    by_cases hji : j = i
    · subst hji
      exact hy.opIn hi (hI.1 w hw) fun w' hb => ⟨I, fun _ => hI, hI.2 w w' hw hb, H⟩
    · have := ready_mono hj hji
      rw [H.1] at this
      cases this
  | succ fuel ih =>
    intro listed a I hfree hr hk hy hI H
    refine ⟨fun h => (by rw [h] at hr; cases hr), fun j hj w hw => ?_⟩
    by_cases hji : j = i
    · subst hji
      exact hy.opIn hi (hI.1 w hw) fun w' hb => ⟨I, fun _ => hI, hI.2 w w' hw hb, H⟩
    · obtain ⟨hjun, oj, hoj, hall⟩ := mem_ready.1 hj
      have hin := unlisted (mem_ready.1 hr).1
      have hnot : ∀ e ∈ oj.after, Region.binds md e = true → e.on ≠ i := fun e he hb heq => by
        have h1 := hall e he hb
        rw [heq, hin] at h1; cases h1
      have h2 := wpOpIn_swap hoj (hfree j oj hoj hji hjun hnot) (fun cs b => hsel i oi cs b hi) (fun cs b => hsel j oj cs b hoj) hQ hy (H.2 j (ready_mono hj hji) w hw)
      have hfree' : ∀ k ok, ops[k]? = some ok → k ≠ i → (listed.setIfInBounds j true).getD k true = false → (∀ e ∈ ok.after, Region.binds md e = true → e.on ≠ i) → oi.apart ops ok = true := fun k ok hk hki hun hno => by
        refine hfree k ok hk hki ?_ hno
        by_cases hjk : j = k
        · subst hjk; exact hjun
        · rw [getD_set_ne true hjk] at hun; exact hun
      have hk2 := hk.set hs hj
      have hsoon : Soon Z (listed.setIfInBounds j true) := fun z hzz => by
        cases h : (listed.setIfInBounds j true).getD z false with
        | false => rfl
        | true =>
          have := hk2 z i h (hZE z hzz)
          rw [getD_set_ne false hji, hin] at this; cases this
      refine wpOpIn_mono (fun a' w' h3 => ?_) h2
      obtain ⟨hy3, I', hI', hw3, h4⟩ := h3
      rw [Array.setIfInBounds_comm _ _ (Ne.symm hji)] at h4 hI'
      have hc := hI' ((Soon.other hz).2 hsoon)
      exact ⟨I', fun _ => hc, hw3, ih (listed.setIfInBounds j true) a' I' hfree' (ready_mono hr (Ne.symm hji)) hk2 hy3 hc h4⟩
theorem growI_early {t : List (Nat × List Nat)} {es zs : List Nat} {fuel : Nat} {listed : Array Bool} {a : Act} {I : World → Prop} {oi : Oper} (i : Nat) (d : Option Nat) (v : Value) (ht : tabB md ops t es zs = true) (hi : ops[i]? = some oi) (hd : oi.dst = d)
    (hm : (mayB md ops listed i && keptB t listed && !zs.contains i && es.contains i) = true) (hQ : ∀ c a w, Q (.panic c) (a.put d v) w → Q (.panic c) a w) (hI : Calm S I) (he : Early P ops S oi v a)
    (h : GrowI n P md ops Q S (zs.contains ·) fuel (listed.setIfInBounds i true) (a.put d v) I) : GrowI n P md ops Q S (zs.contains ·) (fuel + 1) listed a I := by
  subst hd
  have hs := says_of ht
  simp only [mayB, Bool.and_eq_true, Bool.not_eq_true'] at hm
  simp only [tabB, Bool.and_eq_true] at ht
  refine GrowI.first (E := tabE t) hi hs (fun z hz => ?_) hm.1.2 (Region.noSelect_spec ht.1.1) hQ fuel listed a I (Region.free_spec hi hm.1.1.1.1.2) (by simpa using hm.1.1.1.2) (kept_of hm.1.1.2) he hI h
  exact List.all_eq_true.1 (List.all_eq_true.1 ht.2 z (by simpa using hz)) i (by simpa using hm.2)
/-- A copy, an address, arithmetic, a load. -/
theorem growI_take {t : List (Nat × List Nat)} {es zs : List Nat} {fuel : Nat} {listed : Array Bool} {a : Act} {I : World → Prop} {oi : Oper} (i : Nat) (d : Option Nat) (v : Value) (ht : tabB md ops t es zs = true) (hi : ops[i]? = some oi) (hd : oi.dst = d)
    (hm : (mayB md ops listed i && keptB t listed && !zs.contains i && es.contains i) = true) (hQ : ∀ c a w, Q (.panic c) (a.put d v) w → Q (.panic c) a w) (hw : Region.wanted oi (yielded ops a.tmps) = true) (hI : Calm S I) (hy : ∀ w, S w → (execOp a.eval oi).run P w = .ok (.value v) w)
    (h : GrowI n P md ops Q S (zs.contains ·) fuel (listed.setIfInBounds i true) (a.put d v) I) : GrowI n P md ops Q S (zs.contains ·) (fuel + 1) listed a I :=
  growI_early i d v ht hi hd hm hQ hI (.inl ⟨hw, fun w hS => .inl (hy w hS)⟩) h
/-- A call that returns the same, whatever the world. -/
theorem growI_call {t : List (Nat × List Nat)} {es zs : List Nat} {fuel : Nat} {listed : Array Bool} {a : Act} {I : World → Prop} {oi : Oper} (i : Nat) (d : Option Nat) (v : Value) (f : FuncId) (xs : List Operand) (ts : Array TypeId) (ht : tabB md ops t es zs = true) (hi : ops[i]? = some oi) (hd : oi.dst = d)
    (hm : (mayB md ops listed i && keptB t listed && !zs.contains i && es.contains i) = true) (hQ : ∀ c a w, Q (.panic c) (a.put d v) w → Q (.panic c) a w) (hw : Region.wanted oi (yielded ops a.tmps) = true) (hI : Calm S I)
    (hop : oi.op = Op.call { callee := Callee.value (Operand.func f), args := xs.toArray, argTypes := ts }) (eg : ∀ args w, (callFunc f args).run P w = .ok (.enter f args) w)
    {args : List Value} (hc : ∀ w, S w → Calls P f args.toArray w fun e w' => e = .returned v ∧ Below w.heap.size w w') (ha : xs.map a.eval = args)
    (h : GrowI n P md ops Q S (zs.contains ·) fuel (listed.setIfInBounds i true) (a.put d v) I) : GrowI n P md ops Q S (zs.contains ·) (fuel + 1) listed a I := by
  refine growI_early i d v ht hi hd hm hQ hI (.inl ⟨hw, fun w hS => .inr ⟨f, args.toArray, ?_, hc w hS⟩⟩) h
  subst ha
  simp only [execOp, hop, resolve, Act.eval, Sem.run_bind, Result.andThen]
  simp [invoke, eg, go_sem]
theorem growI_done {listed : Array Bool} {a : Act} {I : World → Prop} (hr : Region.ready md ops listed = []) (h : ∀ w, I w → Q .normal a w) : ∀ fuel, GrowI n P md ops Q S Z fuel listed a I
  | 0 => ⟨hr, h⟩
  | _ + 1 => ⟨fun _ => h, fun i hi => by rw [hr] at hi; cases hi⟩
/-- A late operation, which stands alone: of the world behind it nothing is asked but what follows. -/
theorem growI_late {zs : List Nat} {fuel : Nat} {listed : Array Bool} {a : Act} {I : World → Prop} {oi : Oper} (i : Nat) (hi : ops[i]? = some oi) (hr : Region.ready md ops listed = [i]) (hw : Region.wanted oi (yielded ops a.tmps) = true)
    (hz : (zs.any fun z => (listed.setIfInBounds i true).getD z false) = true)
    (h : ∀ w, I w → ∀ K : Act → World → Prop, Shut (∀ a' w', GrowI n P md ops Q S (zs.contains ·) fuel (listed.setIfInBounds i true) a' (fun x => x = w') → K a' w') → Oper.wpIn Fence.wide n P oi a w K Q) : GrowI n P md ops Q S (zs.contains ·) (fuel + 1) listed a I := by
  refine ⟨fun h0 => (by rw [h0] at hr; cases hr), fun j hj w hIw => ?_⟩
  obtain rfl : j = i := by rw [hr] at hj; simpa using hj
  unfold wpOpIn
  simp only [hi, hw, if_true]
  refine h w hIw _ fun a' w' h1 => ⟨fun x => x = w', fun hs => ?_, rfl, h1⟩
  obtain ⟨z, hz1, hz2⟩ := List.any_eq_true.1 hz
  rw [hs z (by simpa using hz1)] at hz2
  cases hz2
theorem wpIn_region_grow {id : Nat} {a : Act} {w : World} (I : World → Prop) (hm : P.follows .mixedOrders = true) (hI : Calm S I) (h0 : I w.drew) (h : Calm S I → GrowI n P .any ops Q S Z ops.size (Array.replicate ops.size false) a I) : (Code.region id ops true).wpIn Fence.wide n P Q a w :=
  wpIn_region_any hm (GrowI.any _ _ _ I _ (h hI) h0)
end
end Go.Proofs.Ytbcgfohacbapoaa
