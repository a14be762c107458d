
/- Regions by hand, over all worlds that meet a condition: an operation that yields the same value in each of them, and at most makes memory, may be taken first, calls too. No conditions. -/
import Derived.Test.YtbcgfohacbapoaaGoes
namespace Go.Proofs.Ytbcgfohacbapoaa
open Go.RowKit Go.Lib

section
variable {P : Program} {ops : Array Oper} {Q : Exit → Act → World → Prop} {md : Region.Mode} {S : World → Prop}
/-- What more memory doesn't spoil, and what meets S. -/
def Calm (S I : World → Prop) : Prop := (∀ w, I w → S w) ∧ ∀ w w', I w → Below w.heap.size w w' → I w'
/-- In each world that meets S the operation yields v, and at most makes memory. -/
def Early (P : Program) (ops : Array Oper) (S : World → Prop) (o : Oper) (v : Value) (a : Act) : Prop :=
  (Region.wanted o (yielded ops a.tmps) = true ∧ ∀ w, S w → (execOp a.eval o).run P w = .ok (.value v) w ∨
    ∃ f args, (execOp a.eval o).run P w = .ok (.enter f args) w ∧ Calls P f args w fun e w' => e = .returned v ∧ Below w.heap.size w w') ∨
  (Region.wanted o (yielded ops a.tmps) = false ∧ v = undef)
theorem Early.same {o : Oper} {v : Value} {a a' : Act} (h : Early P ops S o v a) (he : execOp a'.eval o = execOp a.eval o) (hw : Region.wanted o (yielded ops a'.tmps) = Region.wanted o (yielded ops a.tmps)) : Early P ops S o v a' := by
  unfold Early at *; rw [he, hw]; exact h
theorem Early.op {i : Nat} {o : Oper} {v : Value} {a : Act} {w : World} {K : Act → World → Prop} (hi : ops[i]? = some o) (h : Early P ops S o v a) (hS : S w) (hK : ∀ w', Below w.heap.size w w' → K (a.put o.dst v) w') : wpOp P ops Q i K a w := by
  unfold wpOp
  simp only [hi]
  rcases h with ⟨hw, h⟩ | ⟨hw, rfl⟩
  · simp only [hw, if_true]
    refine .inl ?_
    rcases h w hS with h1 | ⟨f, args, h1, h2⟩
    · unfold Oper.wp; rw [h1]; exact hK _ (Below.refl _ _)
    · unfold Oper.wp
      rw [h1, Oper.upon_enter]
      refine h2.mono fun e w' h3 => ?_
      obtain ⟨rfl, h4⟩ := h3
      exact hK _ h4
  · simp only [hw, Bool.false_eq_true, if_false]; exact hK _ (Below.refl _ _)
/-- Two operations that don't touch: what the one has put makes no difference to the other, nor the other way around. -/
theorem wpOp_swap {j : Nat} {oi oj : Oper} {v : Value} (hj : ops[j]? = some oj) (hap : oi.apart ops oj = true) (hsi : ∀ cs b, oi.op ≠ .select cs b) (hsj : ∀ cs b, oj.op ≠ .select cs b)
    (hQ : ∀ c a w, Q (.panic c) (a.put oi.dst v) w → Q (.panic c) a w) {K : Act → World → Prop} {a : Act} {w : World} (hy : Early P ops S oi v a) (h : wpOp P ops Q j K (a.put oi.dst v) w) :
    wpOp P ops Q j (fun a' w' => Early P ops S oi v a' ∧ K (a'.put oi.dst v) w') a w := by
  obtain ⟨h1, h2, h3⟩ := Oper.apart_spec hap
  have kp : ∀ (a : Act), Early P ops S oi v a → ∀ u, Early P ops S oi v (a.put oj.dst u) := fun a hy u => hy.same (execOp_put oi hsi a oj.dst u h3) (wanted_put oi a oj.dst u h3)
  have kd : ∀ d, Early P ops S oi v { a with defers := d :: a.defers } := fun d => hy.same rfl rfl
  unfold wpOp at *
  simp only [hj] at *
  rw [wanted_put oj a oi.dst v h1] at h
  split
  · rename_i hw
    simp only [hw, if_true] at h
    rcases h with h | ⟨hasks, hlets⟩
    case inr => exact .inr ⟨by unfold Oper.asks at *; rw [execOp_put oj hsj a oi.dst v h1] at hasks; exact hasks, hlets⟩
    refine .inl ?_
    unfold Oper.wp at *
    rw [execOp_put oj hsj a oi.dst v h1] at h
    generalize (execOp a.eval oj).run P w = r at *
    have pc : ∀ u, (a.put oi.dst v).put oj.dst u = (a.put oj.dst u).put oi.dst v := fun u => Act.put_comm a v u h2
    cases r with
    | ok n w' =>
      cases n <;> simp only [Oper.upon] at h ⊢
      case value u => exact ⟨kp a hy u, by rw [← pc u]; exact h⟩
      case skip => exact ⟨kp a hy _, by rw [← pc undef]; exact h⟩
      case defer d =>
        refine ⟨kp _ (kd d) _, ?_⟩
        rw [← Act.put_comm _ v undef h2, ← Act.put_defers]
        exact h
      case enter f args =>
        refine Calls.mono h fun e w'' he => ?_
        cases e with
        | returned u => exact ⟨kp a hy u, by rw [← pc u]; exact he⟩
        | panicked c => exact hQ _ _ _ he
        | outgrown => exact he
      case row row args => exact Rows.mono h fun u w'' he => ⟨kp a hy u, by rw [← pc u]; exact he⟩
    | halt x w' =>
      cases x <;> simp only [Oper.upon] at h ⊢
      case panic u => exact hQ _ _ _ h
  · rename_i hw
    simp only [hw] at h
    exact ⟨kp a hy _, by rw [← Act.put_comm a v undef h2]; exact h⟩
/-- In whatever order the rest comes up, from each world that meets I. -/
def Grow (P : Program) (md : Region.Mode) (ops : Array Oper) (Q : Exit → Act → World → Prop) (S : World → Prop) : Nat → Array Bool → Act → (World → Prop) → Prop
  | 0, listed, a, I => Region.ready md ops listed = [] ∧ ∀ w, I w → Q .normal a w
  | fuel + 1, listed, a, I => (Region.ready md ops listed = [] → ∀ w, I w → Q .normal a w) ∧
      ∀ i, i ∈ Region.ready md ops listed → ∀ w, I w → wpOp P ops Q i (fun a' w' => ∃ I', Calm S I' ∧ I' w' ∧ Grow P md ops Q S fuel (listed.setIfInBounds i true) a' I') a w
theorem Grow.any : ∀ (fuel : Nat) (listed : Array Bool) (a : Act) (I : World → Prop) (w : World), Grow P md ops Q S fuel listed a I → I w → wpAny P md ops Q fuel listed a w
  | 0, _, _, _, w, h, hw => ⟨h.1, h.2 w hw⟩
  | n + 1, _, _, _, w, h, hw => ⟨fun h0 => h.1 h0 w hw, fun i hi => wpOp_mono (fun _ _ h2 => by
      obtain ⟨I', _, h3, h4⟩ := h2
      exact Grow.any n _ _ I' _ h4 h3) (h.2 i hi w hw)⟩
theorem Grow.first {i : Nat} {oi : Oper} {v : Value} (hi : ops[i]? = some oi) (hsel : ∀ (j : Nat) (o : Oper) cs b, ops[j]? = some o → o.op ≠ .select cs b) (hQ : ∀ c a w, Q (.panic c) (a.put oi.dst v) w → Q (.panic c) a w) :
    ∀ (fuel : Nat) (listed : Array Bool) (a : Act) (I : World → Prop),
      (∀ j oj, ops[j]? = some oj → j ≠ i → listed.getD j true = false → (∀ e ∈ oj.after, Region.binds md e = true → e.on ≠ i) → oi.apart ops oj = true) →
      i ∈ Region.ready md ops listed → Early P ops S oi v a → Calm S I →
      Grow P md ops Q S fuel (listed.setIfInBounds i true) (a.put oi.dst v) I → Grow P md ops Q S (fuel + 1) listed a I := by
  intro fuel
  induction fuel with
  | zero =>
    intro listed a I _ hr hy hI H
    refine ⟨fun h => (by rw [h] at hr; cases hr), fun j hj w hw => ?_⟩
    by_cases hji : j = i
    · subst hji
      exact hy.op hi (hI.1 w hw) fun w' hb => ⟨I, hI, hI.2 w w' hw hb, H⟩
    · have := ready_mono hj hji
      rw [H.1] at this
      cases this
  | succ fuel ih =>
    intro listed a I hfree hr hy hI H
    refine ⟨fun h => (by rw [h] at hr; cases hr), fun j hj w hw => ?_⟩
    by_cases hji : j = i
    · subst hji
      exact hy.op hi (hI.1 w hw) fun w' hb => ⟨I, hI, hI.2 w w' hw hb, H⟩
    · obtain ⟨hjun, oj, hoj, hall⟩ := mem_ready.1 hj
      have hin := unlisted (mem_ready.1 hr).1
      have hnot : ∀ e ∈ oj.after, Region.binds md e = true → e.on ≠ i := fun e he hb heq => by
        have h1 := hall e he hb
        rw [heq, hin] at h1; cases h1
      have h2 := wpOp_swap hoj (hfree j oj hoj hji hjun hnot) (fun cs b => hsel i oi cs b hi) (fun cs b => hsel j oj cs b hoj) hQ hy (H.2 j (ready_mono hj hji) w hw)
      have hfree' : ∀ k ok, ops[k]? = some ok → k ≠ i → (listed.setIfInBounds j true).getD k true = false → (∀ e ∈ ok.after, Region.binds md e = true → e.on ≠ i) → oi.apart ops ok = true := fun k ok hk hki hun hno => by
        refine hfree k ok hk hki ?_ hno
        by_cases hjk : j = k
        · subst hjk; exact hjun
        · rw [getD_set_ne true hjk] at hun; exact hun
      refine wpOp_mono (fun a' w' h3 => ?_) h2
      obtain ⟨hy3, I', hI', hw3, h4⟩ := h3
      refine ⟨I', hI', hw3, ih (listed.setIfInBounds j true) a' I' hfree' (ready_mono hr (Ne.symm hji)) hy3 hI' ?_⟩
      rw [Array.setIfInBounds_comm _ _ hji]
      exact h4
/-- A copy, an address, arithmetic, a load. -/
theorem grow_take {fuel : Nat} {listed : Array Bool} {a : Act} {I : World → Prop} {oi : Oper} (i : Nat) (d : Option Nat) (v : Value) (hi : ops[i]? = some oi) (hd : oi.dst = d) (hm : mayB md ops listed i = true)
    (hQ : ∀ c a w, Q (.panic c) (a.put d v) w → Q (.panic c) a w) (hw : Region.wanted oi (yielded ops a.tmps) = true) (hI : Calm S I) (hy : ∀ w, S w → (execOp a.eval oi).run P w = .ok (.value v) w)
    (h : Grow P md ops Q S fuel (listed.setIfInBounds i true) (a.put d v) I) : Grow P md ops Q S (fuel + 1) listed a I := by
  subst hd
  simp only [mayB, Bool.and_eq_true] at hm
  exact Grow.first hi (Region.noSelect_spec hm.1.1) hQ fuel listed a I (Region.free_spec hi hm.1.2) (by simpa using hm.2) (.inl ⟨hw, fun w hS => .inl (hy w hS)⟩) hI h
/-- A call that returns the same, whatever the world. -/
theorem grow_call {fuel : Nat} {listed : Array Bool} {a : Act} {I : World → Prop} {oi : Oper} (i : Nat) (d : Option Nat) (v : Value) (f : FuncId) (xs : List Operand) (ts : Array TypeId) (hi : ops[i]? = some oi) (hd : oi.dst = d) (hm : mayB md ops listed i = true)
    (hQ : ∀ c a w, Q (.panic c) (a.put d v) w → Q (.panic c) a w) (hw : Region.wanted oi (yielded ops a.tmps) = true) (hI : Calm S I)
    (hop : oi.op = Op.call { callee := Callee.value (Operand.func f), args := xs.toArray, argTypes := ts }) (eg : ∀ args w, (callFunc f args).run P w = .ok (.enter f args) w)
    {args : List Value} (hc : ∀ w, S w → Calls P f args.toArray w fun e w' => e = .returned v ∧ Below w.heap.size w w') (ha : xs.map a.eval = args)
    (h : Grow P md ops Q S fuel (listed.setIfInBounds i true) (a.put d v) I) : Grow P md ops Q S (fuel + 1) listed a I := by
  subst hd
  simp only [mayB, Bool.and_eq_true] at hm
  refine Grow.first hi (Region.noSelect_spec hm.1.1) hQ fuel listed a I (Region.free_spec hi hm.1.2) (by simpa using hm.2) (.inl ⟨hw, fun w hS => .inr ⟨f, args.toArray, ?_, hc w hS⟩⟩) hI h
  subst ha
  simp only [execOp, hop, resolve, Act.eval, Sem.run_bind, Result.andThen]
  simp [invoke, eg, go_sem]
/-- The same, where the function is a value. -/
theorem grow_enter {fuel : Nat} {listed : Array Bool} {a : Act} {I : World → Prop} {oi : Oper} (i : Nat) (d : Option Nat) (v : Value) (f : FuncId) (args : Array Value) (hi : ops[i]? = some oi) (hd : oi.dst = d) (hm : mayB md ops listed i = true)
    (hQ : ∀ c a w, Q (.panic c) (a.put d v) w → Q (.panic c) a w) (hw : Region.wanted oi (yielded ops a.tmps) = true) (hI : Calm S I)
    (hc : ∀ w, S w → Calls P f args w fun e w' => e = .returned v ∧ Below w.heap.size w w') (hy : ∀ w, S w → (execOp a.eval oi).run P w = .ok (.enter f args) w)
    (h : Grow P md ops Q S fuel (listed.setIfInBounds i true) (a.put d v) I) : Grow P md ops Q S (fuel + 1) listed a I := by
  subst hd
  simp only [mayB, Bool.and_eq_true] at hm
  exact Grow.first hi (Region.noSelect_spec hm.1.1) hQ fuel listed a I (Region.free_spec hi hm.1.2) (by simpa using hm.2) (.inl ⟨hw, fun w hS => .inr ⟨f, args, hy w hS, hc w hS⟩⟩) hI h
theorem grow_done {listed : Array Bool} {a : Act} {I : World → Prop} (hr : Region.ready md ops listed = []) (h : ∀ w, I w → Q .normal a w) : ∀ fuel, Grow P md ops Q S fuel listed a I
  | 0 => ⟨hr, h⟩
  | _ + 1 => ⟨fun _ => h, fun i hi => by rw [hr] at hi; cases hi⟩
/-- Whichever comes up. -/
def GrowEach (P : Program) (md : Region.Mode) (ops : Array Oper) (Q : Exit → Act → World → Prop) (S : World → Prop) (fuel : Nat) (listed : Array Bool) (a : Act) (I : World → Prop) (rs : List Nat) : Prop :=
  ∀ i, i ∈ rs → ∀ w, I w → wpOp P ops Q i (fun a' w' => ∃ I', Calm S I' ∧ I' w' ∧ Grow P md ops Q S fuel (listed.setIfInBounds i true) a' I') a w
theorem grow_nil {fuel : Nat} {listed : Array Bool} {a : Act} {I : World → Prop} : GrowEach P md ops Q S fuel listed a I [] := fun _ h => by cases h
theorem grow_cons {fuel : Nat} {listed : Array Bool} {a : Act} {I : World → Prop} {rs : List Nat} {oi : Oper} (i : Nat) (hi : ops[i]? = some oi) (hw : Region.wanted oi (yielded ops a.tmps) = true)
    (h : ∀ w, I w → ∀ K : Act → World → Prop, Shut (∀ a' w' (I' : World → Prop), Calm S I' → I' w' → Grow P md ops Q S fuel (listed.setIfInBounds i true) a' I' → K a' w') → Oper.wp P oi a w K Q)
    (hs : GrowEach P md ops Q S fuel listed a I rs) : GrowEach P md ops Q S fuel listed a I (i :: rs) := fun j hj => by
  rcases List.mem_cons.1 hj with rfl | hj
  · intro w hIw
    unfold wpOp
    simp only [hi, hw, if_true]
    exact .inl (h w hIw _ fun a' w' I' h1 h2 h3 => ⟨I', h1, h2, h3⟩)
  · exact hs j hj
theorem grow_each {fuel : Nat} {listed : Array Bool} {a : Act} {I : World → Prop} (rs : List Nat) (hr : Region.ready md ops listed = rs) (hne : rs ≠ []) (h : GrowEach P md ops Q S fuel listed a I rs) : Grow P md ops Q S (fuel + 1) listed a I := by
  subst hr
  exact ⟨fun h0 => absurd h0 hne, h⟩
theorem wp_region_grow {id : Nat} {a : Act} {w : World} (I : World → Prop) (hm : P.follows .mixedOrders = true) (hI : Calm S I) (h0 : I w.drew) (h : Calm S I → Grow P .any ops Q S ops.size (Array.replicate ops.size false) a I) : (Code.region id ops true).wp P Q a w :=
  wp_region_any hm (Grow.any _ _ _ I _ (h hI) h0)
end
end Go.Proofs.Ytbcgfohacbapoaa
