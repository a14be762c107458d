
/- XGrw5's laws inside any fence, for regions without calls (in the body of a range over a function). No conditions. -/
import Derived.Test.YtbcgfohacbapoaaGrw5
import Derived.Test.YtbcgfohacbapoaaGs5
import Derived.OrdersIn
import Derived.OwnWalkIn
import Derived.RangeFuncNested
namespace Go.Proofs.Ytbcgfohacbapoaa
open Go.RowKit Go.Lib

/-- No calls, nothing deferred. -/
def plainB (ops : Array Oper) : Bool := ops.all fun o => match o.op with | .call _ | .defer _ => false | _ => true
theorem plainB_spec {ops : Array Oper} (h : plainB ops = true) {i : Nat} {o : Oper} (hi : ops[i]? = some o) : (∀ c, o.op ≠ .call c) ∧ ∀ c, o.op ≠ .defer c := by
  have hm := Array.mem_of_getElem? hi
  unfold plainB at h
  rw [Array.all_eq_true_iff_forall_mem] at h
  have := h o hm
  refine ⟨fun c hc => ?_, fun c hc => ?_⟩ <;> (rw [hc] at this; cases this)
theorem about_plain {P : Program} {w : World} {ρ : Operand → Value} {o : Oper} (h : ∀ c, o.op ≠ .call c) : o.about P w ρ = none := by
  unfold Oper.about
  cases ho : o.op <;> first | rfl | exact absurd ho (h _)
section
variable {F : Fence} {n : Nat} {P : Program} {ops : Array Oper} {Q : Exit → Act → World → Prop} {md : Region.Mode} {S : World → Prop}
/-- In each world that meets S the operation yields v. -/
def EarlyV (P : Program) (ops : Array Oper) (S : World → Prop) (o : Oper) (v : Value) (a : Act) : Prop :=
  (Region.wanted o (yielded ops a.tmps) = true ∧ ∀ w, S w → (execOp a.eval o).run P w = .ok (.value v) w) ∨ (Region.wanted o (yielded ops a.tmps) = false ∧ v = undef)
theorem EarlyV.same {o : Oper} {v : Value} {a a' : Act} (h : EarlyV P ops S o v a) (he : execOp a'.eval o = execOp a.eval o) (hw : Region.wanted o (yielded ops a'.tmps) = Region.wanted o (yielded ops a.tmps)) : EarlyV P ops S o v a' := by
  unfold EarlyV at *; rw [he, hw]; exact h
theorem EarlyV.opIn (hp : plainB ops = true) {i : Nat} {o : Oper} {v : Value} {a : Act} {w : World} {K : Act → World → Prop} (hi : ops[i]? = some o) (h : EarlyV P ops S o v a) (hS : S w) (hK : K (a.put o.dst v) w) : wpOpIn F n P ops Q i K a w := by
  obtain ⟨p1, p2⟩ := plainB_spec hp hi
  have hab : ∀ f, o.about P w a.eval = some f → F.fn f := fun f hf => by rw [about_plain p1] at hf; cases hf
  unfold wpOpIn
  simp only [hi]
  rcases h with ⟨hw, h⟩ | ⟨hw, rfl⟩
  · simp only [hw, if_true]
    refine ⟨hab, ?_⟩
    rw [Oper.semAt_plain F _ _ p2, h w hS]
    exact hK
  · simp only [hw, Bool.false_eq_true, if_false]; exact ⟨hab, hK⟩
theorem wpOpIn_swapV (hp : plainB ops = true) {j : Nat} {oi oj : Oper} {v : Value} (hj : ops[j]? = some oj) (hap : oi.apart ops oj = true) (hsi : ∀ cs b, oi.op ≠ .select cs b) (hsj : ∀ cs b, oj.op ≠ .select cs b)
    (hQ : ∀ c a w, Q (.panic c) (a.put oi.dst v) w → Q (.panic c) a w) {K : Act → World → Prop} {a : Act} {w : World} (hy : EarlyV P ops S oi v a) (h : wpOpIn F n P ops Q j K (a.put oi.dst v) w) :
    wpOpIn F n P ops Q j (fun a' w' => EarlyV P ops S oi v a' ∧ K (a'.put oi.dst v) w') a w := by
  obtain ⟨p1, p2⟩ := plainB_spec hp hj
  obtain ⟨h1, h2, h3⟩ := Oper.apart_spec hap
  have kp : ∀ (a : Act), EarlyV P ops S oi v a → ∀ u, EarlyV P ops S oi v (a.put oj.dst u) := fun a hy u => hy.same (execOp_put oi hsi a oj.dst u h3) (wanted_put oi a oj.dst u h3)
  have kd : ∀ d, EarlyV P ops S oi v { a with defers := d :: a.defers } := fun d => hy.same rfl rfl
  have pc : ∀ u, (a.put oi.dst v).put oj.dst u = (a.put oj.dst u).put oi.dst v := fun u => Act.put_comm a v u h2
  have hab : ∀ f, oj.about P w a.eval = some f → F.fn f := fun f hf => by rw [about_plain p1] at hf; cases hf
  unfold wpOpIn at *
  simp only [hj] at *
  rw [wanted_put oj a oi.dst v h1] at h
  split
  · rename_i hw
    simp only [hw, if_true] at h
    unfold Oper.wpIn at *
    refine ⟨hab, ?_⟩
    have h := h.2
    rw [Oper.semAt_plain F _ _ p2, execOp_put oj hsj a oi.dst v h1] at h
    rw [Oper.semAt_plain F _ _ p2]
    generalize (execOp a.eval oj).run P w = r at *
    cases r with
    | ok x w' =>
      cases x <;> simp only [Oper.uponIn] at h ⊢
      case value u => exact ⟨kp a hy u, by rw [← pc u]; exact h⟩
      case skip => exact ⟨kp a hy _, by rw [← pc undef]; exact h⟩
      case defer d =>
        refine ⟨kp _ (kd d) _, ?_⟩
        rw [← Act.put_comm _ v undef h2, ← Act.put_defers]
        exact h
      case enter f args =>
        refine ⟨h.1, CallsIn.mono h.2 fun e w'' he => ?_⟩
        cases e with
        | returned u => exact ⟨kp a hy u, by rw [← pc u]; exact he⟩
        | panicked c => exact hQ _ _ _ he
        | outgrown => exact he
      case row row args => exact ⟨h.1, RowsIn.mono h.2 fun u w'' he => ⟨kp a hy u, by rw [← pc u]; exact he⟩⟩
      case round l f tmps assign body =>
        refine ⟨h.1, RoundIn.mono h.2 fun e w'' he => ?_⟩
        cases e with
        | returned u => exact ⟨kp a hy u, by rw [← pc u]; exact he⟩
        | panicked c => exact hQ _ _ _ he
        | outgrown => exact he
    | halt x w' =>
      cases x <;> simp only [Oper.uponIn] at h ⊢
      case panic u => exact hQ _ _ _ h
  · rename_i hw
    simp only [hw] at h
    exact ⟨hab, kp a hy _, by rw [← Act.put_comm a v undef h2]; exact h.2⟩
/-- In whatever order the rest comes up, from each world that meets I. -/
def GrowF (F : Fence) (n : Nat) (P : Program) (md : Region.Mode) (ops : Array Oper) (Q : Exit → Act → World → Prop) (S : World → Prop) : Nat → Array Bool → Act → (World → Prop) → Prop
  | 0, listed, a, I => Region.ready md ops listed = [] ∧ ∀ w, I w → Q .normal a w
  | fuel + 1, listed, a, I => (Region.ready md ops listed = [] → ∀ w, I w → Q .normal a w) ∧
      ∀ i, i ∈ Region.ready md ops listed → ∀ w, I w → wpOpIn F n P ops Q i (fun a' w' => ∃ I', Calm S I' ∧ I' w' ∧ GrowF F n P md ops Q S fuel (listed.setIfInBounds i true) a' I') a w
theorem GrowF.any : ∀ (fuel : Nat) (listed : Array Bool) (a : Act) (I : World → Prop) (w : World), GrowF F n P md ops Q S fuel listed a I → I w → wpAnyIn F n P md ops Q fuel listed a w
  | 0, _, _, _, w, h, hw => ⟨h.1, h.2 w hw⟩
  | n + 1, _, _, _, w, h, hw => ⟨fun h0 => h.1 h0 w hw, fun i hi => wpOpIn_mono (fun _ _ h2 => by
      obtain ⟨I', _, h3, h4⟩ := h2
      exact GrowF.any n _ _ I' _ h4 h3) (h.2 i hi w hw)⟩
theorem GrowF.first (hp : plainB ops = true) {i : Nat} {oi : Oper} {v : Value} (hi : ops[i]? = some oi) (hsel : ∀ (j : Nat) (o : Oper) cs b, ops[j]? = some o → o.op ≠ .select cs b) (hQ : ∀ c a w, Q (.panic c) (a.put oi.dst v) w → Q (.panic c) a w) :
    ∀ (fuel : Nat) (listed : Array Bool) (a : Act) (I : World → Prop),
      (∀ j oj, ops[j]? = some oj → j ≠ i → listed.getD j true = false → (∀ e ∈ oj.after, Region.binds md e = true → e.on ≠ i) → oi.apart ops oj = true) →
      i ∈ Region.ready md ops listed → EarlyV P ops S oi v a → Calm S I →
      GrowF F n P md ops Q S fuel (listed.setIfInBounds i true) (a.put oi.dst v) I → GrowF F n P md ops Q S (fuel + 1) listed a I := by
  intro fuel
  induction fuel with
  | zero =>
    intro listed a I _ hr hy hI H
    refine ⟨fun h => (by rw [h] at hr; cases hr), fun j hj w hw => ?_⟩
    by_cases hji : j = i
    · subst hji
      exact hy.opIn hp hi (hI.1 w hw) ⟨I, hI, hw, H⟩
    · have := ready_mono hj hji
      rw [H.1] at this
      cases this
  | succ fuel ih =>
    intro listed a I hfree hr hy hI H
    refine ⟨fun h => (by rw [h] at hr; cases hr), fun j hj w hw => ?_⟩
    by_cases hji : j = i
    · subst hji
      exact hy.opIn hp hi (hI.1 w hw) ⟨I, hI, hw, H⟩
    · obtain ⟨hjun, oj, hoj, hall⟩ := mem_ready.1 hj
      have hin := unlisted (mem_ready.1 hr).1
      have hnot : ∀ e ∈ oj.after, Region.binds md e = true → e.on ≠ i := fun e he hb heq => by
        have h1 := hall e he hb
        rw [heq, hin] at h1; cases h1
      have h2 := wpOpIn_swapV hp hoj (hfree j oj hoj hji hjun hnot) (fun cs b => hsel i oi cs b hi) (fun cs b => hsel j oj cs b hoj) hQ hy (H.2 j (ready_mono hj hji) w hw)
      have hfree' : ∀ k ok, ops[k]? = some ok → k ≠ i → (listed.setIfInBounds j true).getD k true = false → (∀ e ∈ ok.after, Region.binds md e = true → e.on ≠ i) → oi.apart ops ok = true := fun k ok hk hki hun hno => by
        refine hfree k ok hk hki ?_ hno
        by_cases hjk : j = k
        · subst hjk; exact hjun
        · rw [getD_set_ne true hjk] at hun; exact hun
      refine wpOpIn_mono (fun a' w' h3 => ?_) h2
      obtain ⟨hy3, I', hI', hw3, h4⟩ := h3
      refine ⟨I', hI', hw3, ih (listed.setIfInBounds j true) a' I' hfree' (ready_mono hr (Ne.symm hji)) hy3 hI' ?_⟩
      rw [Array.setIfInBounds_comm _ _ hji]
      exact h4
/-- A copy, an address, arithmetic, a load, a look-up. -/
theorem growF_take {fuel : Nat} {listed : Array Bool} {a : Act} {I : World → Prop} {oi : Oper} (hp : plainB ops = true) (i : Nat) (d : Option Nat) (v : Value) (hi : ops[i]? = some oi) (hd : oi.dst = d) (hm : mayB md ops listed i = true)
    (hQ : ∀ c a w, Q (.panic c) (a.put d v) w → Q (.panic c) a w) (hw : Region.wanted oi (yielded ops a.tmps) = true) (hI : Calm S I) (hy : ∀ w, S w → (execOp a.eval oi).run P w = .ok (.value v) w)
    (h : GrowF F n P md ops Q S fuel (listed.setIfInBounds i true) (a.put d v) I) : GrowF F n P md ops Q S (fuel + 1) listed a I := by
  subst hd
  simp only [mayB, Bool.and_eq_true] at hm
  exact GrowF.first hp hi (Region.noSelect_spec hm.1.1) hQ fuel listed a I (Region.free_spec hi hm.1.2) (by simpa using hm.2) (.inl ⟨hw, hy⟩) hI h
theorem growF_done {listed : Array Bool} {a : Act} {I : World → Prop} (hr : Region.ready md ops listed = []) (h : ∀ w, I w → Q .normal a w) : ∀ fuel, GrowF F n P md ops Q S fuel listed a I
  | 0 => ⟨hr, h⟩
  | _ + 1 => ⟨fun _ => h, fun i hi => by rw [hr] at hi; cases hi⟩
/-- Whichever comes up. -/
def GrowFEach (F : Fence) (n : Nat) (P : Program) (md : Region.Mode) (ops : Array Oper) (Q : Exit → Act → World → Prop) (S : World → Prop) (fuel : Nat) (listed : Array Bool) (a : Act) (I : World → Prop) (rs : List Nat) : Prop :=
  ∀ i, i ∈ rs → ∀ w, I w → wpOpIn F n P ops Q i (fun a' w' => ∃ I', Calm S I' ∧ I' w' ∧ GrowF F n P md ops Q S fuel (listed.setIfInBounds i true) a' I') a w
theorem growF_nil {fuel : Nat} {listed : Array Bool} {a : Act} {I : World → Prop} : GrowFEach F n P md ops Q S fuel listed a I [] := fun _ h => by cases h
theorem growF_cons {fuel : Nat} {listed : Array Bool} {a : Act} {I : World → Prop} {rs : List Nat} {oi : Oper} (i : Nat) (hi : ops[i]? = some oi) (hw : Region.wanted oi (yielded ops a.tmps) = true)
    (h : ∀ w, I w → ∀ K : Act → World → Prop, Shut (∀ a' w' (I' : World → Prop), Calm S I' → I' w' → GrowF F n P md ops Q S fuel (listed.setIfInBounds i true) a' I' → K a' w') → Oper.wpIn F n P oi a w K Q)
    (hs : GrowFEach F n P md ops Q S fuel listed a I rs) : GrowFEach F n P md ops Q S fuel listed a I (i :: rs) := fun j hj => by
  rcases List.mem_cons.1 hj with rfl | hj
  · intro w hIw
    unfold wpOpIn
    simp only [hi, hw, if_true]
    exact h w hIw _ fun a' w' I' h1 h2 h3 => ⟨I', h1, h2, h3⟩
  · exact hs j hj
theorem growF_each {fuel : Nat} {listed : Array Bool} {a : Act} {I : World → Prop} (rs : List Nat) (hr : Region.ready md ops listed = rs) (hne : rs ≠ []) (h : GrowFEach F n P md ops Q S fuel listed a I rs) : GrowF F n P md ops Q S (fuel + 1) listed a I := by
  subst hr
  exact ⟨fun h0 => absurd h0 hne, h⟩
theorem wpIn_region_growF {id : Nat} {a : Act} {w : World} (I : World → Prop) (hm : P.follows .mixedOrders = true) (hI : Calm S I) (h0 : I w.drew) (h : Calm S I → GrowF F n P .any ops Q S ops.size (Array.replicate ops.size false) a I) : (Code.region id ops true).wpIn F n P Q a w :=
  wpIn_region_any hm (GrowF.any _ _ _ I _ (h hI) h0)
end
end Go.Proofs.Ytbcgfohacbapoaa
