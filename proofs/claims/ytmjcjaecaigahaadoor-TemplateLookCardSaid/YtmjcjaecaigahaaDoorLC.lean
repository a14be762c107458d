/- Regions by hand under a held condition: taking an operation first, leaving out those whose guards do not hold, a call that stands alone. No conditions. | Regions by hand: an operation may be taken first if it yields its value in every world that may be met before it has come up. No conditions. | Regions by hand, over all worlds that meet a condition: an operation that yields the same value in each of them, and at most makes memory, may be taken first, calls too. No conditions. | XGrw5's laws inside the wide fence (for iterators: a round of the loop is a late operation). No conditions. | Regions over all worlds that meet a condition: an operation that its guard leaves out, taken first. No conditions. -/
import Derived.OrdersHeld
import Derived.Deep.RegionHeld3
import Derived.OrdersIn
import Derived.RangeFuncNested
import Derived.Test.YtmjcjaecaigahaaDoorLA
namespace Go.Proofs.YtmjcjaecaigahaaDoor
open Go.RowKit Go.Lib

section
variable {P : Program} {md : Region.Mode} {ops : Array Oper} {Q : Exit → Act → World → Prop} {S : World → Prop}
/-- May operation i be taken first? -/
def mayB (md : Region.Mode) (ops : Array Oper) (listed : Array Bool) (i : Nat) : Bool := Region.noSelect ops && Region.free md ops listed i && (Region.ready md ops listed).contains i
theorem held_take {fuel : Nat} {listed : Array Bool} {a : Act} {w : World} {oi : Oper} (i : Nat) (d : Option Nat) (v : Value) (hi : ops[i]? = some oi) (hd : oi.dst = d) (hm : mayB md ops listed i = true)
    (hQ : ∀ c a w, Q (.panic c) (a.put d v) w → Q (.panic c) a w) (hw : Region.wanted oi (yielded ops a.tmps) = true) (hy : ∀ w, S w → (execOp a.eval oi).run P w = .ok (.value v) w) (hS : S w)
    (h : wpAnyH P md ops Q S fuel (listed.setIfInBounds i true) (a.put d v) w) : wpAnyH P md ops Q S (fuel + 1) listed a w := by
  subst hd
  simp only [mayB, Bool.and_eq_true] at hm
  exact wpAnyH_take hi hm.1.1 hm.1.2 hm.2 hQ (Or.inl ⟨hw, hy⟩) hS h
end
end Go.Proofs.YtmjcjaecaigahaaDoor
namespace Go.Proofs.YtmjcjaecaigahaaDoor
open Go.RowKit Go.Lib

section
variable {P : Program} {ops : Array Oper} {Q : Exit → Act → World → Prop} {md : Region.Mode} {Sp Se : World → Prop} {A Z : Nat → Bool} {E : Nat → Nat → Bool}
/-- 'E j k': operation k comes up ahead of operation j. The list of those that have come up obeys it. -/
def Kept (E : Nat → Nat → Bool) (listed : Array Bool) : Prop := ∀ j k, listed.getD j false = true → E j k = true → listed.getD k false = true
/-- The operations' own table says so of E. -/
def Says (md : Region.Mode) (ops : Array Oper) (E : Nat → Nat → Bool) : Prop := ∀ j o k, ops[j]? = some o → E j k = true → ∃ e ∈ o.after, Region.binds md e = true ∧ (e.on = k ∨ E e.on k = true)
/-- None of the late ones has come up. -/
def Soon (Z : Nat → Bool) (listed : Array Bool) : Prop := ∀ z, Z z = true → listed.getD z false = false
/-- What holds behind each operation: Sp; and Se, as long as no late one has come up. -/
def Holds (Sp Se : World → Prop) (Z : Nat → Bool) (listed : Array Bool) (w : World) : Prop := Sp w ∧ (Soon Z listed → Se w)
/-- In whatever order the rest comes up. -/
def Goes (P : Program) (md : Region.Mode) (ops : Array Oper) (Q : Exit → Act → World → Prop) (Sp Se : World → Prop) (Z : Nat → Bool) : Nat → Array Bool → Act → World → Prop
  | 0, listed, a, w => Region.ready md ops listed = [] ∧ Q .normal a w
  | fuel + 1, listed, a, w => (Region.ready md ops listed = [] → Q .normal a w) ∧
      ∀ i, i ∈ Region.ready md ops listed → wpOp P ops Q i (fun a' w' => Holds Sp Se Z (listed.setIfInBounds i true) w' ∧ Goes P md ops Q Sp Se Z fuel (listed.setIfInBounds i true) a' w') a w
theorem Goes.any : ∀ (fuel : Nat) (listed : Array Bool) (a : Act) (w : World), Goes P md ops Q Sp Se Z fuel listed a w → wpAny P md ops Q fuel listed a w
  | 0, _, _, _, h => h
  | n + 1, _, _, _, h => ⟨h.1, fun i hi => wpOp_mono (fun _ _ h2 => Goes.any n _ _ _ h2.2) (h.2 i hi)⟩
theorem Soon.other {i : Nat} {listed : Array Bool} (hz : Z i = false) : Soon Z (listed.setIfInBounds i true) ↔ Soon Z listed := by
  refine forall_congr' fun z => imp_congr_right fun h => ?_
  have : i ≠ z := fun e => by rw [e, h] at hz; cases hz
  rw [getD_set_ne false this]
theorem ready_after {j k : Nat} {listed : Array Bool} (hs : Says md ops E) (hk : Kept E listed) (hj : j ∈ Region.ready md ops listed) (he : E j k = true) : listed.getD k false = true := by
  obtain ⟨-, o, ho, hall⟩ := mem_ready.1 hj
  obtain ⟨e, hem, hb, h⟩ := hs j o k ho he
  have h1 := hall e hem hb
  rcases h with h | h
  · rw [← h]; exact h1
  · exact hk _ _ h1 h
theorem Kept.set {j : Nat} {listed : Array Bool} (hs : Says md ops E) (hk : Kept E listed) (hj : j ∈ Region.ready md ops listed) : Kept E (listed.setIfInBounds j true) := fun i k hi he => by
  by_cases hij : j = i
  · rw [← hij] at he; exact getD_set_true (ready_after hs hk hj he)
  · rw [getD_set_ne false hij] at hi; exact getD_set_true (hk _ _ hi he)
theorem unlisted {i : Nat} {listed : Array Bool} (h : listed.getD i true = false) : listed.getD i false = false := by
  by_cases hlt : i < listed.size
  · simp [hlt] at h ⊢; exact h
  · simp [Array.getElem?_eq_none (Nat.le_of_not_lt hlt)] at h
theorem Goes.first {i : Nat} {oi : Oper} {v : Value} (hi : ops[i]? = some oi) (hs : Says md ops E) (hZA : ∀ z a, Z z = true → A a = true → E z a = true) (hz : Z i = false)
    (hsel : ∀ (j : Nat) (o : Oper) cs b, ops[j]? = some o → o.op ≠ .select cs b) (hQ : ∀ c a w, Q (.panic c) (a.put oi.dst v) w → Q (.panic c) a w) :
    ∀ (fuel : Nat) (listed : Array Bool) (a : Act) (w : World),
      (∀ j oj, ops[j]? = some oj → j ≠ i → listed.getD j true = false → (∀ e ∈ oj.after, Region.binds md e = true → e.on ≠ i) → oi.apart ops oj = true) →
      i ∈ Region.ready md ops listed → Kept E listed → YieldsIf P ops (fun w => Sp w ∧ (A i = true → Se w)) oi v a → Holds Sp Se Z listed w →
      Goes P md ops Q Sp Se Z fuel (listed.setIfInBounds i true) (a.put oi.dst v) w → Goes P md ops Q Sp Se Z (fuel + 1) listed a w := by
  have soon : ∀ listed : Array Bool, i ∈ Region.ready md ops listed → Kept E listed → A i = true → Soon Z listed := fun listed hr hk ha z hzz => by
    cases h : listed.getD z false with
    | false => rfl
    | true =>
      have := hk z i h (hZA z i hzz ha)
      rw [unlisted (mem_ready.1 hr).1] at this; cases this
  intro fuel
  induction fuel with
  | zero =>
    intro listed a w _ hr hk hy hw hg
    refine ⟨fun h => absurd hr (by rw [h]; simp), fun j hj => ?_⟩
    by_cases hji : j = i
    · rw [hji]; exact hy.wpOp hi ⟨hw.1, fun ha => hw.2 (soon _ hr hk ha)⟩ ⟨⟨hw.1, fun h => hw.2 ((Soon.other hz).1 h)⟩, hg⟩
    · have := ready_mono hj hji
      rw [hg.1] at this; exact absurd this (by simp)
  | succ n ih =>
    intro listed a w hap hr hk hy hw hg
    refine ⟨fun h => absurd hr (by rw [h]; simp), fun j hj => ?_⟩
    by_cases hji : j = i
    · rw [hji]; exact hy.wpOp hi ⟨hw.1, fun ha => hw.2 (soon _ hr hk ha)⟩ ⟨⟨hw.1, fun h => hw.2 ((Soon.other hz).1 h)⟩, hg⟩
    · obtain ⟨hun, oj, hoj, hall⟩ := mem_ready.1 hj
      have hin := unlisted (mem_ready.1 hr).1
      have hnot : ∀ e ∈ oj.after, Region.binds md e = true → e.on ≠ i := fun e he hb h => by
        have h1 := hall e he hb
        rw [h, hin] at h1; cases h1
      have h1 := wpOp_putIf hoj (hap j oj hoj hji hun hnot) (fun cs b => hsel i oi cs b hi) (fun cs b => hsel j oj cs b hoj) hQ hy (hg.2 j (ready_mono hj hji))
      refine wpOp_mono (fun a' w' h2 => ?_) h1
      obtain ⟨hy2, hw2, hg2⟩ := h2
      rw [Array.setIfInBounds_comm _ _ (Ne.symm hji)] at hw2 hg2
      have hw3 : Holds Sp Se Z (listed.setIfInBounds j true) w' := ⟨hw2.1, fun h => hw2.2 ((Soon.other hz).2 h)⟩
      refine ⟨hw3, ih _ _ _ (fun m om hom hmi hmu hno => hap m om hom hmi ?_ hno) (ready_mono hr (Ne.symm hji)) (hk.set hs hj) hy2 hw3 hg2⟩
      by_cases hjm : j = m
      · rw [← hjm]; exact hun
      · rwa [getD_set_ne true hjm] at hmu
/-- Which operations come up ahead of which, as a table. -/
def tabE (t : List (Nat × List Nat)) (j k : Nat) : Bool := t.any fun p => p.1 == j && p.2.contains k
/-- The table is the operations', and none of them chooses; each late one waits for each early one. -/
def tabB (md : Region.Mode) (ops : Array Oper) (t : List (Nat × List Nat)) (a z : List Nat) : Bool :=
  Region.noSelect ops && (t.all fun p => p.2.all fun k => match ops[p.1]? with
    | some o => o.after.any fun e => Region.binds md e && (e.on == k || tabE t e.on k)
    | none => true) && z.all fun i => a.all fun k => tabE t i k
def keptB (t : List (Nat × List Nat)) (listed : Array Bool) : Bool := t.all fun p => !listed.getD p.1 false || p.2.all fun k => listed.getD k false
theorem tabE_iff {t : List (Nat × List Nat)} {j k : Nat} : tabE t j k = true ↔ ∃ ks, (j, ks) ∈ t ∧ k ∈ ks := by
  unfold tabE
  rw [List.any_eq_true]
  constructor
  · rintro ⟨⟨i, ks⟩, h, h2⟩
    simp at h2
    obtain ⟨rfl, h3⟩ := h2
    exact ⟨ks, h, h3⟩
  · rintro ⟨ks, h, h2⟩
    exact ⟨_, h, by simp [h2]⟩
theorem kept_of {t : List (Nat × List Nat)} {listed : Array Bool} (h : keptB t listed = true) : Kept (tabE t) listed := fun j k hj he => by
  obtain ⟨ks, h1, h2⟩ := tabE_iff.1 he
  have h3 := List.all_eq_true.1 h _ h1
  simp only [hj, Bool.not_true, Bool.false_or] at h3
  exact List.all_eq_true.1 h3 _ h2
theorem says_of {t : List (Nat × List Nat)} {a z : List Nat} (h : tabB md ops t a z = true) : Says md ops (tabE t) := fun j o k ho he => by
  simp only [tabB, Bool.and_eq_true] at h
  obtain ⟨ks, h1, h2⟩ := tabE_iff.1 he
  have h3 := List.all_eq_true.1 (List.all_eq_true.1 h.1.2 _ h1) _ h2
  simp only [ho] at h3
  obtain ⟨e, he, hb⟩ := Array.any_eq_true'.1 h3
  simp only [Bool.and_eq_true, Bool.or_eq_true, beq_iff_eq] at hb
  exact ⟨e, he, hb.1, hb.2⟩
theorem Goes.take {t : List (Nat × List Nat)} {es zs : List Nat} (i : Nat) (d : Option Nat) (v : Value) {oi : Oper} {fuel : Nat} {listed : Array Bool} {a : Act} {w : World} (ht : tabB md ops t es zs = true) (hk : keptB t listed = true) (hi : ops[i]? = some oi) (hd : oi.dst = d) (hz : zs.contains i = false)
    (hf : Region.free md ops listed i = true) (hr : (Region.ready md ops listed).contains i = true) (hQ : ∀ c a w, Q (.panic c) (a.put d v) w → Q (.panic c) a w)
    (hy : YieldsIf P ops (fun w => Sp w ∧ (es.contains i = true → Se w)) oi v a) (hw : Holds Sp Se (zs.contains ·) listed w)
    (h : Holds Sp Se (zs.contains ·) (listed.setIfInBounds i true) w → Goes P md ops Q Sp Se (zs.contains ·) fuel (listed.setIfInBounds i true) (a.put d v) w) : Goes P md ops Q Sp Se (zs.contains ·) (fuel + 1) listed a w := by
  subst hd
  have hs := says_of ht
  simp only [tabB, Bool.and_eq_true] at ht
  refine Goes.first (A := (es.contains ·)) (E := tabE t) hi hs (fun z a hz ha => ?_) hz (Region.noSelect_spec ht.1.1) hQ fuel listed a w (Region.free_spec hi hf) (by simpa using hr) (kept_of hk) hy hw (h ⟨hw.1, fun h2 => hw.2 ((Soon.other hz).1 h2)⟩)
  exact List.all_eq_true.1 (List.all_eq_true.1 ht.2 z (by simpa using hz)) a (by simpa using ha)
/-- One operation alone may come up. -/
theorem Goes.one {Z : Nat → Bool} {i : Nat} {oi : Oper} {fuel : Nat} {listed : Array Bool} {a : Act} {w : World} (hi : ops[i]? = some oi) (hr : Region.ready md ops listed = [i]) (hw : Region.wanted oi (yielded ops a.tmps) = true)
    (h : ∀ K : Act → World → Prop, (∀ a' w', Holds Sp Se Z (listed.setIfInBounds i true) w' → (Holds Sp Se Z (listed.setIfInBounds i true) w' → Goes P md ops Q Sp Se Z fuel (listed.setIfInBounds i true) a' w') → K a' w') → Oper.wp P oi a w K Q) : Goes P md ops Q Sp Se Z (fuel + 1) listed a w := by
  refine ⟨fun h0 => (by rw [h0] at hr; cases hr), fun j hj => ?_⟩
  obtain rfl : j = i := by rw [hr] at hj; simpa using hj
  unfold wpOp
  simp only [hi, hw, if_true]
  exact .inl (h _ fun a' w' h1 h2 => ⟨h1, h2 h1⟩)
theorem Goes.done {Z : Nat → Bool} {listed : Array Bool} {a : Act} {w : World} (hr : Region.ready md ops listed = []) (h : Q .normal a w) : ∀ fuel, Goes P md ops Q Sp Se Z fuel listed a w
  | 0 => ⟨hr, h⟩
  | _ + 1 => ⟨fun _ => h, fun i hi => by rw [hr] at hi; cases hi⟩
theorem wp_region_goes {Z : Nat → Bool} {id : Nat} {a : Act} {w : World} (hm : P.follows .mixedOrders = true) (h : Goes P .any ops Q Sp Se Z ops.size (Array.replicate ops.size false) a w.drew) : (Code.region id ops true).wp P Q a w :=
  wp_region_any hm (Goes.any _ _ _ _ h)
end

section
variable {P : Program} {ops : Array Oper} {Q : Exit → Act → World → Prop} {md : Region.Mode} {Sp Se : World → Prop}
theorem goes_take {t : List (Nat × List Nat)} {es zs : List Nat} (i : Nat) (d : Option Nat) (v : Value) {oi : Oper} {fuel : Nat} {listed : Array Bool} {a : Act} {w : World} (ht : tabB md ops t es zs = true) (hi : ops[i]? = some oi) (hd : oi.dst = d)
    (hm : (mayB md ops listed i && keptB t listed && !zs.contains i) = true) (hQ : ∀ c a w, Q (.panic c) (a.put d v) w → Q (.panic c) a w) (hwt : Region.wanted oi (yielded ops a.tmps) = true)
    (hy : ∀ w, (Sp w ∧ (es.contains i = true → Se w)) → (execOp a.eval oi).run P w = .ok (.value v) w) (hw : Holds Sp Se (zs.contains ·) listed w)
    (h : Holds Sp Se (zs.contains ·) (listed.setIfInBounds i true) w → Goes P md ops Q Sp Se (zs.contains ·) fuel (listed.setIfInBounds i true) (a.put d v) w) : Goes P md ops Q Sp Se (zs.contains ·) (fuel + 1) listed a w := by
  simp only [mayB, Bool.and_eq_true, Bool.not_eq_true'] at hm
  exact Goes.take i d v ht hm.1.2 hi hd hm.2 hm.1.1.1.2 hm.1.1.2 hQ (Or.inl ⟨hwt, hy⟩) hw h
theorem goes_call {Z : Nat → Bool} {fuel : Nat} {listed : Array Bool} {a : Act} {w : World} {oi : Oper} (i : Nat) (d : Option Nat) (f : FuncId) (xs : List Operand) (ts : Array TypeId) (hi : ops[i]? = some oi) (hd : oi.dst = d)
    (hr : Region.ready md ops listed = [i]) (hw : Region.wanted oi (yielded ops a.tmps) = true) (hop : oi.op = Op.call { callee := Callee.value (Operand.func f), args := xs.toArray, argTypes := ts }) (eg : ∀ args w, (callFunc f args).run P w = .ok (.enter f args) w)
    {args : List Value} {R : Ending → World → Prop} (hc : Calls P f args.toArray w R) (ha : xs.map a.eval = args) (hK : ∀ e w', R e w' → ∃ v, e = .returned v ∧ Holds Sp Se Z (listed.setIfInBounds i true) w' ∧ (Holds Sp Se Z (listed.setIfInBounds i true) w' → Goes P md ops Q Sp Se Z fuel (listed.setIfInBounds i true) (a.put d v) w')) :
    Goes P md ops Q Sp Se Z (fuel + 1) listed a w := by
  subst hd
  refine Goes.one hi hr hw fun K hKK => ?_
  have he : (execOp a.eval oi).run P w = .ok (.enter f args.toArray) w := by
    subst ha
    simp only [execOp, hop, resolve, Act.eval, Sem.run_bind, Result.andThen]
    simp [invoke, eg, go_sem]
  unfold Oper.wp
  rw [he, Oper.upon_enter]
  refine hc.mono fun e w' h => ?_
  obtain ⟨v, rfl, hs, hk⟩ := hK e w' h
  exact hKK _ _ hs hk
/-- A late operation: of the world behind it nothing is asked but what follows. -/
theorem goes_late {zs : List Nat} {fuel : Nat} {listed : Array Bool} {a : Act} {w : World} {oi : Oper} (i : Nat) (hi : ops[i]? = some oi) (hr : Region.ready md ops listed = [i]) (hw : Region.wanted oi (yielded ops a.tmps) = true)
    (hz : (zs.any fun z => (listed.setIfInBounds i true).getD z false) = true) (hS : ∀ w', Sp w')
    (h : ∀ K : Act → World → Prop, Shut (∀ a' w', Goes P md ops Q Sp Se (zs.contains ·) fuel (listed.setIfInBounds i true) a' w' → K a' w') → Oper.wp P oi a w K Q) : Goes P md ops Q Sp Se (zs.contains ·) (fuel + 1) listed a w := by
  refine Goes.one hi hr hw fun K hKK => h K fun a' w' hq => hKK a' w' ⟨hS w', fun hs => ?_⟩ fun _ => hq
  obtain ⟨z, hz1, hz2⟩ := List.any_eq_true.1 hz
  rw [hs z (by simpa using hz1)] at hz2
  cases hz2
end
end Go.Proofs.YtmjcjaecaigahaaDoor
namespace Go.Proofs.YtmjcjaecaigahaaDoor
open Go.RowKit Go.Lib

section
variable {P : Program} {ops : Array Oper} {Q : Exit → Act → World → Prop} {md : Region.Mode} {S : World → Prop}
/-- What more memory doesn't spoil, and what meets S. -/
def Calm (S I : World → Prop) : Prop := (∀ w, I w → S w) ∧ ∀ w w', I w → Below w.heap.size w w' → I w'
/-- In each world that meets S the operation yields v, and at most makes memory. -/
def Early (P : Program) (ops : Array Oper) (S : World → Prop) (o : Oper) (v : Value) (a : Act) : Prop :=
  (Region.wanted o (yielded ops a.tmps) = true ∧ ∀ w, S w → (execOp a.eval o).run P w = .ok (.value v) w ∨
    ∃ f args, (execOp a.eval o).run P w = .ok (.enter f args) w ∧ Calls P f args w fun e w' => e = .returned v ∧ Below w.heap.size w w') ∨
  (Region.wanted o (yielded ops a.tmps) = false ∧ v = undef)
theorem Early.same {o : Oper} {v : Value} {a a' : Act} (h : Early P ops S o v a) (he : execOp a'.eval o = execOp a.eval o) (hw : Region.wanted o (yielded ops a'.tmps) = Region.wanted o (yielded ops a.tmps)) : Early P ops S o v a' := by
  unfold Early at *; rw [he, hw]; exact h
theorem Early.op {i : Nat} {o : Oper} {v : Value} {a : Act} {w : World} {K : Act → World → Prop} (hi : ops[i]? = some o) (h : Early P ops S o v a) (hS : S w) (hK : ∀ w', Below w.heap.size w w' → K (a.put o.dst v) w') : wpOp P ops Q i K a w := by
  unfold wpOp
  simp only [hi]
  rcases h with ⟨hw, h⟩ | ⟨hw, rfl⟩
  · simp only [hw, if_true]
    refine .inl ?_
    rcases h w hS with h1 | ⟨f, args, h1, h2⟩
    · unfold Oper.wp; rw [h1]; exact hK _ (Below.refl _ _)
    · unfold Oper.wp
      rw [h1, Oper.upon_enter]
      refine h2.mono fun e w' h3 => ?_
      obtain ⟨rfl, h4⟩ := h3
      exact hK _ h4
  · simp only [hw, Bool.false_eq_true, if_false]; exact hK _ (Below.refl _ _)
/-- Two operations that don't touch: what the one has put makes no difference to the other, nor the other way around. -/
theorem wpOp_swap {j : Nat} {oi oj : Oper} {v : Value} (hj : ops[j]? = some oj) (hap : oi.apart ops oj = true) (hsi : ∀ cs b, oi.op ≠ .select cs b) (hsj : ∀ cs b, oj.op ≠ .select cs b)
    (hQ : ∀ c a w, Q (.panic c) (a.put oi.dst v) w → Q (.panic c) a w) {K : Act → World → Prop} {a : Act} {w : World} (hy : Early P ops S oi v a) (h : wpOp P ops Q j K (a.put oi.dst v) w) :
    wpOp P ops Q j (fun a' w' => Early P ops S oi v a' ∧ K (a'.put oi.dst v) w') a w := by
  obtain ⟨h1, h2, h3⟩ := Oper.apart_spec hap
  have kp : ∀ (a : Act), Early P ops S oi v a → ∀ u, Early P ops S oi v (a.put oj.dst u) := fun a hy u => hy.same (execOp_put oi hsi a oj.dst u h3) (wanted_put oi a oj.dst u h3)
  have kd : ∀ d, Early P ops S oi v { a with defers := d :: a.defers } := fun d => hy.same rfl rfl
  unfold wpOp at *
  simp only [hj] at *
  rw [wanted_put oj a oi.dst v h1] at h
  split
  · rename_i hw
    simp only [hw, if_true] at h
    rcases h with h | ⟨hasks, hlets⟩
    case inr => exact .inr ⟨by unfold Oper.asks at *; rw [execOp_put oj hsj a oi.dst v h1] at hasks; exact hasks, hlets⟩
    refine .inl ?_
    unfold Oper.wp at *
    rw [execOp_put oj hsj a oi.dst v h1] at h
    generalize (execOp a.eval oj).run P w = r at *
    have pc : ∀ u, (a.put oi.dst v).put oj.dst u = (a.put oj.dst u).put oi.dst v := fun u => Act.put_comm a v u h2
    cases r with
    | ok n w' =>
      cases n <;> simp only [Oper.upon] at h ⊢
      case value u => exact ⟨kp a hy u, by rw [← pc u]; exact h⟩
      case skip => exact ⟨kp a hy _, by rw [← pc undef]; exact h⟩
      case defer d =>
        refine ⟨kp _ (kd d) _, ?_⟩
        rw [← Act.put_comm _ v undef h2, ← Act.put_defers]
        exact h
      case enter f args =>
        refine Calls.mono h fun e w'' he => ?_
        cases e with
        | returned u => exact ⟨kp a hy u, by rw [← pc u]; exact he⟩
        | panicked c => exact hQ _ _ _ he
        | outgrown => exact he
      case row row args => exact Rows.mono h fun u w'' he => ⟨kp a hy u, by rw [← pc u]; exact he⟩
    | halt x w' =>
      cases x <;> simp only [Oper.upon] at h ⊢
      case panic u => exact hQ _ _ _ h
  · rename_i hw
    simp only [hw] at h
    exact ⟨kp a hy _, by rw [← Act.put_comm a v undef h2]; exact h⟩
/-- In whatever order the rest comes up, from each world that meets I. -/
def Grow (P : Program) (md : Region.Mode) (ops : Array Oper) (Q : Exit → Act → World → Prop) (S : World → Prop) : Nat → Array Bool → Act → (World → Prop) → Prop
  | 0, listed, a, I => Region.ready md ops listed = [] ∧ ∀ w, I w → Q .normal a w
  | fuel + 1, listed, a, I => (Region.ready md ops listed = [] → ∀ w, I w → Q .normal a w) ∧
      ∀ i, i ∈ Region.ready md ops listed → ∀ w, I w → wpOp P ops Q i (fun a' w' => ∃ I', Calm S I' ∧ I' w' ∧ Grow P md ops Q S fuel (listed.setIfInBounds i true) a' I') a w
theorem Grow.any : ∀ (fuel : Nat) (listed : Array Bool) (a : Act) (I : World → Prop) (w : World), Grow P md ops Q S fuel listed a I → I w → wpAny P md ops Q fuel listed a w
  | 0, _, _, _, w, h, hw => ⟨h.1, h.2 w hw⟩
  | n + 1, _, _, _, w, h, hw => ⟨fun h0 => h.1 h0 w hw, fun i hi => wpOp_mono (fun _ _ h2 => by
      obtain ⟨I', _, h3, h4⟩ := h2
      exact Grow.any n _ _ I' _ h4 h3) (h.2 i hi w hw)⟩
theorem Grow.first {i : Nat} {oi : Oper} {v : Value} (hi : ops[i]? = some oi) (hsel : ∀ (j : Nat) (o : Oper) cs b, ops[j]? = some o → o.op ≠ .select cs b) (hQ : ∀ c a w, Q (.panic c) (a.put oi.dst v) w → Q (.panic c) a w) :
    ∀ (fuel : Nat) (listed : Array Bool) (a : Act) (I : World → Prop),
      (∀ j oj, ops[j]? = some oj → j ≠ i → listed.getD j true = false → (∀ e ∈ oj.after, Region.binds md e = true → e.on ≠ i) → oi.apart ops oj = true) →
      i ∈ Region.ready md ops listed → Early P ops S oi v a → Calm S I →
      Grow P md ops Q S fuel (listed.setIfInBounds i true) (a.put oi.dst v) I → Grow P md ops Q S (fuel + 1) listed a I := by
  intro fuel
  induction fuel with
  | zero =>
    intro listed a I _ hr hy hI H
    refine ⟨fun h => (by rw [h] at hr; cases hr), fun j hj w hw => ?_⟩
    by_cases hji : j = i
    · subst hji
      exact hy.op hi (hI.1 w hw) fun w' hb => ⟨I, hI, hI.2 w w' hw hb, H⟩
    · have := ready_mono hj hji
      rw [H.1] at this
      cases this
  | succ fuel ih =>
    intro listed a I hfree hr hy hI H
    refine ⟨fun h => (by rw [h] at hr; cases hr), fun j hj w hw => ?_⟩
    by_cases hji : j = i
    · subst hji
      exact hy.op hi (hI.1 w hw) fun w' hb => ⟨I, hI, hI.2 w w' hw hb, H⟩
    · obtain ⟨hjun, oj, hoj, hall⟩ := mem_ready.1 hj
      have hin := unlisted (mem_ready.1 hr).1
      have hnot : ∀ e ∈ oj.after, Region.binds md e = true → e.on ≠ i := fun e he hb heq => by
        have h1 := hall e he hb
        rw [heq, hin] at h1; cases h1
      have h2 := wpOp_swap hoj (hfree j oj hoj hji hjun hnot) (fun cs b => hsel i oi cs b hi) (fun cs b => hsel j oj cs b hoj) hQ hy (H.2 j (ready_mono hj hji) w hw)
      have hfree' : ∀ k ok, ops[k]? = some ok → k ≠ i → (listed.setIfInBounds j true).getD k true = false → (∀ e ∈ ok.after, Region.binds md e = true → e.on ≠ i) → oi.apart ops ok = true := fun k ok hk hki hun hno => by
        refine hfree k ok hk hki ?_ hno
        by_cases hjk : j = k
        · subst hjk; exact hjun
        · rw [getD_set_ne true hjk] at hun; exact hun
      refine wpOp_mono (fun a' w' h3 => ?_) h2
      obtain ⟨hy3, I', hI', hw3, h4⟩ := h3
      refine ⟨I', hI', hw3, ih (listed.setIfInBounds j true) a' I' hfree' (ready_mono hr (Ne.symm hji)) hy3 hI' ?_⟩
      rw [Array.setIfInBounds_comm _ _ hji]
      exact h4
/-- A copy, an address, arithmetic, a load. -/
theorem grow_take {fuel : Nat} {listed : Array Bool} {a : Act} {I : World → Prop} {oi : Oper} (i : Nat) (d : Option Nat) (v : Value) (hi : ops[i]? = some oi) (hd : oi.dst = d) (hm : mayB md ops listed i = true)
    (hQ : ∀ c a w, Q (.panic c) (a.put d v) w → Q (.panic c) a w) (hw : Region.wanted oi (yielded ops a.tmps) = true) (hI : Calm S I) (hy : ∀ w, S w → (execOp a.eval oi).run P w = .ok (.value v) w)
    (h : Grow P md ops Q S fuel (listed.setIfInBounds i true) (a.put d v) I) : Grow P md ops Q S (fuel + 1) listed a I := by
  subst hd
  simp only [mayB, Bool.and_eq_true] at hm
  exact Grow.first hi (Region.noSelect_spec hm.1.1) hQ fuel listed a I (Region.free_spec hi hm.1.2) (by simpa using hm.2) (.inl ⟨hw, fun w hS => .inl (hy w hS)⟩) hI h
/-- A call that returns the same, whatever the world. -/
theorem grow_call {fuel : Nat} {listed : Array Bool} {a : Act} {I : World → Prop} {oi : Oper} (i : Nat) (d : Option Nat) (v : Value) (f : FuncId) (xs : List Operand) (ts : Array TypeId) (hi : ops[i]? = some oi) (hd : oi.dst = d) (hm : mayB md ops listed i = true)
    (hQ : ∀ c a w, Q (.panic c) (a.put d v) w → Q (.panic c) a w) (hw : Region.wanted oi (yielded ops a.tmps) = true) (hI : Calm S I)
    (hop : oi.op = Op.call { callee := Callee.value (Operand.func f), args := xs.toArray, argTypes := ts }) (eg : ∀ args w, (callFunc f args).run P w = .ok (.enter f args) w)
    {args : List Value} (hc : ∀ w, S w → Calls P f args.toArray w fun e w' => e = .returned v ∧ Below w.heap.size w w') (ha : xs.map a.eval = args)
    (h : Grow P md ops Q S fuel (listed.setIfInBounds i true) (a.put d v) I) : Grow P md ops Q S (fuel + 1) listed a I := by
  subst hd
  simp only [mayB, Bool.and_eq_true] at hm
  refine Grow.first hi (Region.noSelect_spec hm.1.1) hQ fuel listed a I (Region.free_spec hi hm.1.2) (by simpa using hm.2) (.inl ⟨hw, fun w hS => .inr ⟨f, args.toArray, ?_, hc w hS⟩⟩) hI h
  subst ha
  simp only [execOp, hop, resolve, Act.eval, Sem.run_bind, Result.andThen]
  simp [invoke, eg, go_sem]
/-- The same, where the function is a value. -/
theorem grow_enter {fuel : Nat} {listed : Array Bool} {a : Act} {I : World → Prop} {oi : Oper} (i : Nat) (d : Option Nat) (v : Value) (f : FuncId) (args : Array Value) (hi : ops[i]? = some oi) (hd : oi.dst = d) (hm : mayB md ops listed i = true)
    (hQ : ∀ c a w, Q (.panic c) (a.put d v) w → Q (.panic c) a w) (hw : Region.wanted oi (yielded ops a.tmps) = true) (hI : Calm S I)
    (hc : ∀ w, S w → Calls P f args w fun e w' => e = .returned v ∧ Below w.heap.size w w') (hy : ∀ w, S w → (execOp a.eval oi).run P w = .ok (.enter f args) w)
    (h : Grow P md ops Q S fuel (listed.setIfInBounds i true) (a.put d v) I) : Grow P md ops Q S (fuel + 1) listed a I := by
  subst hd
  simp only [mayB, Bool.and_eq_true] at hm
  exact Grow.first hi (Region.noSelect_spec hm.1.1) hQ fuel listed a I (Region.free_spec hi hm.1.2) (by simpa using hm.2) (.inl ⟨hw, fun w hS => .inr ⟨f, args, hy w hS, hc w hS⟩⟩) hI h
theorem grow_done {listed : Array Bool} {a : Act} {I : World → Prop} (hr : Region.ready md ops listed = []) (h : ∀ w, I w → Q .normal a w) : ∀ fuel, Grow P md ops Q S fuel listed a I
  | 0 => ⟨hr, h⟩
  | _ + 1 => ⟨fun _ => h, fun i hi => by rw [hr] at hi; cases hi⟩
/-- Whichever comes up. -/
def GrowEach (P : Program) (md : Region.Mode) (ops : Array Oper) (Q : Exit → Act → World → Prop) (S : World → Prop) (fuel : Nat) (listed : Array Bool) (a : Act) (I : World → Prop) (rs : List Nat) : Prop :=
  ∀ i, i ∈ rs → ∀ w, I w → wpOp P ops Q i (fun a' w' => ∃ I', Calm S I' ∧ I' w' ∧ Grow P md ops Q S fuel (listed.setIfInBounds i true) a' I') a w
theorem grow_nil {fuel : Nat} {listed : Array Bool} {a : Act} {I : World → Prop} : GrowEach P md ops Q S fuel listed a I [] := fun _ h => by cases h
theorem grow_cons {fuel : Nat} {listed : Array Bool} {a : Act} {I : World → Prop} {rs : List Nat} {oi : Oper} (i : Nat) (hi : ops[i]? = some oi) (hw : Region.wanted oi (yielded ops a.tmps) = true)
    (h : ∀ w, I w → ∀ K : Act → World → Prop, Shut (∀ a' w' (I' : World → Prop), Calm S I' → I' w' → Grow P md ops Q S fuel (listed.setIfInBounds i true) a' I' → K a' w') → Oper.wp P oi a w K Q)
    (hs : GrowEach P md ops Q S fuel listed a I rs) : GrowEach P md ops Q S fuel listed a I (i :: rs) := fun j hj => by
  rcases List.mem_cons.1 hj with rfl | hj
  · intro w hIw
    unfold wpOp
    simp only [hi, hw, if_true]
    exact .inl (h w hIw _ fun a' w' I' h1 h2 h3 => ⟨I', h1, h2, h3⟩)
  · exact hs j hj
theorem grow_each {fuel : Nat} {listed : Array Bool} {a : Act} {I : World → Prop} (rs : List Nat) (hr : Region.ready md ops listed = rs) (hne : rs ≠ []) (h : GrowEach P md ops Q S fuel listed a I rs) : Grow P md ops Q S (fuel + 1) listed a I := by
  subst hr
  exact ⟨fun h0 => absurd h0 hne, h⟩
theorem wp_region_grow {id : Nat} {a : Act} {w : World} (I : World → Prop) (hm : P.follows .mixedOrders = true) (hI : Calm S I) (h0 : I w.drew) (h : Calm S I → Grow P .any ops Q S ops.size (Array.replicate ops.size false) a I) : (Code.region id ops true).wp P Q a w :=
  wp_region_any hm (Grow.any _ _ _ I _ (h hI) h0)
end
end Go.Proofs.YtmjcjaecaigahaaDoor
namespace Go.Proofs.YtmjcjaecaigahaaDoor
open Go.RowKit Go.Lib

section
variable {n : Nat} {P : Program} {ops : Array Oper} {Q : Exit → Act → World → Prop} {md : Region.Mode} {S : World → Prop} {Z : Nat → Bool} {E : Nat → Nat → Bool}
theorem Early.opIn {i : Nat} {o : Oper} {v : Value} {a : Act} {w : World} {K : Act → World → Prop} (hi : ops[i]? = some o) (h : Early P ops S o v a) (hS : S w) (hK : ∀ w', Below w.heap.size w w' → K (a.put o.dst v) w') : wpOpIn Fence.wide n P ops Q i K a w := by
  unfold wpOpIn
  simp only [hi]
  have hab : ∀ f, o.about P w a.eval = some f → Fence.wide.fn f := fun _ _ => trivial
  rcases h with ⟨hw, h⟩ | ⟨hw, rfl⟩
  · simp only [hw, if_true]
    refine ⟨hab, ?_⟩
    rw [show Fence.wide.round = none from rfl, Oper.semAt_none]
    rcases h w hS with h1 | ⟨f, args, h1, h2⟩
    · rw [h1]; exact hK _ (Below.refl _ _)
    · rw [h1, Oper.uponIn_enter]
      refine ⟨fun h3 => (by cases h3), (callsIn_wide.2 h2).mono fun e w' h3 => ?_⟩
      obtain ⟨rfl, h4⟩ := h3
      exact hK _ h4
  · simp only [hw, Bool.false_eq_true, if_false]; exact ⟨hab, hK _ (Below.refl _ _)⟩
theorem wpOpIn_swap {j : Nat} {oi oj : Oper} {v : Value} (hj : ops[j]? = some oj) (hap : oi.apart ops oj = true) (hsi : ∀ cs b, oi.op ≠ .select cs b) (hsj : ∀ cs b, oj.op ≠ .select cs b)
    (hQ : ∀ c a w, Q (.panic c) (a.put oi.dst v) w → Q (.panic c) a w) {K : Act → World → Prop} {a : Act} {w : World} (hy : Early P ops S oi v a) (h : wpOpIn Fence.wide n P ops Q j K (a.put oi.dst v) w) :
    wpOpIn Fence.wide n P ops Q j (fun a' w' => Early P ops S oi v a' ∧ K (a'.put oi.dst v) w') a w := by
  obtain ⟨h1, h2, h3⟩ := Oper.apart_spec hap
  have kp : ∀ (a : Act), Early P ops S oi v a → ∀ u, Early P ops S oi v (a.put oj.dst u) := fun a hy u => hy.same (execOp_put oi hsi a oj.dst u h3) (wanted_put oi a oj.dst u h3)
  have kd : ∀ d, Early P ops S oi v { a with defers := d :: a.defers } := fun d => hy.same rfl rfl
  have pc : ∀ u, (a.put oi.dst v).put oj.dst u = (a.put oj.dst u).put oi.dst v := fun u => Act.put_comm a v u h2
  have hab : ∀ f, oj.about P w a.eval = some f → Fence.wide.fn f := fun _ _ => trivial
  unfold wpOpIn at *
  simp only [hj] at *
  rw [wanted_put oj a oi.dst v h1] at h
  split
  · rename_i hw
    simp only [hw, if_true] at h
    unfold Oper.wpIn at *
    refine ⟨hab, ?_⟩
    have h := h.2
    rw [show Fence.wide.round = none from rfl, Oper.semAt_none, execOp_put oj hsj a oi.dst v h1] at h
    rw [show Fence.wide.round = none from rfl, Oper.semAt_none]
    generalize (execOp a.eval oj).run P w = r at *
    cases r with
    | ok x w' =>
      cases x <;> simp only [Oper.uponIn] at h ⊢
      case value u => exact ⟨kp a hy u, by rw [← pc u]; exact h⟩
      case skip => exact ⟨kp a hy _, by rw [← pc undef]; exact h⟩
      case defer d =>
        refine ⟨kp _ (kd d) _, ?_⟩
        rw [← Act.put_comm _ v undef h2, ← Act.put_defers]
        exact h
      case enter f args =>
        refine ⟨h.1, CallsIn.mono h.2 fun e w'' he => ?_⟩
        cases e with
        | returned u => exact ⟨kp a hy u, by rw [← pc u]; exact he⟩
        | panicked c => exact hQ _ _ _ he
        | outgrown => exact he
      case row row args => exact ⟨h.1, RowsIn.mono h.2 fun u w'' he => ⟨kp a hy u, by rw [← pc u]; exact he⟩⟩
      case round l f tmps assign body =>
        refine ⟨h.1, RoundIn.mono h.2 fun e w'' he => ?_⟩
        cases e with
        | returned u => exact ⟨kp a hy u, by rw [← pc u]; exact he⟩
        | panicked c => exact hQ _ _ _ he
        | outgrown => exact he
    | halt x w' =>
      cases x <;> simp only [Oper.uponIn] at h ⊢
      case panic u => exact hQ _ _ _ h
  · rename_i hw
    simp only [hw] at h
    exact ⟨hab, kp a hy _, by rw [← Act.put_comm a v undef h2]; exact h.2⟩
/-- In whatever order the rest comes up, from each world that meets I; once a late one has come up, nothing is asked of I. -/
def GrowI (n : Nat) (P : Program) (md : Region.Mode) (ops : Array Oper) (Q : Exit → Act → World → Prop) (S : World → Prop) (Z : Nat → Bool) : Nat → Array Bool → Act → (World → Prop) → Prop
  | 0, listed, a, I => Region.ready md ops listed = [] ∧ ∀ w, I w → Q .normal a w
  | fuel + 1, listed, a, I => (Region.ready md ops listed = [] → ∀ w, I w → Q .normal a w) ∧
      ∀ i, i ∈ Region.ready md ops listed → ∀ w, I w → wpOpIn Fence.wide n P ops Q i (fun a' w' => ∃ I', (Soon Z (listed.setIfInBounds i true) → Calm S I') ∧ I' w' ∧ GrowI n P md ops Q S Z fuel (listed.setIfInBounds i true) a' I') a w
theorem GrowI.any : ∀ (fuel : Nat) (listed : Array Bool) (a : Act) (I : World → Prop) (w : World), GrowI n P md ops Q S Z fuel listed a I → I w → wpAnyIn Fence.wide n P md ops Q fuel listed a w
  | 0, _, _, _, w, h, hw => ⟨h.1, h.2 w hw⟩
  | n + 1, _, _, _, w, h, hw => ⟨fun h0 => h.1 h0 w hw, fun i hi => wpOpIn_mono (fun _ _ h2 => by
      obtain ⟨I', _, h3, h4⟩ := h2
      exact GrowI.any n _ _ I' _ h4 h3) (h.2 i hi w hw)⟩
theorem GrowI.first {i : Nat} {oi : Oper} {v : Value} (hi : ops[i]? = some oi) (hs : Says md ops E) (hZE : ∀ z, Z z = true → E z i = true) (hz : Z i = false)
    (hsel : ∀ (j : Nat) (o : Oper) cs b, ops[j]? = some o → o.op ≠ .select cs b) (hQ : ∀ c a w, Q (.panic c) (a.put oi.dst v) w → Q (.panic c) a w) :
    ∀ (fuel : Nat) (listed : Array Bool) (a : Act) (I : World → Prop),
      (∀ j oj, ops[j]? = some oj → j ≠ i → listed.getD j true = false → (∀ e ∈ oj.after, Region.binds md e = true → e.on ≠ i) → oi.apart ops oj = true) →
      i ∈ Region.ready md ops listed → Kept E listed → Early P ops S oi v a → Calm S I →
      GrowI n P md ops Q S Z fuel (listed.setIfInBounds i true) (a.put oi.dst v) I → GrowI n P md ops Q S Z (fuel + 1) listed a I := by
  intro fuel
  induction fuel with
  | zero =>
    intro listed a I _ hr _ hy hI H
    refine ⟨fun h => (by rw [h] at hr; cases hr), fun j hj w hw => ?_⟩
    by_cases hji : j = i
    · subst hji
      exact hy.opIn hi (hI.1 w hw) fun w' hb => ⟨I, fun _ => hI, hI.2 w w' hw hb, H⟩
    · have := ready_mono hj hji
      rw [H.1] at this
      cases this
  | succ fuel ih =>
    intro listed a I hfree hr hk hy hI H
    refine ⟨fun h => (by rw [h] at hr; cases hr), fun j hj w hw => ?_⟩
    by_cases hji : j = i
    · subst hji
      exact hy.opIn hi (hI.1 w hw) fun w' hb => ⟨I, fun _ => hI, hI.2 w w' hw hb, H⟩
    · obtain ⟨hjun, oj, hoj, hall⟩ := mem_ready.1 hj
      have hin := unlisted (mem_ready.1 hr).1
      have hnot : ∀ e ∈ oj.after, Region.binds md e = true → e.on ≠ i := fun e he hb heq => by
        have h1 := hall e he hb
        rw [heq, hin] at h1; cases h1
      have h2 := wpOpIn_swap hoj (hfree j oj hoj hji hjun hnot) (fun cs b => hsel i oi cs b hi) (fun cs b => hsel j oj cs b hoj) hQ hy (H.2 j (ready_mono hj hji) w hw)
      have hfree' : ∀ k ok, ops[k]? = some ok → k ≠ i → (listed.setIfInBounds j true).getD k true = false → (∀ e ∈ ok.after, Region.binds md e = true → e.on ≠ i) → oi.apart ops ok = true := fun k ok hk hki hun hno => by
        refine hfree k ok hk hki ?_ hno
        by_cases hjk : j = k
        · subst hjk; exact hjun
        · rw [getD_set_ne true hjk] at hun; exact hun
      have hk2 := hk.set hs hj
      have hsoon : Soon Z (listed.setIfInBounds j true) := fun z hzz => by
        cases h : (listed.setIfInBounds j true).getD z false with
        | false => rfl
        | true =>
          have := hk2 z i h (hZE z hzz)
          rw [getD_set_ne false hji, hin] at this; cases this
      refine wpOpIn_mono (fun a' w' h3 => ?_) h2
      obtain ⟨hy3, I', hI', hw3, h4⟩ := h3
      rw [Array.setIfInBounds_comm _ _ (Ne.symm hji)] at h4 hI'
      have hc := hI' ((Soon.other hz).2 hsoon)
      exact ⟨I', fun _ => hc, hw3, ih (listed.setIfInBounds j true) a' I' hfree' (ready_mono hr (Ne.symm hji)) hk2 hy3 hc h4⟩
end
end Go.Proofs.YtmjcjaecaigahaaDoor
namespace Go.Proofs.YtmjcjaecaigahaaDoor
open Go.RowKit Go.Lib

section
variable {P : Program} {ops : Array Oper} {Q : Exit → Act → World → Prop} {md : Region.Mode} {S : World → Prop}
theorem grow_skip {fuel : Nat} {listed : Array Bool} {a : Act} {I : World → Prop} {oi : Oper} (i : Nat) (d : Option Nat) (hi : ops[i]? = some oi) (hd : oi.dst = d) (hm : mayB md ops listed i = true)
    (hQ : ∀ c a w, Q (.panic c) (a.put d undef) w → Q (.panic c) a w) (hw : Region.wanted oi (yielded ops a.tmps) = false) (hI : Calm S I)
    (h : Grow P md ops Q S fuel (listed.setIfInBounds i true) (a.put d undef) I) : Grow P md ops Q S (fuel + 1) listed a I := by
  subst hd
  simp only [mayB, Bool.and_eq_true] at hm
  exact Grow.first hi (Region.noSelect_spec hm.1.1) hQ fuel listed a I (Region.free_spec hi hm.1.2) (by simpa using hm.2) (.inr ⟨hw, rfl⟩) hI h
end
end Go.Proofs.YtmjcjaecaigahaaDoor
