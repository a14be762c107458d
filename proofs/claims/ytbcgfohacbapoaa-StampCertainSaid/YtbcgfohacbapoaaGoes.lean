
/- Regions by hand: an operation may be taken first if it yields its value in every world that may be met before it has come up. No conditions. -/
import Derived.Test.YtbcgfohacbapoaaHel5
namespace Go.Proofs.Ytbcgfohacbapoaa
open Go.RowKit Go.Lib

section
variable {P : Program} {ops : Array Oper} {Q : Exit → Act → World → Prop} {md : Region.Mode} {Sp Se : World → Prop} {A Z : Nat → Bool} {E : Nat → Nat → Bool}
/-- 'E j k': operation k comes up ahead of operation j. The list of those that have come up obeys it. -/
def Kept (E : Nat → Nat → Bool) (listed : Array Bool) : Prop := ∀ j k, listed.getD j false = true → E j k = true → listed.getD k false = true
/-- The operations' own table says so of E. -/
def Says (md : Region.Mode) (ops : Array Oper) (E : Nat → Nat → Bool) : Prop := ∀ j o k, ops[j]? = some o → E j k = true → ∃ e ∈ o.after, Region.binds md e = true ∧ (e.on = k ∨ E e.on k = true)
/-- None of the late ones has come up. -/
def Soon (Z : Nat → Bool) (listed : Array Bool) : Prop := ∀ z, Z z = true → listed.getD z false = false
/-- What holds behind each operation: Sp; and Se, as long as no late one has come up. -/
def Holds (Sp Se : World → Prop) (Z : Nat → Bool) (listed : Array Bool) (w : World) : Prop := Sp w ∧ (Soon Z listed → Se w)
/-- In whatever order the rest comes up. -/
def Goes (P : Program) (md : Region.Mode) (ops : Array Oper) (Q : Exit → Act → World → Prop) (Sp Se : World → Prop) (Z : Nat → Bool) : Nat → Array Bool → Act → World → Prop
  | 0, listed, a, w => Region.ready md ops listed = [] ∧ Q .normal a w
  | fuel + 1, listed, a, w => (Region.ready md ops listed = [] → Q .normal a w) ∧
      ∀ i, i ∈ Region.ready md ops listed → wpOp P ops Q i (fun a' w' => Holds Sp Se Z (listed.setIfInBounds i true) w' ∧ Goes P md ops Q Sp Se Z fuel (listed.setIfInBounds i true) a' w') a w
theorem Goes.any : ∀ (fuel : Nat) (listed : Array Bool) (a : Act) (w : World), Goes P md ops Q Sp Se Z fuel listed a w → wpAny P md ops Q fuel listed a w
  | 0, _, _, _, h => h
  | n + 1, _, _, _, h => ⟨h.1, fun i hi => wpOp_mono (fun _ _ h2 => Goes.any n _ _ _ h2.2) (h.2 i hi)⟩
theorem Soon.other {i : Nat} {listed : Array Bool} (hz : Z i = false) : Soon Z (listed.setIfInBounds i true) ↔ Soon Z listed := by
  refine forall_congr' fun z => imp_congr_right fun h => ?_
  have : i ≠ z := fun e => by rw [e, h] at hz; cases hz
  rw [getD_set_ne false this]
theorem ready_after {j k : Nat} {listed : Array Bool} (hs : Says md ops E) (hk : Kept E listed) (hj : j ∈ Region.ready md ops listed) (he : E j k = true) : listed.getD k false = true := by
  obtain ⟨-, o, ho, hall⟩ := mem_ready.1 hj
  obtain ⟨e, hem, hb, h⟩ := hs j o k ho he
  have h1 := hall e hem hb
  rcases h with h | h
  · rw [← h]; exact h1
  · exact hk _ _ h1 h
theorem Kept.set {j : Nat} {listed : Array Bool} (hs : Says md ops E) (hk : Kept E listed) (hj : j ∈ Region.ready md ops listed) : Kept E (listed.setIfInBounds j true) := fun i k hi he => by
  by_cases hij : j = i
  · rw [← hij] at he; exact getD_set_true (ready_after hs hk hj he)
  · rw [getD_set_ne false hij] at hi; exact getD_set_true (hk _ _ hi he)
theorem unlisted {i : Nat} {listed : Array Bool} (h : listed.getD i true = false) : listed.getD i false = false := by
  by_cases hlt : i < listed.size
  · simp [hlt] at h ⊢; exact h
  · simp [Array.getElem?_eq_none (Nat.le_of_not_lt hlt)] at h
theorem Goes.first {i : Nat} {oi : Oper} {v : Value} (hi : ops[i]? = some oi) (hs : Says md ops E) (hZA : ∀ z a, Z z = true → A a = true → E z a = true) (hz : Z i = false)
    (hsel : ∀ (j : Nat) (o : Oper) cs b, ops[j]? = some o → o.op ≠ .select cs b) (hQ : ∀ c a w, Q (.panic c) (a.put oi.dst v) w → Q (.panic c) a w) :
    ∀ (fuel : Nat) (listed : Array Bool) (a : Act) (w : World),
      (∀ j oj, ops[j]? = some oj → j ≠ i → listed.getD j true = false → (∀ e ∈ oj.after, Region.binds md e = true → e.on ≠ i) → oi.apart ops oj = true) →
      i ∈ Region.ready md ops listed → Kept E listed → YieldsIf P ops (fun w => Sp w ∧ (A i = true → Se w)) oi v a → Holds Sp Se Z listed w →
      Goes P md ops Q Sp Se Z fuel (listed.setIfInBounds i true) (a.put oi.dst v) w → Goes P md ops Q Sp Se Z (fuel + 1) listed a w := by
  have soon : ∀ listed : Array Bool, i ∈ Region.ready md ops listed → Kept E listed → A i = true → Soon Z listed := fun listed hr hk ha z hzz => by
    cases h : listed.getD z false with
    | false => rfl
    | true =>
      have := hk z i h (hZA z i hzz ha)
      rw [unlisted (mem_ready.1 hr).1] at this; cases this
  intro fuel
  induction fuel with
  | zero =>
    intro listed a w _ hr hk hy hw hg
    refine ⟨fun h => absurd hr (by rw [h]; simp), fun j hj => ?_⟩
    by_cases hji : j = i
    · rw [hji]; exact hy.wpOp hi ⟨hw.1, fun ha => hw.2 (soon _ hr hk ha)⟩ ⟨⟨hw.1, fun h => hw.2 ((Soon.other hz).1 h)⟩, hg⟩
    · have := ready_mono hj hji
      rw [hg.1] at this; exact absurd this (by simp)
  | succ n ih =>
    intro listed a w hap hr hk hy hw hg
    refine ⟨fun h => absurd hr (by rw [h]; simp), fun j hj => ?_⟩
    by_cases hji : j = i
    · rw [hji]; exact hy.wpOp hi ⟨hw.1, fun ha => hw.2 (soon _ hr hk ha)⟩ ⟨⟨hw.1, fun h => hw.2 ((Soon.other hz).1 h)⟩, hg⟩
    · obtain ⟨hun, oj, hoj, hall⟩ := mem_ready.1 hj
      have hin := unlisted (mem_ready.1 hr).1
      have hnot : ∀ e ∈ oj.after, Region.binds md e = true → e.on ≠ i := fun e he hb h => by
        have h1 := hall e he hb
        rw [h, hin] at h1; cases h1
      have h1 := wpOp_putIf hoj (hap j oj hoj hji hun hnot) (fun cs b => hsel i oi cs b hi) (fun cs b => hsel j oj cs b hoj) hQ hy (hg.2 j (ready_mono hj hji))
      refine wpOp_mono (fun a' w' h2 => ?_) h1
      obtain ⟨hy2, hw2, hg2⟩ := h2
      rw [Array.setIfInBounds_comm _ _ (Ne.symm hji)] at hw2 hg2
      have hw3 : Holds Sp Se Z (listed.setIfInBounds j true) w' := ⟨hw2.1, fun h => hw2.2 ((Soon.other hz).2 h)⟩
      refine ⟨hw3, ih _ _ _ (fun m om hom hmi hmu hno => hap m om hom hmi ?_ hno) (ready_mono hr (Ne.symm hji)) (hk.set hs hj) hy2 hw3 hg2⟩
      by_cases hjm : j = m
      · rw [← hjm]; exact hun
      · rwa [getD_set_ne true hjm] at hmu
/-- Which operations come up ahead of which, as a table. -/
def tabE (t : List (Nat × List Nat)) (j k : Nat) : Bool := t.any fun p => p.1 == j && p.2.contains k
/-- The table is the operations', and none of them chooses; each late one waits for each early one. -/
def tabB (md : Region.Mode) (ops : Array Oper) (t : List (Nat × List Nat)) (a z : List Nat) : Bool :=
  Region.noSelect ops && (t.all fun p => p.2.all fun k => match ops[p.1]? with
    | some o => o.after.any fun e => Region.binds md e && (e.on == k || tabE t e.on k)
    | none => true) && z.all fun i => a.all fun k => tabE t i k
def keptB (t : List (Nat × List Nat)) (listed : Array Bool) : Bool := t.all fun p => !listed.getD p.1 false || p.2.all fun k => listed.getD k false
theorem tabE_iff {t : List (Nat × List Nat)} {j k : Nat} : tabE t j k = true ↔ ∃ ks, (j, ks) ∈ t ∧ k ∈ ks := by
  unfold tabE
  rw [List.any_eq_true]
  constructor
  · rintro ⟨⟨i, ks⟩, h, h2⟩
    simp at h2
    obtain ⟨rfl, h3⟩ := h2
    exact ⟨ks, h, h3⟩
  · rintro ⟨ks, h, h2⟩
    exact ⟨_, h, by simp [h2]⟩
theorem kept_of {t : List (Nat × List Nat)} {listed : Array Bool} (h : keptB t listed = true) : Kept (tabE t) listed := fun j k hj he => by
  obtain ⟨ks, h1, h2⟩ := tabE_iff.1 he
  have h3 := List.all_eq_true.1 h _ h1
  simp only [hj, Bool.not_true, Bool.false_or] at h3
  exact List.all_eq_true.1 h3 _ h2
theorem says_of {t : List (Nat × List Nat)} {a z : List Nat} (h : tabB md ops t a z = true) : Says md ops (tabE t) := fun j o k ho he => by
  simp only [tabB, Bool.and_eq_true] at h
  obtain ⟨ks, h1, h2⟩ := tabE_iff.1 he
  have h3 := List.all_eq_true.1 (List.all_eq_true.1 h.1.2 _ h1) _ h2
  simp only [ho] at h3
  obtain ⟨e, he, hb⟩ := Array.any_eq_true'.1 h3
  simp only [Bool.and_eq_true, Bool.or_eq_true, beq_iff_eq] at hb
  exact ⟨e, he, hb.1, hb.2⟩
theorem Goes.take {t : List (Nat × List Nat)} {es zs : List Nat} (i : Nat) (d : Option Nat) (v : Value) {oi : Oper} {fuel : Nat} {listed : Array Bool} {a : Act} {w : World} (ht : tabB md ops t es zs = true) (hk : keptB t listed = true) (hi : ops[i]? = some oi) (hd : oi.dst = d) (hz : zs.contains i = false)
    (hf : Region.free md ops listed i = true) (hr : (Region.ready md ops listed).contains i = true) (hQ : ∀ c a w, Q (.panic c) (a.put d v) w → Q (.panic c) a w)
    (hy : YieldsIf P ops (fun w => Sp w ∧ (es.contains i = true → Se w)) oi v a) (hw : Holds Sp Se (zs.contains ·) listed w)
    (h : Holds Sp Se (zs.contains ·) (listed.setIfInBounds i true) w → Goes P md ops Q Sp Se (zs.contains ·) fuel (listed.setIfInBounds i true) (a.put d v) w) : Goes P md ops Q Sp Se (zs.contains ·) (fuel + 1) listed a w := by
  subst hd
  have hs := says_of ht
  simp only [tabB, Bool.and_eq_true] at ht
  refine Goes.first (A := (es.contains ·)) (E := tabE t) hi hs (fun z a hz ha => ?_) hz (Region.noSelect_spec ht.1.1) hQ fuel listed a w (Region.free_spec hi hf) (by simpa using hr) (kept_of hk) hy hw (h ⟨hw.1, fun h2 => hw.2 ((Soon.other hz).1 h2)⟩)
  exact List.all_eq_true.1 (List.all_eq_true.1 ht.2 z (by simpa using hz)) a (by simpa using ha)
/-- One operation alone may come up. -/
theorem Goes.one {Z : Nat → Bool} {i : Nat} {oi : Oper} {fuel : Nat} {listed : Array Bool} {a : Act} {w : World} (hi : ops[i]? = some oi) (hr : Region.ready md ops listed = [i]) (hw : Region.wanted oi (yielded ops a.tmps) = true)
    (h : ∀ K : Act → World → Prop, (∀ a' w', Holds Sp Se Z (listed.setIfInBounds i true) w' → (Holds Sp Se Z (listed.setIfInBounds i true) w' → Goes P md ops Q Sp Se Z fuel (listed.setIfInBounds i true) a' w') → K a' w') → Oper.wp P oi a w K Q) : Goes P md ops Q Sp Se Z (fuel + 1) listed a w := by
  refine ⟨fun h0 => (by rw [h0] at hr; cases hr), fun j hj => ?_⟩
  obtain rfl : j = i := by rw [hr] at hj; simpa using hj
  unfold wpOp
  simp only [hi, hw, if_true]
  exact .inl (h _ fun a' w' h1 h2 => ⟨h1, h2 h1⟩)
theorem Goes.done {Z : Nat → Bool} {listed : Array Bool} {a : Act} {w : World} (hr : Region.ready md ops listed = []) (h : Q .normal a w) : ∀ fuel, Goes P md ops Q Sp Se Z fuel listed a w
  | 0 => ⟨hr, h⟩
  | _ + 1 => ⟨fun _ => h, fun i hi => by rw [hr] at hi; cases hi⟩
theorem wp_region_goes {Z : Nat → Bool} {id : Nat} {a : Act} {w : World} (hm : P.follows .mixedOrders = true) (h : Goes P .any ops Q Sp Se Z ops.size (Array.replicate ops.size false) a w.drew) : (Code.region id ops true).wp P Q a w :=
  wp_region_any hm (Goes.any _ _ _ _ h)
end

section
variable {P : Program} {ops : Array Oper} {Q : Exit → Act → World → Prop} {md : Region.Mode} {Sp Se : World → Prop}
theorem goes_take {t : List (Nat × List Nat)} {es zs : List Nat} (i : Nat) (d : Option Nat) (v : Value) {oi : Oper} {fuel : Nat} {listed : Array Bool} {a : Act} {w : World} (ht : tabB md ops t es zs = true) (hi : ops[i]? = some oi) (hd : oi.dst = d)
    (hm : (mayB md ops listed i && keptB t listed && !zs.contains i) = true) (hQ : ∀ c a w, Q (.panic c) (a.put d v) w → Q (.panic c) a w) (hwt : Region.wanted oi (yielded ops a.tmps) = true)
    (hy : ∀ w, (Sp w ∧ (es.contains i = true → Se w)) → (execOp a.eval oi).run P w = .ok (.value v) w) (hw : Holds Sp Se (zs.contains ·) listed w)
    (h : Holds Sp Se (zs.contains ·) (listed.setIfInBounds i true) w → Goes P md ops Q Sp Se (zs.contains ·) fuel (listed.setIfInBounds i true) (a.put d v) w) : Goes P md ops Q Sp Se (zs.contains ·) (fuel + 1) listed a w := by
  simp only [mayB, Bool.and_eq_true, Bool.not_eq_true'] at hm
  exact Goes.take i d v ht hm.1.2 hi hd hm.2 hm.1.1.1.2 hm.1.1.2 hQ (Or.inl ⟨hwt, hy⟩) hw h
theorem goes_call {Z : Nat → Bool} {fuel : Nat} {listed : Array Bool} {a : Act} {w : World} {oi : Oper} (i : Nat) (d : Option Nat) (f : FuncId) (xs : List Operand) (ts : Array TypeId) (hi : ops[i]? = some oi) (hd : oi.dst = d)
    (hr : Region.ready md ops listed = [i]) (hw : Region.wanted oi (yielded ops a.tmps) = true) (hop : oi.op = Op.call { callee := Callee.value (Operand.func f), args := xs.toArray, argTypes := ts }) (eg : ∀ args w, (callFunc f args).run P w = .ok (.enter f args) w)
    {args : List Value} {R : Ending → World → Prop} (hc : Calls P f args.toArray w R) (ha : xs.map a.eval = args) (hK : ∀ e w', R e w' → ∃ v, e = .returned v ∧ Holds Sp Se Z (listed.setIfInBounds i true) w' ∧ (Holds Sp Se Z (listed.setIfInBounds i true) w' → Goes P md ops Q Sp Se Z fuel (listed.setIfInBounds i true) (a.put d v) w')) :
    Goes P md ops Q Sp Se Z (fuel + 1) listed a w := by
  subst hd
  refine Goes.one hi hr hw fun K hKK => ?_
  have he : (execOp a.eval oi).run P w = .ok (.enter f args.toArray) w := by
    subst ha
    simp only [execOp, hop, resolve, Act.eval, Sem.run_bind, Result.andThen]
    simp [invoke, eg, go_sem]
  unfold Oper.wp
  rw [he, Oper.upon_enter]
  refine hc.mono fun e w' h => ?_
  obtain ⟨v, rfl, hs, hk⟩ := hK e w' h
  exact hKK _ _ hs hk
/-- An operation that stands alone, and keeps what the loads read. -/
theorem goes_step {Z : Nat → Bool} {fuel : Nat} {listed : Array Bool} {a : Act} {w : World} {oi : Oper} (i : Nat) (hi : ops[i]? = some oi) (hr : Region.ready md ops listed = [i]) (hw : Region.wanted oi (yielded ops a.tmps) = true)
    (h : ∀ K : Act → World → Prop, Shut (∀ a' w', Holds Sp Se Z (listed.setIfInBounds i true) w' → (Holds Sp Se Z (listed.setIfInBounds i true) w' → Goes P md ops Q Sp Se Z fuel (listed.setIfInBounds i true) a' w') → K a' w') → Oper.wp P oi a w K Q) : Goes P md ops Q Sp Se Z (fuel + 1) listed a w :=
  Goes.one hi hr hw fun K hKK => h K fun a' w' h1 h2 => hKK a' w' h1 h2
/-- A late operation: of the world behind it nothing is asked but what follows. -/
theorem goes_late {zs : List Nat} {fuel : Nat} {listed : Array Bool} {a : Act} {w : World} {oi : Oper} (i : Nat) (hi : ops[i]? = some oi) (hr : Region.ready md ops listed = [i]) (hw : Region.wanted oi (yielded ops a.tmps) = true)
    (hz : (zs.any fun z => (listed.setIfInBounds i true).getD z false) = true) (hS : ∀ w', Sp w')
    (h : ∀ K : Act → World → Prop, Shut (∀ a' w', Goes P md ops Q Sp Se (zs.contains ·) fuel (listed.setIfInBounds i true) a' w' → K a' w') → Oper.wp P oi a w K Q) : Goes P md ops Q Sp Se (zs.contains ·) (fuel + 1) listed a w := by
  refine Goes.one hi hr hw fun K hKK => h K fun a' w' hq => hKK a' w' ⟨hS w', fun hs => ?_⟩ fun _ => hq
  obtain ⟨z, hz1, hz2⟩ := List.any_eq_true.1 hz
  rw [hs z (by simpa using hz1)] at hz2
  cases hz2
/-- The last operation: nothing is asked of the world behind it but what follows. -/
theorem goes_last {Z : Nat → Bool} {fuel : Nat} {listed : Array Bool} {a : Act} {w : World} {oi : Oper} (i : Nat) (hi : ops[i]? = some oi) (hr : Region.ready md ops listed = [i]) (hr2 : Region.ready md ops (listed.setIfInBounds i true) = []) (hw : Region.wanted oi (yielded ops a.tmps) = true)
    (hz : Z i = true) (hS : ∀ w', Sp w')
    (h : ∀ K : Act → World → Prop, Shut (∀ a' w', Q .normal a' w' → K a' w') → Oper.wp P oi a w K Q) (hlt : i < listed.size) : Goes P md ops Q Sp Se Z (fuel + 1) listed a w := by
  refine Goes.one hi hr hw fun K hKK => h K fun a' w' hq => hKK a' w' ⟨hS w', fun hs => ?_⟩ fun _ => Goes.done hr2 hq _
  have := hs i hz
  simp [Array.getD_eq_getD_getElem?, hlt] at this
end
end Go.Proofs.Ytbcgfohacbapoaa
