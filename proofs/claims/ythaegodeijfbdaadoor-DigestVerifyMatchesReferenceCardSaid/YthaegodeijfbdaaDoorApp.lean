/- Appending a slice of strings that reads to a slice of the call's own: as a law for the walk and for a region's order. Conditions: the slice reads; few strings. -/
import Derived.Test.YthaegodeijfbdaaDoorSane2
import Derived.Laws.OwnMore
namespace Go.Proofs.YthaegodeijfbdaaDoor
open Go.RowKit Go.Lib

theorem own_slice {W : World} {B m : Nat} {v : Value} {L : List ByteArray} (h : W.ownsRow B 9 1 v L.length (L.map sv)) (hm : L.length = m) : ∃ A c, v = .slice A m c ∧ (A = none → c = 0) ∧ Rd W W.heap.size A m c L := by
  rw [hm] at h
  rcases h.2 with ⟨rfl, h0⟩ | ⟨g, cap, cur, rfl, _⟩
  · subst h0
    have : L = [] := List.eq_nil_of_length_eq_zero hm
    subst this
    exact ⟨none, 0, rfl, fun _ => rfl, rfl, Nat.le_refl _, fun hh => absurd hh (by omega)⟩
  · exact ⟨_, _, rfl, (fun hh => by cases hh), Rd.of_own h⟩
theorem run_append_strs (w : World) (ty : TypeId) (base : Nat) (v : Value) (n : Nat) (P : List ByteArray) (hown : w.ownsRow base 9 1 v n (P.map sv)) {A : Option Addr} {m c B : Nat} {L : List ByteArray} (hR : Rd w B A m c L) (hA : A = none → c = 0)
    (h1 : n + m ≤ 1099511627776) (hbase : base ≤ w.heap.size) :
    ∃ v' w', (Builtin.append_ #[26, 26] ty #[v, .slice A m c]).run Tryd.prog w = .ok v' w' ∧ w'.ownsRow base 9 1 v' (n + m) ((P ++ L).map sv) ∧ w.grownBy w' v.ownBlock := by
  obtain ⟨i0, hi0, hz0, hz1, hz2⟩ := info_parts info_str
  rw [List.map_append]
  have hl := hR.1
  rcases A with _ | ad
  · have hc := hA rfl
    have hm0 : m = 0 := by have := hR.2.1; omega
    subst hc; subst hm0
    have : L = [] := List.eq_nil_of_length_eq_zero hl.symm
    subst this
    exact ⟨v, w, run_append_owned_none w base _ _ _ i0 1 Tryd.underlying26 hi0 v n _ hown, by simpa using hown, ⟨rfl, rfl, rfl, Nat.le_refl _, fun _ _ _ => rfl⟩⟩
  · obtain ⟨v', w', hrun, r1, r2, _⟩ := run_append_own (P := Tryd.prog) w base 26 ty 9 i0 (.string ⟨#[]⟩) 1 16 Tryd.underlying26 hi0 hz0 hz1 hz2 rfl (by decide) v n _ hown ad m c (L.map sv) (by rw [List.length_map]; omega)
      (fun j u hj => by
        rw [List.getElem?_map] at hj
        have hj2 : j < L.length := by
          rcases Nat.lt_or_ge j L.length with h | h
          · exact h
          · rw [List.getElem?_eq_none h] at hj; cases hj
        obtain ⟨b, o, hb, _, hcell⟩ := hR.2.2 (by omega)
        obtain rfl := Option.some.inj hb
        rw [List.getElem?_eq_getElem hj2] at hj
        obtain rfl := Option.some.inj hj
        have := hcell j hj2
        rw [show (⟨b, o, none⟩ : Addr).add j = ⟨b, o + j, none⟩ from by unfold Addr.add; split <;> simp_all]
        exact this)
      (fun u hu => by
        obtain ⟨x, _, rfl⟩ := List.mem_map.1 hu
        rfl)
      (by unfold maxLen; omega) (by omega) hbase
    exact ⟨v', w', hrun, r1, r2⟩
theorem wpList_append_strs (w : World) {ops : Array Oper} {rest : List Oper} {o : Oper} {a : Act} {Q : Exit → Act → World → Prop} (hgd : o.guard = none) (s x : Operand)
    (ho : o.op = .call { callee := .builtin .append, args := #[s, x], argTypes := #[26, 26] })
    (base : Nat) (v : Value) (n : Nat) (P : List ByteArray) (hs : a.eval s = v) (hown : w.ownsRow base 9 1 v n (P.map sv)) (A : Option Addr) (m c B : Nat) (L : List ByteArray) (hx : a.eval x = .slice A m c) (hR : Rd w B A m c L) (hA : A = none → c = 0)
    (h1 : n + m ≤ 1099511627776) (hbase : base ≤ w.heap.size)
    (h : ∀ v' w', w'.ownsRow base 9 1 v' (n + m) ((P ++ L).map sv) → w.grownBy w' v.ownBlock → wpList Tryd.prog ops Q rest (a.put o.dst v') w') : wpList Tryd.prog ops Q (o :: rest) a w := by
  refine wpList_plain hgd fun K hK => ?_
  obtain ⟨v', w', hrun, r1, r2⟩ := run_append_strs w o.type base v n P hown hR hA h1 hbase
  unfold Oper.wp
  simp [execOp, ho, resolve, invoke, builtin, hs, hx, hrun, Result.andThen]
  exact hK _ _ (h v' w' r1 r2)
theorem step_append_strs {ops : Array Oper} {o : Oper} {a : Act} {w : World} {K : Act → World → Prop} {Q : Exit → Act → World → Prop} {E : Prop}
    (hg : o.guard = none) (s x : Operand) (hop : o.op = Op.call { callee := Callee.builtin Builtin.append, args := #[s, x], argTypes := #[26, 26] })
    (base : Nat) (v : Value) (n : Nat) (P : List ByteArray) (hs : a.eval s = v) (hown : w.ownsRow base 9 1 v n (P.map sv)) (A : Option Addr) (m c B : Nat) (L : List ByteArray) (hx : a.eval x = .slice A m c) (hR : Rd w B A m c L) (hA : A = none → c = 0)
    (h1 : n + m ≤ 1099511627776) (hbase : base ≤ w.heap.size)
    (hK : ∀ v' w', w'.ownsRow base 9 1 v' (n + m) ((P ++ L).map sv) → w.grownBy w' v.ownBlock → K (a.put o.dst v') w') :
    if Region.wanted o (yielded ops a.tmps) = true then Oper.wp Tryd.prog o a w K Q else E := by
  rw [if_pos (by simp [Region.wanted, hg])]
  obtain ⟨v', w', hrun, r1, r2⟩ := run_append_strs w o.type base v n P hown hR hA h1 hbase
  unfold Oper.wp
  simp [execOp, hop, resolve, invoke, builtin, hs, hx, hrun, Result.andThen]
  exact hK v' w' r1 r2
theorem read_one (w : World) (x : ByteArray) (t : TypeId) : Rd (w.alloc (.cells #[.string x] t)) (w.alloc (.cells #[.string x] t)).heap.size (some ⟨w.heap.size, 0, none⟩) 1 1 [x] :=
  ⟨rfl, Nat.le_refl _, fun _ => ⟨w.heap.size, 0, rfl, by rw [World.size_alloc]; omega, fun i hi => by
    refine (Blk.new w t _).cell ?_
    rw [Nat.zero_add]
    match i, hi with
    | 0, _ => rfl⟩⟩
theorem own_lit0 (w : World) {B : Nat} (h : B ≤ w.heap.size) : (w.alloc (.cells #[] 9)).ownsRow B 9 1 (.slice (some ⟨w.heap.size, 0, none⟩) 0 0) 0 (([] : List ByteArray).map sv) :=
  World.ownsRow_lit w #[] 0 h (by unfold maxLen; omega) rfl
theorem own_lit1 (w : World) {B : Nat} (x : ByteArray) (h : B ≤ w.heap.size) : (w.alloc (.cells #[.string x] 9)).ownsRow B 9 1 (.slice (some ⟨w.heap.size, 0, none⟩) 1 1) 1 ([x].map sv) :=
  World.ownsRow_lit w #[.string x] 1 h (by unfold maxLen; omega) rfl
/-- Where a walk stands behind an append to what it owns. -/
theorem Now.grown {w W W' : World} {v : Value} {B n e : Nat} {xs : List Value} (h : Now w W) (hg : W.grownBy W' v.ownBlock) (ho : W.ownsRow B e 1 v n xs) (hB : w.heap.size ≤ B) : Now w W' :=
  ⟨h.1.grown hg h.1.size (own_base (own_more ho hB)), h.2⟩
theorem Rd.grown {W W' : World} {v : Value} {B base n e m c : Nat} {A : Option Addr} {L : List ByteArray} {xs : List Value} (h : Rd W B A m c L) (hg : W.grownBy W' v.ownBlock) (ho : W.ownsRow base e 1 v n xs) (hB : B ≤ base) (hs : B ≤ W.heap.size) : Rd W' B A m c L :=
  h.below ((Below.refl B W).grown hg hs (own_base (own_more ho hB)))
theorem step_callg {P : Program} {o : Oper} {a : Act} {w : World} {K : Act → World → Prop} {Q : Exit → Act → World → Prop} {E : Prop} {wants : Bool}
    (hg : wants = true) (f : FuncId) (xs : List Operand) (ts : Array TypeId) (hop : o.op = Op.call { callee := Callee.value (Operand.func f), args := xs.toArray, argTypes := ts }) (eg : ∀ args w, (callFunc f args).run P w = .ok (.enter f args) w)
    {args : List Value} {R : Ending → World → Prop} (hc : Calls P f args.toArray w R) (ha : xs.map a.eval = args) (hK : ∀ e w', R e w' → ∃ v, e = .returned v ∧ K (a.put o.dst v) w') :
    if wants = true then Oper.wp P o a w K Q else E := by
  rw [if_pos hg]
  have he : (execOp a.eval o).run P w = .ok (.enter f args.toArray) w := by
    subst ha
    simp only [execOp, hop, resolve, Act.eval, Sem.run_bind, Result.andThen]
    simp [invoke, eg, go_sem]
  unfold Oper.wp
  rw [he, Oper.upon_enter]
  refine hc.mono fun e w' h => ?_
  obtain ⟨v, rfl, hk⟩ := hK e w' h
  exact hk
theorem wpAny_takeL {P : Program} {md : Region.Mode} {ops : Array Oper} {Q : Exit → Act → World → Prop} {fuel : Nat} {listed : Array Bool} {a : Act} {w : World} {oi : Oper} (i : Nat) (d : Option Nat) (v : Value) (hi : ops[i]? = some oi) (hd : oi.dst = d)
    (hs : Region.noSelect ops = true) (hf : Region.free md ops listed i = true) (hr : (Region.ready md ops listed).contains i = true)
    (hQ : ∀ c a w, Q (.panic c) (a.put d v) w → Q (.panic c) a w) (hy : _root_.Go.Yields P ops oi v a)
    (h : wpAny P md ops Q fuel (listed.setIfInBounds i true) (a.put d v) w) : wpAny P md ops Q (fuel + 1) listed a w := by
  subst hd
  exact wpAny_take hi hs hf hr hQ hy h
theorem wpAny_callL {P : Program} {md : Region.Mode} {ops : Array Oper} {Q : Exit → Act → World → Prop} {fuel : Nat} {listed : Array Bool} {a : Act} {w : World} {oi : Oper} (i : Nat) (d : Option Nat) (f : FuncId) (xs : List Operand) (ts : Array TypeId) (hi : ops[i]? = some oi) (hd : oi.dst = d)
    (hr : Region.ready md ops listed = [i]) (hw : Region.wanted oi (yielded ops a.tmps) = true) (hop : oi.op = Op.call { callee := Callee.value (Operand.func f), args := xs.toArray, argTypes := ts }) (eg : ∀ args w, (callFunc f args).run P w = .ok (.enter f args) w)
    {args : List Value} {R : Ending → World → Prop} (hc : Calls P f args.toArray w R) (ha : xs.map a.eval = args) (hK : ∀ e w', R e w' → ∃ v, e = .returned v ∧ wpAny P md ops Q fuel (listed.setIfInBounds i true) (a.put d v) w') :
    wpAny P md ops Q (fuel + 1) listed a w := by
  subst hd
  refine wpAny_ready hr (by simp) (AllReady.cons hi (fun K hKK => ?_) AllReady.nil)
  exact step_callg hw f xs ts hop eg hc ha fun e w' h => by
    obtain ⟨v, he, hk⟩ := hK e w' h
    exact ⟨v, he, hKK _ _ hk⟩
theorem enters_Node : ∀ args w, (callFunc 11 args).run Tryd.prog w = .ok (.enter 11 args) w := enters_of Tryd.func11 (by kernel_rfl) rfl

end Go.Proofs.YthaegodeijfbdaaDoor
