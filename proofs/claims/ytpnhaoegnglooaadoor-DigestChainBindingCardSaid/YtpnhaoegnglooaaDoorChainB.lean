/- The contract of DigestChainBinding. Conditions: the arguments read; the table holds what its text says. -/
import Derived.Test.YtpnhaoegnglooaaDoorHeads
namespace Go.Proofs.YtpnhaoegnglooaaDoor
open Go.RowKit Go.Lib

theorem strsR_smalls : ∀ (q : List ByteArray), (∀ x ∈ q, x.size ≤ 1000) → ∀ z ∈ strsR q, Small z
  | [], _, z, hz => by simp [strsR] at hz
  | r :: q, hq, z, hz => by
    rw [strsR, List.mem_cons] at hz
    rcases hz with rfl | hz
    · have := hq r (by simp)
      unfold Small; rw [mk1_size, headR_size]; omega
    · exact strsR_smalls q (fun x hx => hq x (by simp [hx])) z hz

/-- The facts that the walk's end wants of two lists. -/
theorem chain_end {X Y : List ByteArray} (h : (collideB X Y || zeroAt X Y) = true) : (X.length = Y.length → collideB X Y = true) ∧ (X.length < Y.length → (collideB X Y || decide (dg (Y.getD X.length ⟨#[]⟩).data.toList = zero32)) = true) ∧ (Y.length < X.length → (collideB X Y || decide (dg (X.getD Y.length ⟨#[]⟩).data.toList = zero32)) = true) := by
  unfold zeroAt at h
  refine ⟨fun e => ?_, fun e => ?_, fun e => ?_⟩
  · rw [decide_eq_false (by omega), Bool.false_and, Bool.or_false] at h; exact h
  · rw [decide_eq_true (by omega), Bool.true_and, if_pos e, show min X.length Y.length = X.length from by omega] at h; exact h
  · rw [decide_eq_true (by omega), Bool.true_and, if_neg (by omega), show min X.length Y.length = Y.length from by omega] at h; exact h

theorem wpAnyH_takeL {P : Program} {md : Region.Mode} {ops : Array Oper} {Q : Exit → Act → World → Prop} {S : World → Prop} {fuel : Nat} {listed : Array Bool} {a : Act} {w : World} {oi : Oper} (i : Nat) (d : Option Nat) (v : Value) (hi : ops[i]? = some oi) (hd : oi.dst = d)
    (hs : Region.noSelect ops = true) (hf : Region.free md ops listed i = true) (hr : (Region.ready md ops listed).contains i = true)
    (hQ : ∀ c a w, Q (.panic c) (a.put d v) w → Q (.panic c) a w) (hy : YieldsIf P ops S oi v a) (hS : S w)
    (h : wpAnyH P md ops Q S fuel (listed.setIfInBounds i true) (a.put d v) w) : wpAnyH P md ops Q S (fuel + 1) listed a w := by
  subst hd
  exact wpAnyH_take hi hs hf hr hQ hy hS h
theorem wpAnyH_takeN {P : Program} {md : Region.Mode} {ops : Array Oper} {Q : Exit → Act → World → Prop} {S : World → Prop} {fuel : Nat} {listed : Array Bool} {a : Act} {w : World} {oi : Oper} (i : Nat) (d : Option Nat) (v : Value) (hi : ops[i]? = some oi) (hd : oi.dst = d)
    (hs : Region.noSelect ops = true) (hf : Region.free md ops listed i = true) (hr : (Region.ready md ops listed).contains i = true) (hg : Region.wanted oi (yielded ops a.tmps) = true) (hy : ∀ w, S w → (execOp a.eval oi).run P w = .ok (.value v) w) (hS : S w)
    (h : wpAnyH P md ops (NoPanic Q) S fuel (listed.setIfInBounds i true) (a.put d v) w) : wpAnyH P md ops (NoPanic Q) S (fuel + 1) listed a w := by
  subst hd
  exact wpAnyH_take hi hs hf hr (fun _ _ _ h => (h : False).elim) (Or.inl ⟨hg, hy⟩) hS h
/-- An operation that comes up in a region: what is to be shown of it. -/
structure StepH (P : Program) (md : Region.Mode) (ops : Array Oper) (Q : Exit → Act → World → Prop) (S : World → Prop) (fuel : Nat) (listed : Array Bool) (a : Act) (w : World) (i : Nat) : Prop where
  out : wpOp P ops Q i (fun a' w' => S w' ∧ wpAnyH P md ops Q S fuel (listed.setIfInBounds i true) a' w') a w
section
variable {P : Program} {md : Region.Mode} {ops : Array Oper} {Q : Exit → Act → World → Prop} {S : World → Prop} {fuel : Nat} {listed : Array Bool} {a : Act} {w : World}
theorem wpAnyH_one (i : Nat) (hr : Region.ready md ops listed = [i]) (h : StepH P md ops Q S fuel listed a w i) : wpAnyH P md ops Q S (fuel + 1) listed a w :=
  wpAnyH_all hr (by simp) fun k hk => by
    rw [List.mem_singleton] at hk
    subst hk; exact h.out
theorem wpAnyH_two (i j : Nat) (hr : Region.ready md ops listed = [i, j]) (h1 : StepH P md ops Q S fuel listed a w i) (h2 : StepH P md ops Q S fuel listed a w j) : wpAnyH P md ops Q S (fuel + 1) listed a w :=
  wpAnyH_all hr (by simp) fun k hk => by
    rw [List.mem_cons, List.mem_singleton] at hk
    rcases hk with rfl | rfl
    · exact h1.out
    · exact h2.out
theorem stepH_call {oi : Oper} {i : Nat} (d : Option Nat) (f : FuncId) (xs : List Operand) (ts : Array TypeId) (hi : ops[i]? = some oi) (hd : oi.dst = d) (hw : Region.wanted oi (yielded ops a.tmps) = true) (hop : oi.op = Op.call { callee := Callee.value (Operand.func f), args := xs.toArray, argTypes := ts })
    (eg : ∀ args w, (callFunc f args).run P w = .ok (.enter f args) w) {args : List Value} {R : Ending → World → Prop} (hc : Calls P f args.toArray w R) (ha : xs.map a.eval = args) (hK : ∀ e w', R e w' → ∃ v, e = .returned v ∧ S w' ∧ (S w' → wpAnyH P md ops Q S fuel (listed.setIfInBounds i true) (a.put d v) w')) :
    StepH P md ops Q S fuel listed a w i := by
  subst hd
  refine ⟨wpOp_step hi (fun K' hK' => step_callg hw f xs ts hop eg hc ha fun e w' h => ?_)⟩
  obtain ⟨v, he, hS, hk⟩ := hK e w' h
  exact ⟨v, he, hK' _ _ ⟨hS, hk hS⟩⟩
theorem stepH_run {oi : Oper} {i : Nat} (d : Option Nat) (v : Value) (w1 : World) (hi : ops[i]? = some oi) (hd : oi.dst = d) (hw : Region.wanted oi (yielded ops a.tmps) = true) (hr : (execOp a.eval oi).run P w = .ok (.value v) w1) (hS : S w1)
    (h : S w1 → wpAnyH P md ops Q S fuel (listed.setIfInBounds i true) (a.put d v) w1) : StepH P md ops Q S fuel listed a w i := by
  subst hd
  refine ⟨wpOp_step hi (fun K' hK' => ?_)⟩
  rw [if_pos hw]
  unfold Oper.wp
  rw [hr]
  exact hK' _ _ ⟨hS, h hS⟩
end
theorem run_conv {P : Program} {o : Oper} {a : Act} {w w1 : World} {s t : TypeId} {x : Operand} {u v : Value} (ho : o.op = .convert s t x) (hx : a.eval x = u) (hr : (convert s t u).run P w = .ok v w1) : (execOp a.eval o).run P w = .ok (.value v) w1 := by
  simp [execOp, ho, hx, hr, Result.andThen]
theorem run_make32 {o : Oper} {a : Act} {w : World} (ho : o.op = .makeSlice 43 (.const (.int .i64 32)) (.const (.int .i64 32))) : (execOp a.eval o).run Tryd.prog w = .ok (.value (.slice (some ⟨w.heap.size, 0, none⟩) 32 32)) (w.alloc (.cells (Array.replicate 32 (.int .u8 0)) 5)) := by
  have := make32 w
  simp [execOp, ho, Act.eval, this, Result.andThen]

set_option maxRecDepth 100000 in
set_option maxHeartbeats 4000000 in
theorem chainB_law (A1 : Option Addr) (n1 c1 : Nat) (L1 : List ByteArray) (A2 : Option Addr) (n2 c2 : Nat) (L2 : List ByteArray) (w : World)
    (h1 : Arg w A1 n1 L1) (m1 : n1 ≤ 9223372036854775807) (h2 : Arg w A2 n2 L2) (m2 : n2 ≤ 9223372036854775807) (hT : Tab w) :
    Calls Tryd.prog 9 #[.slice A1 n1 c1, .slice A2 n2 c2] w fun e w' => e = .returned (.bool true) ∧ Below w.heap.size w w' := by
  have N0 := Lib.hid (Now.start hT)
  have C1 := Lib.hid fun W (h : Now w W) => few_any A1 n1 c1 20 L1 W (h1.below h.1) (by omega) m1
  have C2 := Lib.hid fun W (h : Now w W) => few_any A2 n2 c2 20 L2 W (h2.below h.1) (by omega) m2
  have f1 := fewL_le L1 20
  have f2 := fewL_le L2 20
  have g1 := fewL_60 L1 20
  have g2 := fewL_60 L2 20
  obtain ⟨P, hP⟩ : ∃ P, P = fewL L1 20 := ⟨_, rfl⟩
  obtain ⟨Q, hQ⟩ : ∃ Q, Q = fewL L2 20 := ⟨_, rfl⟩
  rw [← hP] at C1 f1 g1
  rw [← hQ] at C2 f2 g2
  obtain ⟨lp, hlp⟩ : ∃ lp, P.length = lp := ⟨_, rfl⟩
  obtain ⟨lq, hlq⟩ : ∃ lq, Q.length = lq := ⟨_, rfl⟩
  have lp70 : lp ≤ 20 := by omega
  have lq70 : lq ≤ 20 := by omega
  have HLP := Lib.hid hlp; have HLQ := Lib.hid hlq
  have K1 := Lib.hid fun W A c (h : Rd W W.heap.size A lp c P) (hT : Tab W) => heads_any A lp c P W h (by omega) (fun x hx => by have := g1 x hx; omega) hT
  have K2 := Lib.hid fun W A c (h : Rd W W.heap.size A lq c Q) (hT : Tab W) => heads_any A lq c Q W h (by omega) (fun x hx => by have := g2 x hx; omega) hT
  have a1 := strsR_smalls P.reverse (fun x hx => by have := g1 x (by simpa using hx); omega)
  have a2 := strsR_smalls Q.reverse (fun x hx => by have := g2 x (by simpa using hx); omega)
  have z1 := strsR_length P.reverse
  have z2 := strsR_length Q.reverse
  rw [List.length_reverse, hlp] at z1
  rw [List.length_reverse, hlq] at z2
  have y1 := headR_size P.reverse
  have y2 := headR_size Q.reverse
  have HCH := Lib.hid fun (e : headR P.reverse = headR Q.reverse) (ne : P ≠ Q) => chain_end (chain_binds P.reverse Q.reverse e (fun h => ne (List.reverse_inj.1 h)))
  have HEQ := Lib.hid fun (e : P = Q) => (by rw [e] : headR P.reverse = headR Q.reverse)
  obtain ⟨X, hX⟩ : ∃ X, X = strsR P.reverse := ⟨_, rfl⟩
  obtain ⟨Y, hY⟩ : ∃ Y, Y = strsR Q.reverse := ⟨_, rfl⟩
  obtain ⟨hx, hhx⟩ : ∃ hx, hx = headR P.reverse := ⟨_, rfl⟩
  obtain ⟨hy, hhy⟩ : ∃ hy, hy = headR Q.reverse := ⟨_, rfl⟩
  rw [← hX] at K1 a1 z1 HCH
  rw [← hY] at K2 a2 z2 HCH
  rw [← hhx] at K1 y1 HCH HEQ
  rw [← hhy] at K2 y2 HCH HEQ
  rw [z1, z2] at HCH
  have HZ1 := Lib.hid z1; have HZ2 := Lib.hid z2; have HA1 := Lib.hid a1; have HA2 := Lib.hid a2
  have s1 : ((hx.size : Int) == 32) = true := by rw [beq_iff_eq]; omega
  have s2 : ((hx.size : Int) != 32) = false := by rw [bne, s1]; rfl
  have hst := str_beq hx hy
  have HST := Lib.hid hst
  have hmk := make32
  clear h1 h2 m1 m2 hT hP hQ f1 f2 hlp hlq g1 g2 hX hY hhx hhy z1 z2 a1 a2 y1 y2 hst
  go_enter Tryd.func9, Tryd.ntmps9
  go_wp2_with fail
  refine (sane_any _ N0.out.tab).mono ?_
  rintro e W1 ⟨rfl, hb1⟩
  have N1 := Lib.hid (N0.out.step hb1)
  clear hb1
  go_wp2_with fail
  refine (C1.out _ N1.out).mono ?_
  rintro e W2 ⟨u2, rfl, ho2, hb2⟩
  have N2 := Lib.hid (N1.out.step hb2)
  obtain ⟨A3, c3, rfl, -, hR2⟩ := own_slice2 ho2 HLP.out
  have HP2 := Lib.hid hR2
  clear hb2 ho2 hR2
  go_wp2_with fail
  refine (C2.out _ N2.out).mono ?_
  rintro e W3 ⟨u3, rfl, ho3, hb3⟩
  have N3 := Lib.hid (N2.out.step hb3); have HP3 := Lib.hid (HP2.out.step hb3)
  obtain ⟨A4, c4, rfl, -, hR3⟩ := own_slice2 ho3 HLQ.out
  have HQ3 := Lib.hid hR3
  clear hb3 ho3 hR3 N2 HP2
  go_wp2_with fail
  refine (K1.out _ _ _ HP3.out N3.out.tab).mono ?_
  rintro e W4 ⟨u4, he, ho4, hb4⟩
  dsimp only at he ho4
  subst he
  have N4 := Lib.hid (N3.out.step hb4); have HP4 := Lib.hid (HP3.out.step hb4); have HQ4 := Lib.hid (HQ3.out.step hb4)
  obtain ⟨A5, c5, rfl, -, hX4⟩ := own_slice2 ho4 HZ1.out
  have HX4 := Lib.hid hX4
  clear hb4 ho4 hX4 N3 HP3 HQ3
  go_wp2_with fail
  refine (K2.out _ _ _ HQ4.out N4.out.tab).mono ?_
  rintro e W5 ⟨u5, he, ho5, hb5⟩
  dsimp only at he ho5
  subst he
  have N5 := Lib.hid (N4.out.step hb5); have HP5 := Lib.hid (HP4.out.step hb5); have HQ5 := Lib.hid (HQ4.out.step hb5); have HX5 := Lib.hid (HX4.out.step hb5)
  obtain ⟨A6, c6, rfl, -, hY5⟩ := own_slice2 ho5 HZ2.out
  have HY5 := Lib.hid hY5
  clear hb5 ho5 hY5 N4 HP4 HQ4 HX4
  go_wp2_with fail
  refine (refSame_any A3 lp c3 P A4 lq c4 Q _ _ _ HP5.out HQ5.out (by omega) (by omega)).mono ?_
  rintro e W6 ⟨rfl, k6, hk6⟩
  have hb6 : Below W5.heap.size W5 W6 := by rw [hk6]; exact below_drewN (Below.refl _ _) k6
  have N6 := Lib.hid (N5.out.step hb6); have HX6 := Lib.hid (Rd.step HX5.out hb6); have HY6 := Lib.hid (Rd.step HY5.out hb6)
  clear hb6 hk6 N5 HP5 HQ5 HX5 HY5
  by_cases hPQ : P = Q
  · have e1 := HEQ.out hPQ
    have t1 := HST.out
    rw [decide_eq_true e1] at t1
    have t2 : (hx.toList != hy.toList) = false := by rw [bne, t1]; rfl
    rw [decide_eq_true hPQ]
    clear hPQ e1 hmk
    go_wp2
    go_ret
    exact ⟨rfl, N6.out.1⟩
  rw [decide_eq_false hPQ]
  by_cases hhh : hx = hy
  · have t1 := HST.out
    rw [decide_eq_true hhh] at t1
    have t2 : (hx.toList != hy.toList) = false := by rw [bne, t1]; rfl
    obtain ⟨E1, E2, E3⟩ := HCH.out hhh hPQ
    have CC := Lib.hid fun W (h : Below W6.heap.size W6 W) => collide_any A5 lp c5 X A6 lq c6 Y W (Rd.step HX6.out h) (Rd.step HY6.out h) (by omega) (by omega) HA1.out HA2.out ((N6.out.step h).tab)
    obtain ⟨cb, hcb⟩ : ∃ cb, cb = collideB X Y := ⟨_, rfl⟩
    rw [← hcb] at CC E1 E2 E3
    have HE1 := Lib.hid E1; have HE2 := Lib.hid E2; have HE3 := Lib.hid E3
    clear hcb E1 E2 E3 hPQ hhh
    by_cases hl : lp = lq
    · have hcb := HE1.out hl
      subst hcb
      subst hl
      have q0 : ((lp : Int) == (lp : Int)) = true := by simp
      have q1 : ((lp : Int) != (lp : Int)) = false := by simp
      go_wp2_with fail
      go_quiet (fail)
      go_wp2_with fail
      refine (CC.out _ (below_drewN (Below.refl _ _) _)).mono ?_
      rintro e W8 ⟨rfl, hb8⟩
      have N8 := Lib.hid ((N6.out.drewN _).step hb8)
      clear hb8
      go_wp2
      go_ret
      exact ⟨rfl, N8.out.1⟩
    · have q0 : ((lp : Int) == (lq : Int)) = false := by rw [beq_eq_false_iff_ne]; omega
      have q1 : ((lp : Int) != (lq : Int)) = true := by rw [bne, q0]; rfl
      by_cases hlt : lp < lq
      · have hE := HE2.out hlt
        have e1 : lp < Y.length := by rw [HZ2.out]; exact hlt
        obtain ⟨b, o, hA6, hb, k1⟩ := HY6.out.2.2 (by omega)
        subst hA6
        have hc0 : W6.cell? ⟨b, o + lp, none⟩ = some (.string Y[lp]) := k1 lp e1
        rw [List.getD_eq_getElem?_getD, List.getElem?_eq_getElem e1] at hE
        have HZs := Lib.hid (HA2.out Y[lp] (List.getElem_mem e1))
        obtain ⟨z, hz⟩ : ∃ z, z = Y[lp] := ⟨_, rfl⟩
        rw [← hz] at hc0 HZs
        simp only [Option.getD_some, ← hz] at hE
        have q2 : (0 : Int) ≤ (lp : Int) := by omega
        have q3 : (lp : Int) < (lq : Int) := by omega
        have HK := Lib.hid fun W (h : Below W6.heap.size W6 W) => (h.cell (p := ⟨b, o + lp, none⟩) hb).trans hc0
        have bK := (Below.refl W6.heap.size W6).drew
        have t3 := str_beq (dg z.data.toList) zero32
        obtain ⟨zb, hzb⟩ : ∃ zb, zb = decide (dg z.data.toList = zero32) := ⟨_, rfl⟩
        rw [← hzb] at t3 hE
        have HE := Lib.hid hE
        have hmn : ∀ (ts : Array TypeId) (t : TypeId) (w : World), (Builtin.min_ ts t #[.int .i64 lp, .int .i64 lq]).run Tryd.prog w = .ok (.int .i64 lp) w := fun ts t w => by rw [run_min_int2, if_neg (by omega)]
        clear hl k1 e1 hz hzb hE
        go_wp2_with fail
        refine wp_region_noPanic ?_
        refine wp_region_held_drew (S := fun w' => w'.cell? ⟨b, o + lp, none⟩ = some (.string z)) (by kernel_rfl) (HK.out _ bK) (fun hHeld => ?_)
        refine wpAnyH_takeN 0 (some 61) (.slice A5 lp c5) rfl (by kernel_rfl) (by kernel_rfl) (by kernel_rfl) (by kernel_rfl) (by kernel_rfl) (fun w hS => by kernel_rfl) hHeld ?_
        refine wpAnyH_takeN 1 (some 62) (.int .i64 lp) rfl (by kernel_rfl) (by kernel_rfl) (by kernel_rfl) (by kernel_rfl) (by kernel_rfl) (fun w hS => by kernel_rfl) hHeld ?_
        refine wpAnyH_takeN 2 (some 63) (.slice (some ⟨b, o, none⟩) lq c6) rfl (by kernel_rfl) (by kernel_rfl) (by kernel_rfl) (by kernel_rfl) (by kernel_rfl) (fun w hS => by kernel_rfl) hHeld ?_
        refine wpAnyH_takeN 3 (some 64) (.int .i64 lq) rfl (by kernel_rfl) (by kernel_rfl) (by kernel_rfl) (by kernel_rfl) (by kernel_rfl) (fun w hS => by kernel_rfl) hHeld ?_
        refine wpAnyH_takeN 4 (some 65) (.bool true) rfl (by kernel_rfl) (by kernel_rfl) (by kernel_rfl) (by kernel_rfl) (by kernel_rfl) (fun w hS => by go_simp) hHeld ?_
        refine wpAnyH_takeN 5 (some 66) (.bool true) rfl (by kernel_rfl) (by kernel_rfl) (by kernel_rfl) (by kernel_rfl) (by kernel_rfl) (fun w hS => by kernel_rfl) hHeld ?_
        refine wpAnyH_takeN 6 (some 67) (.slice (some ⟨b, o, none⟩) lq c6) rfl (by kernel_rfl) (by kernel_rfl) (by kernel_rfl) (by kernel_rfl) (by kernel_rfl) (fun w hS => by kernel_rfl) hHeld ?_
        refine wpAnyH_takeN 7 (some 68) (.slice A5 lp c5) rfl (by kernel_rfl) (by kernel_rfl) (by kernel_rfl) (by kernel_rfl) (by kernel_rfl) (fun w hS => by kernel_rfl) hHeld ?_
        refine wpAnyH_takeN 8 (some 69) (.int .i64 lp) rfl (by kernel_rfl) (by kernel_rfl) (by kernel_rfl) (by kernel_rfl) (by kernel_rfl) (fun w hS => by kernel_rfl) hHeld ?_
        refine wpAnyH_takeN 9 (some 70) (.slice (some ⟨b, o, none⟩) lq c6) rfl (by kernel_rfl) (by kernel_rfl) (by kernel_rfl) (by kernel_rfl) (by kernel_rfl) (fun w hS => by kernel_rfl) hHeld ?_
        refine wpAnyH_takeN 10 (some 71) (.int .i64 lq) rfl (by kernel_rfl) (by kernel_rfl) (by kernel_rfl) (by kernel_rfl) (by kernel_rfl) (fun w hS => by kernel_rfl) hHeld ?_
        refine wpAnyH_takeN 11 (some 72) (.int .i64 lp) rfl (by kernel_rfl) (by kernel_rfl) (by kernel_rfl) (by kernel_rfl) (by kernel_rfl) (fun w hS => by go_simp) hHeld ?_
        refine wpAnyH_takeN 12 (some 73) (.pointer (some ⟨b, o + lp, none⟩)) rfl (by kernel_rfl) (by kernel_rfl) (by kernel_rfl) (by kernel_rfl) (by kernel_rfl) (fun w hS => by go_simp) hHeld ?_
        refine wpAnyH_takeN 13 (some 74) (.string z) rfl (by kernel_rfl) (by kernel_rfl) (by kernel_rfl) (by kernel_rfl) (by kernel_rfl) (fun w hS => by go_simp) hHeld ?_
        refine wpAnyH_two 14 15 (by kernel_rfl) ?_ ?_
        · refine stepH_call (some 75) 13 [.tmp 74] #[9] rfl (by kernel_rfl) (by kernel_rfl) (by kernel_rfl) enters_Sum (sumB_any z _ HZs.out (N6.out.tab.below bK (Nat.le_refl _))) (by kernel_rfl) ?_
          rintro e w1 ⟨rfl, hbx⟩
          have bS := bK.trans (hbx.mono bK.size)
          refine ⟨_, rfl, HK.out _ bS, fun hHeld => ?_⟩
          have bK := bS
          refine wpAnyH_one 15 (by kernel_rfl) ?_
          have bM := bK.alloc bK.size (.cells (Array.replicate 32 (.int .u8 0)) 5)
          refine stepH_run (some 76) _ _ rfl (by kernel_rfl) (by kernel_rfl) (run_make32 (by kernel_rfl)) (HK.out _ bM) (fun hHeld => ?_)
          have bK := bM
          refine wpAnyH_one 16 (by kernel_rfl) ?_
          refine stepH_run (some 77) (.string zero32) _ rfl (by kernel_rfl) (by kernel_rfl) (run_conv (s := 43) (t := 9) (x := .tmp 76) (by kernel_rfl) (by kernel_rfl) (zero_conv w1 5)) (HK.out _ bK) (fun hHeld => ?_)
          refine wpAnyH_takeN 17 (some 78) (.bool zb) rfl (by kernel_rfl) (by kernel_rfl) (by kernel_rfl) (by kernel_rfl) (by kernel_rfl) (fun w hS => by go_simp) hHeld ?_
          refine wpAnyH_takeN 18 (some 79) (.bool zb) rfl (by kernel_rfl) (by kernel_rfl) (by kernel_rfl) (by kernel_rfl) (by kernel_rfl) (fun w hS => by kernel_rfl) hHeld ?_
          refine wpAnyH_takeN 19 (some 12) (.bool zb) rfl (by kernel_rfl) (by kernel_rfl) (by kernel_rfl) (by kernel_rfl) (by kernel_rfl) (fun w hS => by kernel_rfl) hHeld ?_
          refine wpAnyH_done (by kernel_rfl) ?_ _
          refine NoPanic.normal ?_
          have HB := Lib.hid bK
          clear bK hHeld HK
          go_wp2_with fail
          refine (CC.out _ HB.out).mono ?_
          rintro e W8 ⟨rfl, hb8⟩
          have N8 := Lib.hid ((N6.out.step HB.out).step hb8)
          clear hb8
          cases cb
          · have hz : zb = true := by simpa using HE.out
            subst hz
            go_wp2
            go_ret
            exact ⟨rfl, N8.out.1⟩
          · go_wp2
            go_ret
            exact ⟨rfl, N8.out.1⟩
        · have bM := bK.alloc bK.size (.cells (Array.replicate 32 (.int .u8 0)) 5)
          refine stepH_run (some 76) _ _ rfl (by kernel_rfl) (by kernel_rfl) (run_make32 (by kernel_rfl)) (HK.out _ bM) (fun hHeld => ?_)
          have bK := bM
          refine wpAnyH_two 14 16 (by kernel_rfl) ?_ ?_
          · refine stepH_call (some 75) 13 [.tmp 74] #[9] rfl (by kernel_rfl) (by kernel_rfl) (by kernel_rfl) enters_Sum (sumB_any z _ HZs.out (N6.out.tab.below bK (Nat.le_refl _))) (by kernel_rfl) ?_
            rintro e w1 ⟨rfl, hbx⟩
            have bS := bK.trans (hbx.mono bK.size)
            refine ⟨_, rfl, HK.out _ bS, fun hHeld => ?_⟩
            have bK := bS
            refine wpAnyH_one 16 (by kernel_rfl) ?_
            refine stepH_run (some 77) (.string zero32) _ rfl (by kernel_rfl) (by kernel_rfl) (run_conv (s := 43) (t := 9) (x := .tmp 76) (by kernel_rfl) (by kernel_rfl) (zero_at w1 W6.heap.size (fun j hj => (hbx.cell (p := ⟨W6.heap.size, j, none⟩) (by simp)).trans (zeros_new W6.drew _ j hj)))) (HK.out _ bK) (fun hHeld => ?_)
            refine wpAnyH_takeN 17 (some 78) (.bool zb) rfl (by kernel_rfl) (by kernel_rfl) (by kernel_rfl) (by kernel_rfl) (by kernel_rfl) (fun w hS => by go_simp) hHeld ?_
            refine wpAnyH_takeN 18 (some 79) (.bool zb) rfl (by kernel_rfl) (by kernel_rfl) (by kernel_rfl) (by kernel_rfl) (by kernel_rfl) (fun w hS => by kernel_rfl) hHeld ?_
            refine wpAnyH_takeN 19 (some 12) (.bool zb) rfl (by kernel_rfl) (by kernel_rfl) (by kernel_rfl) (by kernel_rfl) (by kernel_rfl) (fun w hS => by kernel_rfl) hHeld ?_
            refine wpAnyH_done (by kernel_rfl) ?_ _
            refine NoPanic.normal ?_
            have HB := Lib.hid bK
            clear bK hHeld HK
            go_wp2_with fail
            refine (CC.out _ HB.out).mono ?_
            rintro e W8 ⟨rfl, hb8⟩
            have N8 := Lib.hid ((N6.out.step HB.out).step hb8)
            clear hb8
            cases cb
            · have hz : zb = true := by simpa using HE.out
              subst hz
              go_wp2
              go_ret
              exact ⟨rfl, N8.out.1⟩
            · go_wp2
              go_ret
              exact ⟨rfl, N8.out.1⟩
          · refine stepH_run (some 77) (.string zero32) _ rfl (by kernel_rfl) (by kernel_rfl) (run_conv (s := 43) (t := 9) (x := .tmp 76) (by kernel_rfl) (by kernel_rfl) (zero_at _ W6.heap.size (zeros_new W6.drew _))) (HK.out _ bK) (fun hHeld => ?_)
            refine wpAnyH_one 14 (by kernel_rfl) ?_
            refine stepH_call (some 75) 13 [.tmp 74] #[9] rfl (by kernel_rfl) (by kernel_rfl) (by kernel_rfl) enters_Sum (sumB_any z _ HZs.out (N6.out.tab.below bK (Nat.le_refl _))) (by kernel_rfl) ?_
            rintro e w1 ⟨rfl, hbx⟩
            have bS := bK.trans (hbx.mono bK.size)
            refine ⟨_, rfl, HK.out _ bS, fun hHeld => ?_⟩
            have bK := bS
            refine wpAnyH_takeN 17 (some 78) (.bool zb) rfl (by kernel_rfl) (by kernel_rfl) (by kernel_rfl) (by kernel_rfl) (by kernel_rfl) (fun w hS => by go_simp) hHeld ?_
            refine wpAnyH_takeN 18 (some 79) (.bool zb) rfl (by kernel_rfl) (by kernel_rfl) (by kernel_rfl) (by kernel_rfl) (by kernel_rfl) (fun w hS => by kernel_rfl) hHeld ?_
            refine wpAnyH_takeN 19 (some 12) (.bool zb) rfl (by kernel_rfl) (by kernel_rfl) (by kernel_rfl) (by kernel_rfl) (by kernel_rfl) (fun w hS => by kernel_rfl) hHeld ?_
            refine wpAnyH_done (by kernel_rfl) ?_ _
            refine NoPanic.normal ?_
            have HB := Lib.hid bK
            clear bK hHeld HK
            go_wp2_with fail
            refine (CC.out _ HB.out).mono ?_
            rintro e W8 ⟨rfl, hb8⟩
            have N8 := Lib.hid ((N6.out.step HB.out).step hb8)
            clear hb8
            cases cb
            · have hz : zb = true := by simpa using HE.out
              subst hz
              go_wp2
              go_ret
              exact ⟨rfl, N8.out.1⟩
            · go_wp2
              go_ret
              exact ⟨rfl, N8.out.1⟩
      · have hlt2 : lq < lp := by omega
        have hE := HE3.out hlt2
        have e1 : lq < X.length := by rw [HZ1.out]; exact hlt2
        obtain ⟨b, o, hA5, hb, k1⟩ := HX6.out.2.2 (by omega)
        subst hA5
        have hc0 : W6.cell? ⟨b, o + lq, none⟩ = some (.string X[lq]) := k1 lq e1
        rw [List.getD_eq_getElem?_getD, List.getElem?_eq_getElem e1] at hE
        have HZs := Lib.hid (HA1.out X[lq] (List.getElem_mem e1))
        obtain ⟨z, hz⟩ : ∃ z, z = X[lq] := ⟨_, rfl⟩
        rw [← hz] at hc0 HZs
        simp only [Option.getD_some, ← hz] at hE
        have q2 : (0 : Int) ≤ (lq : Int) := by omega
        have q3 : (lq : Int) < (lp : Int) := by omega
        have HK := Lib.hid fun W (h : Below W6.heap.size W6 W) => (h.cell (p := ⟨b, o + lq, none⟩) hb).trans hc0
        have bK := (Below.refl W6.heap.size W6).drew
        have t3 := str_beq (dg z.data.toList) zero32
        obtain ⟨zb, hzb⟩ : ∃ zb, zb = decide (dg z.data.toList = zero32) := ⟨_, rfl⟩
        rw [← hzb] at t3 hE
        have HE := Lib.hid hE
        have hmn : ∀ (ts : Array TypeId) (t : TypeId) (w : World), (Builtin.min_ ts t #[.int .i64 lp, .int .i64 lq]).run Tryd.prog w = .ok (.int .i64 lq) w := fun ts t w => by rw [run_min_int2, if_pos (by omega)]
        clear hl k1 e1 hz hzb hE
        go_wp2_with fail
        refine wp_region_noPanic ?_
        refine wp_region_held_drew (S := fun w' => w'.cell? ⟨b, o + lq, none⟩ = some (.string z)) (by kernel_rfl) (HK.out _ bK) (fun hHeld => ?_)
        refine wpAnyH_takeN 0 (some 61) (.slice (some ⟨b, o, none⟩) lp c5) rfl (by kernel_rfl) (by kernel_rfl) (by kernel_rfl) (by kernel_rfl) (by kernel_rfl) (fun w hS => by kernel_rfl) hHeld ?_
        refine wpAnyH_takeN 1 (some 62) (.int .i64 lp) rfl (by kernel_rfl) (by kernel_rfl) (by kernel_rfl) (by kernel_rfl) (by kernel_rfl) (fun w hS => by kernel_rfl) hHeld ?_
        refine wpAnyH_takeN 2 (some 63) (.slice A6 lq c6) rfl (by kernel_rfl) (by kernel_rfl) (by kernel_rfl) (by kernel_rfl) (by kernel_rfl) (fun w hS => by kernel_rfl) hHeld ?_
        refine wpAnyH_takeN 3 (some 64) (.int .i64 lq) rfl (by kernel_rfl) (by kernel_rfl) (by kernel_rfl) (by kernel_rfl) (by kernel_rfl) (fun w hS => by kernel_rfl) hHeld ?_
        refine wpAnyH_takeN 4 (some 65) (.bool true) rfl (by kernel_rfl) (by kernel_rfl) (by kernel_rfl) (by kernel_rfl) (by kernel_rfl) (fun w hS => by go_simp) hHeld ?_
        refine wpAnyH_takeN 5 (some 66) (.bool true) rfl (by kernel_rfl) (by kernel_rfl) (by kernel_rfl) (by kernel_rfl) (by kernel_rfl) (fun w hS => by kernel_rfl) hHeld ?_
        refine wpAnyH_takeN 6 (some 67) (.slice (some ⟨b, o, none⟩) lp c5) rfl (by kernel_rfl) (by kernel_rfl) (by kernel_rfl) (by kernel_rfl) (by kernel_rfl) (fun w hS => by kernel_rfl) hHeld ?_
        refine wpAnyH_takeN 7 (some 68) (.slice (some ⟨b, o, none⟩) lp c5) rfl (by kernel_rfl) (by kernel_rfl) (by kernel_rfl) (by kernel_rfl) (by kernel_rfl) (fun w hS => by kernel_rfl) hHeld ?_
        refine wpAnyH_takeN 8 (some 69) (.int .i64 lp) rfl (by kernel_rfl) (by kernel_rfl) (by kernel_rfl) (by kernel_rfl) (by kernel_rfl) (fun w hS => by kernel_rfl) hHeld ?_
        refine wpAnyH_takeN 9 (some 70) (.slice A6 lq c6) rfl (by kernel_rfl) (by kernel_rfl) (by kernel_rfl) (by kernel_rfl) (by kernel_rfl) (fun w hS => by kernel_rfl) hHeld ?_
        refine wpAnyH_takeN 10 (some 71) (.int .i64 lq) rfl (by kernel_rfl) (by kernel_rfl) (by kernel_rfl) (by kernel_rfl) (by kernel_rfl) (fun w hS => by kernel_rfl) hHeld ?_
        refine wpAnyH_takeN 11 (some 72) (.int .i64 lq) rfl (by kernel_rfl) (by kernel_rfl) (by kernel_rfl) (by kernel_rfl) (by kernel_rfl) (fun w hS => by go_simp) hHeld ?_
        refine wpAnyH_takeN 12 (some 73) (.pointer (some ⟨b, o + lq, none⟩)) rfl (by kernel_rfl) (by kernel_rfl) (by kernel_rfl) (by kernel_rfl) (by kernel_rfl) (fun w hS => by go_simp) hHeld ?_
        refine wpAnyH_takeN 13 (some 74) (.string z) rfl (by kernel_rfl) (by kernel_rfl) (by kernel_rfl) (by kernel_rfl) (by kernel_rfl) (fun w hS => by go_simp) hHeld ?_
        refine wpAnyH_two 14 15 (by kernel_rfl) ?_ ?_
        · refine stepH_call (some 75) 13 [.tmp 74] #[9] rfl (by kernel_rfl) (by kernel_rfl) (by kernel_rfl) enters_Sum (sumB_any z _ HZs.out (N6.out.tab.below bK (Nat.le_refl _))) (by kernel_rfl) ?_
          rintro e w1 ⟨rfl, hbx⟩
          have bS := bK.trans (hbx.mono bK.size)
          refine ⟨_, rfl, HK.out _ bS, fun hHeld => ?_⟩
          have bK := bS
          refine wpAnyH_one 15 (by kernel_rfl) ?_
          have bM := bK.alloc bK.size (.cells (Array.replicate 32 (.int .u8 0)) 5)
          refine stepH_run (some 76) _ _ rfl (by kernel_rfl) (by kernel_rfl) (run_make32 (by kernel_rfl)) (HK.out _ bM) (fun hHeld => ?_)
          have bK := bM
          refine wpAnyH_one 16 (by kernel_rfl) ?_
          refine stepH_run (some 77) (.string zero32) _ rfl (by kernel_rfl) (by kernel_rfl) (run_conv (s := 43) (t := 9) (x := .tmp 76) (by kernel_rfl) (by kernel_rfl) (zero_conv w1 5)) (HK.out _ bK) (fun hHeld => ?_)
          refine wpAnyH_takeN 17 (some 78) (.bool zb) rfl (by kernel_rfl) (by kernel_rfl) (by kernel_rfl) (by kernel_rfl) (by kernel_rfl) (fun w hS => by go_simp) hHeld ?_
          refine wpAnyH_takeN 18 (some 79) (.bool zb) rfl (by kernel_rfl) (by kernel_rfl) (by kernel_rfl) (by kernel_rfl) (by kernel_rfl) (fun w hS => by kernel_rfl) hHeld ?_
          refine wpAnyH_takeN 19 (some 12) (.bool zb) rfl (by kernel_rfl) (by kernel_rfl) (by kernel_rfl) (by kernel_rfl) (by kernel_rfl) (fun w hS => by kernel_rfl) hHeld ?_
          refine wpAnyH_done (by kernel_rfl) ?_ _
          refine NoPanic.normal ?_
          have HB := Lib.hid bK
          clear bK hHeld HK
          go_wp2_with fail
          refine (CC.out _ HB.out).mono ?_
          rintro e W8 ⟨rfl, hb8⟩
          have N8 := Lib.hid ((N6.out.step HB.out).step hb8)
          clear hb8
          cases cb
          · have hz : zb = true := by simpa using HE.out
            subst hz
            go_wp2
            go_ret
            exact ⟨rfl, N8.out.1⟩
          · go_wp2
            go_ret
            exact ⟨rfl, N8.out.1⟩
        · have bM := bK.alloc bK.size (.cells (Array.replicate 32 (.int .u8 0)) 5)
          refine stepH_run (some 76) _ _ rfl (by kernel_rfl) (by kernel_rfl) (run_make32 (by kernel_rfl)) (HK.out _ bM) (fun hHeld => ?_)
          have bK := bM
          refine wpAnyH_two 14 16 (by kernel_rfl) ?_ ?_
          · refine stepH_call (some 75) 13 [.tmp 74] #[9] rfl (by kernel_rfl) (by kernel_rfl) (by kernel_rfl) enters_Sum (sumB_any z _ HZs.out (N6.out.tab.below bK (Nat.le_refl _))) (by kernel_rfl) ?_
            rintro e w1 ⟨rfl, hbx⟩
            have bS := bK.trans (hbx.mono bK.size)
            refine ⟨_, rfl, HK.out _ bS, fun hHeld => ?_⟩
            have bK := bS
            refine wpAnyH_one 16 (by kernel_rfl) ?_
            refine stepH_run (some 77) (.string zero32) _ rfl (by kernel_rfl) (by kernel_rfl) (run_conv (s := 43) (t := 9) (x := .tmp 76) (by kernel_rfl) (by kernel_rfl) (zero_at w1 W6.heap.size (fun j hj => (hbx.cell (p := ⟨W6.heap.size, j, none⟩) (by simp)).trans (zeros_new W6.drew _ j hj)))) (HK.out _ bK) (fun hHeld => ?_)
            refine wpAnyH_takeN 17 (some 78) (.bool zb) rfl (by kernel_rfl) (by kernel_rfl) (by kernel_rfl) (by kernel_rfl) (by kernel_rfl) (fun w hS => by go_simp) hHeld ?_
            refine wpAnyH_takeN 18 (some 79) (.bool zb) rfl (by kernel_rfl) (by kernel_rfl) (by kernel_rfl) (by kernel_rfl) (by kernel_rfl) (fun w hS => by kernel_rfl) hHeld ?_
            refine wpAnyH_takeN 19 (some 12) (.bool zb) rfl (by kernel_rfl) (by kernel_rfl) (by kernel_rfl) (by kernel_rfl) (by kernel_rfl) (fun w hS => by kernel_rfl) hHeld ?_
            refine wpAnyH_done (by kernel_rfl) ?_ _
            refine NoPanic.normal ?_
            have HB := Lib.hid bK
            clear bK hHeld HK
            go_wp2_with fail
            refine (CC.out _ HB.out).mono ?_
            rintro e W8 ⟨rfl, hb8⟩
            have N8 := Lib.hid ((N6.out.step HB.out).step hb8)
            clear hb8
            cases cb
            · have hz : zb = true := by simpa using HE.out
              subst hz
              go_wp2
              go_ret
              exact ⟨rfl, N8.out.1⟩
            · go_wp2
              go_ret
              exact ⟨rfl, N8.out.1⟩
          · refine stepH_run (some 77) (.string zero32) _ rfl (by kernel_rfl) (by kernel_rfl) (run_conv (s := 43) (t := 9) (x := .tmp 76) (by kernel_rfl) (by kernel_rfl) (zero_at _ W6.heap.size (zeros_new W6.drew _))) (HK.out _ bK) (fun hHeld => ?_)
            refine wpAnyH_one 14 (by kernel_rfl) ?_
            refine stepH_call (some 75) 13 [.tmp 74] #[9] rfl (by kernel_rfl) (by kernel_rfl) (by kernel_rfl) enters_Sum (sumB_any z _ HZs.out (N6.out.tab.below bK (Nat.le_refl _))) (by kernel_rfl) ?_
            rintro e w1 ⟨rfl, hbx⟩
            have bS := bK.trans (hbx.mono bK.size)
            refine ⟨_, rfl, HK.out _ bS, fun hHeld => ?_⟩
            have bK := bS
            refine wpAnyH_takeN 17 (some 78) (.bool zb) rfl (by kernel_rfl) (by kernel_rfl) (by kernel_rfl) (by kernel_rfl) (by kernel_rfl) (fun w hS => by go_simp) hHeld ?_
            refine wpAnyH_takeN 18 (some 79) (.bool zb) rfl (by kernel_rfl) (by kernel_rfl) (by kernel_rfl) (by kernel_rfl) (by kernel_rfl) (fun w hS => by kernel_rfl) hHeld ?_
            refine wpAnyH_takeN 19 (some 12) (.bool zb) rfl (by kernel_rfl) (by kernel_rfl) (by kernel_rfl) (by kernel_rfl) (by kernel_rfl) (fun w hS => by kernel_rfl) hHeld ?_
            refine wpAnyH_done (by kernel_rfl) ?_ _
            refine NoPanic.normal ?_
            have HB := Lib.hid bK
            clear bK hHeld HK
            go_wp2_with fail
            refine (CC.out _ HB.out).mono ?_
            rintro e W8 ⟨rfl, hb8⟩
            have N8 := Lib.hid ((N6.out.step HB.out).step hb8)
            clear hb8
            cases cb
            · have hz : zb = true := by simpa using HE.out
              subst hz
              go_wp2
              go_ret
              exact ⟨rfl, N8.out.1⟩
            · go_wp2
              go_ret
              exact ⟨rfl, N8.out.1⟩
  · have t1 := HST.out
    rw [decide_eq_false hhh] at t1
    have t2 : (hx.toList != hy.toList) = true := by rw [bne, t1]; rfl
    clear hPQ hhh hmk
    go_wp2
    go_ret
    exact ⟨rfl, N6.out.1⟩
end Go.Proofs.YtpnhaoegnglooaaDoor
