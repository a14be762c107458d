/- The contracts of followed, of from and of quotientBounds. Conditions: the amounts read; what from returns has at most four groups; what is divided is less than the base times the divisor. -/
import Derived.Test.YtgpppjfgdbloiaaComp
namespace Go.Proofs.Ytgpppjfgdbloiaa
open Go.RowKit Go.Lib

/-- append where the law is an equation. -/
theorem wpList_append_eq {P : Program} {w w1 : World} {ops : Array Oper} {rest : List Oper} {o : Oper} {a : Act} {Q : Exit → Act → World → Prop} (hgd : o.guard = none) (s x : Operand) (t : TypeId)
    (ho : o.op = .call { callee := .builtin .append, args := #[s, x], argTypes := #[t, t] }) (v u r : Value) (hs : a.eval s = v) (hx : a.eval x = u)
    (hr : ∀ ty, (Builtin.append_ #[t, t] ty #[v, u]).run P w = .ok r w1) (h : wpList P ops Q rest (a.put o.dst r) w1) : wpList P ops Q (o :: rest) a w := by
  refine wpList_plain hgd fun K hK => ?_
  unfold Oper.wp execOp
  simp only [ho, resolve, invoke, builtin, Sem.run_bind, Sem.run_pure, Result.andThen_ok, List.map_toArray, List.map_cons, List.map_nil, hs, hx, hr]
  exact hK _ _ h
theorem dg4_cons0 {X d : Nat} (hd : d < 10000) : dg4 (10000 * X + d) 0 = d := by unfold dg4; simp; omega
theorem dg4_cons {X d : Nat} (hd : d < 10000) (i : Nat) : dg4 (10000 * X + d) (i + 1) = dg4 X i := by
  unfold dg4
  rw [Nat.pow_succ, Nat.mul_comm (10000 ^ i), ← Nat.div_div_eq_div_mul]
  have : (10000 * X + d) / 10000 = X := by omega
  rw [this]
theorem grps_cons {X d n : Nat} (hd : d < 10000) : grps (10000 * X + d) (n + 1) = (d : Int) :: grps X n := by
  apply List.ext_getElem
  · simp [grps_length]
  · intro i h1 h2
    rw [grps_at]
    cases i with
    | zero => rw [dg4_cons0 hd]; rfl
    | succ i => rw [dg4_cons hd, List.getElem_cons_succ, grps_at]
/-- append of an amount behind one group. -/
theorem run_append_am {w : World} {A : Option Addr} {n c X d g : Nat} (t ty : TypeId) (ht : Try.prog.underlying t = some (.slice 3)) (hd : d < 10000)
    (hg : Blk w g 3 ((zc (n + 1)).setIfInBounds 0 (iv d))) (hA : Am w A n c X) :
    (Builtin.append_ #[t, t] ty #[.slice (some ⟨g, 0, none⟩) 1 (n + 1), .slice A n c]).run Try.prog w = .ok (.slice (some ⟨g, 0, none⟩) (n + 1) (n + 1)) (w.setRow g ((grps (10000 * X + d) (n + 1)).map iv).toArray) := by
  obtain ⟨i, hi, hz, hs, hb⟩ := info_of info_i64
  have hz1 : (zc (n + 1)).setIfInBounds 0 (iv d) = (((d : Int) :: List.replicate n 0).map iv).toArray := by
    rw [zc_eq, iv_set, List.replicate_succ, List.set_cons_zero]
  rw [hz1] at hg
  by_cases h0 : 0 < n
  · obtain ⟨b, o, rfl, hbl, hc⟩ := hA.2 h0
    have hlen : ((grps X n).map iv).length = n := by rw [List.length_map, grps_length]
    have h := run_append_room (P := Try.prog) w t ty 3 i ht hi g 1 (n + 1) _ hg ⟨b, o, none⟩ n c ((grps X n).map iv) (by rw [hlen, hs, Nat.mul_one]) (by
        intro j v hj
        have hj2 : j < n := by
          have := (List.getElem?_eq_some_iff.1 hj).1
          rwa [hlen] at this
        have e : (⟨b, o, none⟩ : Addr).add j = ⟨b, o + j, none⟩ := by unfold Addr.add; split <;> simp_all
        rw [e, hc j hj2]
        rw [List.getElem?_map, List.getElem?_eq_getElem (by rw [grps_length]; exact hj2)] at hj
        rw [Option.map_some, grps_at] at hj
        exact hj) (by
        intro v hv
        obtain ⟨x, _, rfl⟩ := List.mem_map.1 hv
        rfl) (by omega) (by rw [hlen, hs]; simp; omega)
    rw [hlen, hs] at h
    rw [h, Nat.add_comm 1 n]
    have e : ((((d : Int) :: List.replicate n 0).map iv).toArray.toList.take (1 * 1) ++ (grps X n).map iv ++ (((d : Int) :: List.replicate n 0).map iv).toArray.toList.drop (n + 1)).toArray = ((grps (10000 * X + d) (n + 1)).map iv).toArray := by
      rw [grps_cons hd]
      simp
    rw [e]
  · obtain rfl : n = 0 := by omega
    have e2 : w.setRow g ((grps (10000 * X + d) (0 + 1)).map iv).toArray = w := by
      rw [grps_cons hd]; exact setRow_self w g _ _ (0, 0) hg
    rw [e2]
    cases A with
    | none => simp [Builtin.append_, run_underlying ht, Builtin.lenOf, Builtin.firstCells, sizeOf, typeInfo, hi, storeCells, loadCells]
    | some a => simp [Builtin.append_, run_underlying ht, Builtin.lenOf, Builtin.firstCells, sizeOf, typeInfo, hi, storeCells, loadCells, loadCellsFrom]

/-- A number has been returned in a block of its own. -/
def OutF (V : Nat) (w : World) (e : Ending) (w' : World) : Prop := ∃ c, e = .returned (.slice (some ⟨w.heap.size, 0, none⟩) (glen V) c) ∧ Am w' (some ⟨w.heap.size, 0, none⟩) (glen V) c V ∧ Below w.heap.size w w'

set_option maxRecDepth 100000 in
theorem followed_any (A : Option Addr) (c X d : Nat) (w : World) (hA : Am w A (glen X) c X) (hX : glen X ≤ 1000) (hd : d < 10000) :
    Calls Try.prog 76 #[.slice A (glen X) c, .int .i64 (d : Nat)] w (OutF (10000 * X + d) w) := by
  obtain ⟨n, hn⟩ : ∃ n, n = glen X := ⟨_, rfl⟩
  have hV : 10000 * X + d < 10000 ^ (n + 1) := by
    have := lt_glen X
    rw [← hn] at this
    rw [Nat.pow_succ]; omega
  rw [← hn] at hA hX ⊢
  have hmk := fun w => run_make_ints 51 Try.underlying51 1 (n + 1) (by omega) (by omega) w
  rw [show ((1 : Nat) : Int) = 1 from rfl, show ((n + 1 : Nat) : Int) = (n : Int) + 1 from by omega] at hmk
  have c0 : (w.alloc (.cells (zc (n + 1)) 3)).cell? ⟨w.heap.size, 0, none⟩ = some (iv 0) := (Blk.new w 3 (zc (n + 1))).cell (by rw [zc_eq, iv_at (by simp)]; simp)
  have f0 := (Blk.new w 3 (zc (n + 1))).frozen 0
  have hg := Blk.new w 3 ((zc (n + 1)).setIfInBounds 0 (.int .i64 (d : Nat)))
  have hb1 : Below w.heap.size w (w.alloc (.cells ((zc (n + 1)).setIfInBounds 0 (.int .i64 (d : Nat))) 3)) := (Below.refl _ _).alloc (Nat.le_refl _) _
  have hap := fun ty => run_append_am (c := c) 51 ty Try.underlying51 hd hg (hA.below hb1)
  have hg2 := hg.setRow ((grps (10000 * X + d) (n + 1)).map iv).toArray
  have hb2 := below_setRow hb1 (Nat.le_refl _) ((grps (10000 * X + d) (n + 1)).map iv).toArray
  have hA2 := Am.of_blk hg2 (V := 10000 * X + d) (by rw [grps_length])
  rw [grps_length] at hA2
  have HAP := Lib.hid hap; have HA2 := Lib.hid hA2; have HB2 := Lib.hid hb2; have HV := Lib.hid hV
  clear hA hg hb1 hap hg2 hb2 hA2 hV hn
  rw [iv] at c0
  go_enter Try.func76, Try.ntmps76
  go_wp2_with (first | (at_builtin; go_loud (refine wpList_append_eq rfl _ _ 51 rfl _ _ _ rfl rfl HAP.out ?_)) | (go_at_call 71; refine (trimmed_any _ (n + 1) (n + 1) _ _ HA2.out HV.out (by omega)).mono ?_; rintro e w2 ⟨rfl, rfl⟩))
  go_ret
  exact ⟨_, rfl, HA2.out.less (glen_le.2 HV.out), HB2.out⟩

/-- The groups from a place on. -/
def shr4 (X t : Nat) : Nat := X / 10000 ^ t
theorem from_step {X t : Nat} : shr4 X t = shr4 X (t + 1) * 10000 + dg4 X t := by unfold shr4; rw [div_pred4 X t, Nat.mul_comm]

set_option maxRecDepth 100000 in
theorem from_any (A : Option Addr) (c X p : Nat) (w : World) (hA : Am w A (glen X) c X) (hX : glen X ≤ 1000) (hp : p ≤ 1000) (hs : glen X ≤ p + 4) :
    Calls Try.prog 83 #[.slice A (glen X) c, .int .i64 (p : Nat)] w fun e w' => e = .returned (.int .i64 (shr4 X p : Nat)) ∧ w = w' := by
  obtain ⟨n, hn⟩ : ∃ n, n = glen X := ⟨_, rfl⟩
  have hz : ∀ t, n ≤ t → shr4 X t = 0 := fun t ht => Nat.div_eq_of_lt (glen_le.1 (by omega))
  have hbd : ∀ t, p < t → shr4 X t < 1000000000000 := fun t ht => by
    unfold shr4
    rw [Nat.div_lt_iff_lt_mul (Nat.pow_pos (by omega)), show (1000000000000 : Nat) = 10000 ^ 3 from rfl, ← Nat.pow_add]
    exact glen_le.1 (by omega)
  rw [← hn] at hA hX hs ⊢
  have HA := Lib.hid hA; have HZ := Lib.hid hz; have HB := Lib.hid hbd
  clear hA hz hbd hn
  go_enter Try.func83, Try.ntmps83
  go_wp2
  go_loop [5, 6] (fun s ii => ∃ (t : Nat) (i : Int) (v : Int), ii = .int .i64 i ∧ Hid (i = (t : Int) - 1) ∧ t ≤ n ∧ s = .int .i64 v ∧ Hid (v = (shr4 X t : Nat)) ∧ (p ≤ t ∨ t = n)) (fun _ ii => (intOf ii + 1).toNat)
  case atStart => exact ⟨n, _, _, rfl, rfl, Nat.le_refl _, rfl, (by show _ = _; rw [HZ.out n (Nat.le_refl _)]; rfl), .inr rfl⟩
  case round =>
    obtain ⟨t, i, v, rfl, HI, ht, rfl, HV, hpt⟩ := hrel
    by_cases hlt : p < t
    · obtain ⟨k, rfl⟩ : ∃ k, t = k + 1 := ⟨t - 1, by omega⟩
      obtain rfl : i = (k : Int) := by have := HI.out; omega
      obtain ⟨b, o, rfl, hb, hc⟩ := HA.out.2 (by omega)
      have hcell := hc k (by omega)
      have hdx := dg4_lt X k
      have hv1 := HB.out (k + 1) (by omega)
      have hv := HV.out
      have hv2 : 0 ≤ v ∧ v ≤ 1000000000000 := by omega
      have hst := @from_step X k
      have HV2 : Hid (v * 10000 + (dg4 X k : Nat) = (shr4 X k : Nat)) := by
        show _ = _
        rw [hst, hv]; push_cast; rfl
      obtain ⟨x, hx⟩ : ∃ x, x = dg4 X k := ⟨_, rfl⟩
      rw [← hx] at hcell hdx HV2
      have q1 : (0 : Int) ≤ (k : Int) := by omega
      have q2 : (k : Int) < (n : Int) := by omega
      have q3 : (p : Int) ≤ (k : Int) := by omega
      clear hc hx hv hv1 hst hpt
      go_wp2
      go_round
      case rel => exact ⟨k, _, _, rfl, rfl, by omega, rfl, HV2.out, by omega⟩
      case measure => simp [intOf]
    · have h1 : ¬ (p : Int) ≤ i := by have := HI.out; omega
      have hR : v = (shr4 X p : Nat) := by
        rw [HV.out]
        rcases Nat.lt_or_ge t p with h | h
        · rw [HZ.out t (by omega), HZ.out p (by omega)]
        · rw [show t = p by omega]
      have HR := Lib.hid hR
      clear hR hpt
      go_wp2
      go_ret
      exact ⟨by rw [← HR.out]; rfl, rfl⟩

theorem wrap64_small {z : Int} (h : 0 ≤ z) (h2 : z < 4611686018427387904) : wrap64 z = z := by unfold wrap64; omega
/-- Bounds of a quotient. -/
def OutB (R T : Nat) (w : World) (e : Ending) (w' : World) : Prop := ∃ lo hi : Nat, e = .returned (.tuple #[.int .i64 (lo : Nat), .int .i64 (hi : Nat)]) ∧ lo ≤ R / T ∧ R / T ≤ hi ∧ hi ≤ 10000 ∧ ∃ k, w' = w.drewN k
theorem bnd_hi {R T P : Nat} (hP : 0 < P) (hT : 0 < T / P) : R / T ≤ R / P / (T / P) := by
  rw [Nat.le_div_iff_mul_le hT, Nat.le_div_iff_mul_le hP, Nat.mul_assoc]
  exact Nat.le_trans (Nat.mul_le_mul_left _ (Nat.div_mul_le_self T P)) (Nat.div_mul_le_self R T)
theorem bnd_lo {R T P : Nat} (hP : 0 < P) (hT : 0 < T) : R / P / (T / P + 1) ≤ R / T := by
  rw [Nat.le_div_iff_mul_le hT]
  have h1 : T ≤ (T / P + 1) * P := by have := Nat.div_add_mod T P; have := Nat.mod_lt T hP; rw [Nat.add_mul, Nat.mul_comm (T / P)]; omega
  have h2 : R / P / (T / P + 1) * ((T / P + 1) * P) ≤ R := by
    rw [← Nat.mul_assoc]
    exact Nat.le_trans (Nat.mul_le_mul_right _ (Nat.div_mul_le_self _ _)) (Nat.div_mul_le_self R P)
  exact Nat.le_trans (Nat.mul_le_mul_left _ h1) h2
theorem bnd_most {r t : Nat} (ht : 10000 ≤ t) (hr : r < (t + 1) * 10000) : r / t ≤ 10000 := by
  have : r / t < 10001 := by
    rw [Nat.div_lt_iff_lt_mul (by omega)]; omega
  omega
theorem bnd_r {R T P : Nat} (hP : 0 < P) (h : R < T * 10000) : R / P < (T / P + 1) * 10000 := by
  rw [Nat.div_lt_iff_lt_mul hP]
  have h1 : T ≤ (T / P + 1) * P := by have := Nat.div_add_mod T P; have := Nat.mod_lt T hP; rw [Nat.add_mul, Nat.mul_comm (T / P)]; omega
  have h2 := Nat.mul_le_mul_right 10000 h1
  have h3 : (T / P + 1) * 10000 * P = (T / P + 1) * P * 10000 := Nat.mul_right_comm _ _ _
  rw [h3]
  exact Nat.lt_of_lt_of_le h h2
theorem glen_prod {R T : Nat} (h : R < T * 10000) : glen R ≤ glen T + 1 := glen_le.2 (by
  rw [Nat.pow_succ]
  exact Nat.lt_trans h (Nat.mul_lt_mul_of_pos_right (lt_glen T) (by omega)))
theorem pow_glen_le {T : Nat} (h : 0 < T) : 10000 ^ (glen T - 1) ≤ T := by
  rcases Nat.lt_or_ge T (10000 ^ (glen T - 1)) with h1 | h1
  · have := glen_le.2 h1; have := glen_pos h; omega
  · exact h1

set_option maxRecDepth 100000 in
set_option maxHeartbeats 1000000 in
theorem qbounds_any (A A' : Option Addr) (c c' R T : Nat) (w : World) (hA : Am w A (glen R) c R) (hB : Am w A' (glen T) c' T) (hR : glen R ≤ 1000) (hT : glen T ≤ 1000) (hT0 : 0 < T) (hRT : R < T * 10000) :
    Calls Try.prog 80 #[.slice A (glen R) c, .slice A' (glen T) c'] w (OutB R T w) := by
  obtain ⟨p, hp⟩ : ∃ p, p = glen T - 3 := ⟨_, rfl⟩
  have hg := glen_prod hRT
  have f1 := from_any A c R p w hA hR (by omega) (by omega)
  have f2 := from_any A' c' T p w hB hT (by omega) (by omega)
  have hPp : 0 < 10000 ^ p := Nat.pow_pos (by omega)
  have hr4 : R / 10000 ^ p < 10000000000000000 := by
    rw [Nat.div_lt_iff_lt_mul hPp, show (10000000000000000 : Nat) = 10000 ^ 4 from rfl, ← Nat.pow_add]
    exact glen_le.1 (by omega)
  have ht4 : T / 10000 ^ p < 10000000000000000 := by
    rw [Nat.div_lt_iff_lt_mul hPp, show (10000000000000000 : Nat) = 10000 ^ 4 from rfl, ← Nat.pow_add]
    exact glen_le.1 (by omega)
  have ht0 : 0 < T / 10000 ^ p := by
    refine Nat.div_pos (Nat.le_trans (Nat.pow_le_pow_right (by omega) ?_) (pow_glen_le hT0)) hPp
    omega
  have q0 : max (0 : Int) (((glen T : Nat) : Int) - 3) = (p : Int) := by omega
  have hlo := bnd_lo (R := R) hPp hT0
  have hhi := bnd_hi (R := R) hPp ht0
  have hbr := bnd_r hPp hRT
  have hmost : R / 10000 ^ p / (T / 10000 ^ p) ≤ 10000 ∨ p = 0 := by
    rcases Nat.eq_zero_or_pos p with h | h
    · exact .inr h
    · refine .inl (bnd_most ?_ hbr)
      rw [Nat.le_div_iff_mul_le hPp, Nat.mul_comm, ← Nat.pow_succ]
      exact Nat.le_trans (Nat.pow_le_pow_right (by omega) (by omega)) (pow_glen_le hT0)
  have h0 : p = 0 → R / 10000 ^ p / (T / 10000 ^ p) = R / T := by intro e; rw [e]; simp
  have hq : R / T < 10000 := by rw [Nat.div_lt_iff_lt_mul hT0, Nat.mul_comm]; exact hRT
  obtain ⟨r, hr⟩ : ∃ r, r = shr4 R p := ⟨_, rfl⟩
  obtain ⟨t, ht⟩ : ∃ t, t = shr4 T p := ⟨_, rfl⟩
  rw [← hr] at f1
  rw [← ht] at f2
  change r = R / 10000 ^ p at hr
  change t = T / 10000 ^ p at ht
  rw [← hr] at hr4 hlo hhi hmost h0
  rw [← ht] at ht4 ht0 hlo hhi hmost h0
  have F1 := Lib.hid f1; have F2 := Lib.hid f2; have HP := Lib.hid hp; have HLO := Lib.hid hlo; have HHI := Lib.hid hhi; have HM := Lib.hid hmost; have H0 := Lib.hid h0; have HQ := Lib.hid hq
  have W1 : Hid (wrap64 ((r : Int) / (t : Int)) = ((r / t : Nat) : Int)) := by
    have h1 : ((r : Int) / (t : Int)) = ((r / t : Nat) : Int) := by push_cast; rfl
    have h2 := Nat.div_le_self r t
    show _ = _
    rw [h1]
    generalize r / t = z at h2 ⊢
    exact wrap64_small (by omega) (by omega)
  have W2 : Hid (wrap64 ((r : Int) / ((t : Int) + 1)) = ((r / (t + 1) : Nat) : Int)) := by
    have h1 : ((r : Int) / ((t : Int) + 1)) = ((r / (t + 1) : Nat) : Int) := by push_cast; rfl
    have h2 := Nat.div_le_self r (t + 1)
    show _ = _
    rw [h1]
    generalize r / (t + 1) = z at h2 ⊢
    exact wrap64_small (by omega) (by omega)
  have hn3 := HP.out
  clear f1 f2 hp hlo hhi hmost h0 hq hr ht hA hB hg hPp hbr hRT
  by_cases hp0 : p = 0
  · have HQ2 := Lib.hid (H0.out hp0)
    subst hp0
    have f1 := F1.out
    have f2 := F2.out
    rw [show ((0 : Nat) : Int) = 0 from rfl] at f1 f2
    clear F1 F2
    have F1 := Lib.hid f1; have F2 := Lib.hid f2
    clear f1 f2
    have e3 : ((glen T : Nat) : Int) - 3 ≤ 0 := by omega
    clear q0 hn3
    go_enter Try.func80, Try.ntmps80
    go_wp2_with (go_at_call 83; first | ((with_reducible refine F1.out.mono ?_); rintro e w2 ⟨rfl, rfl⟩) | ((with_reducible refine F2.out.mono ?_); rintro e w2 ⟨rfl, rfl⟩))
    go_quiet (fail)
    go_wp2
    go_ret2
    exact ⟨r / t, r / t, by rw [← W1.out]; rfl, by rw [HQ2.out]; exact Nat.le_refl _, by rw [HQ2.out]; exact Nat.le_refl _, by rw [HQ2.out]; have := HQ.out; omega, _, rfl⟩
  · have e3 : (0 : Int) < ((glen T : Nat) : Int) - 3 := by omega
    have e4 : ((glen T : Nat) : Int) - 3 = (p : Int) := by omega
    have e5 : (p : Int) ≠ 0 := by omega
    have e6 : ((p : Int) == 0) = false := by rw [beq_eq_false_iff_ne]; exact e5
    have HH := Lib.hid (HM.out.resolve_right hp0)
    clear hp0 q0 hn3 e5
    rw [e4] at e3
    go_enter Try.func80, Try.ntmps80
    go_wp2_with (go_at_call 83; first | ((with_reducible refine F1.out.mono ?_); rintro e w2 ⟨rfl, rfl⟩) | ((with_reducible refine F2.out.mono ?_); rintro e w2 ⟨rfl, rfl⟩))
    go_quiet (fail)
    go_wp2
    go_ret2
    exact ⟨r / (t + 1), r / t, by rw [← W1.out, ← W2.out]; rfl, HLO.out, HHI.out, HH.out, _, rfl⟩
end Go.Proofs.Ytgpppjfgdbloiaa
