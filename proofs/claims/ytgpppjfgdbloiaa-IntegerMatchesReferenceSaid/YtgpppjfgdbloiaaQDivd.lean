/- The contract of the reference's divided. Conditions: the digits read, there are at most 1,000, and the divisor is not zero. -/
import Derived.Test.YtgpppjfgdbloiaaQTimes
import Derived.Test.YtgpppjfgdbloiaaQMinus
namespace Go.Proofs.Ytgpppjfgdbloiaa
open Go.RowKit Go.Lib

/-- The digits of a quotient from a place on. -/
def qd (Q f t : Nat) : List Int := (List.range f).map fun j => if j < t then 0 else (d10 Q j : Int)
theorem qd_length (Q f t : Nat) : (qd Q f t).length = f := by simp [qd]
theorem qd_new (Q f : Nat) : (qd Q f f) = List.replicate f 0 := by
  apply List.ext_getElem
  · simp [qd]
  · intro i h1 h2
    have : i < f := by simpa [qd] using h1
    simp [qd, this]
theorem qd_all (Q f : Nat) : qd Q f 0 = digs Q f := by simp [qd, digs]
theorem qd_set (Q f k : Nat) : (qd Q f (k + 1)).set k (d10 Q k : Int) = qd Q f k := by
  apply List.ext_getElem
  · simp [qd]
  · intro i h1 h2
    rw [List.getElem_set]
    have : i < f := by simpa [qd] using h2
    simp only [qd, List.getElem_map, List.getElem_range]
    by_cases h : k = i
    · subst h; simp
    · simp only [if_neg h]
      by_cases h3 : i < k + 1
      · rw [if_pos h3, if_pos (by omega)]
      · rw [if_neg h3, if_neg (by omega)]
theorem qd_get (Q f k : Nat) (h : k < (qd Q f (k + 1)).length) : (qd Q f (k + 1))[k] = 0 := by simp [qd]
theorem qd_zero (Q f k : Nat) : (qd Q f (k + 1)).set k ((0 : Nat) : Int) = qd Q f (k + 1) := by
  rcases Nat.lt_or_ge k (qd Q f (k + 1)).length with h | h
  · have h2 := qd_get Q f k h
    apply List.ext_getElem
    · simp
    · intro i h3 h4
      rw [List.getElem_set]
      split
      · rename_i h5; subst h5; rw [h2]; rfl
      · rfl
  · rw [List.set_eq_of_length_le h]
theorem ddiv_step {X T k : Nat} (hT : 0 < T) : d10 (X / T) k = (10 * (X / 10 ^ (k + 1) % T) + d10 X k) / T ∧ X / 10 ^ k % T = (10 * (X / 10 ^ (k + 1) % T) + d10 X k) % T ∧ 10 * (X / 10 ^ (k + 1) % T) + d10 X k < T * 10 := by
  have h1 := ddiv_pred X k
  have hd := d10_lt X k
  obtain ⟨U, hU⟩ : ∃ U, U = X / 10 ^ (k + 1) := ⟨_, rfl⟩
  obtain ⟨d, hd2⟩ : ∃ d, d = d10 X k := ⟨_, rfl⟩
  rw [← hU, ← hd2] at h1 ⊢
  rw [← hd2] at hd
  have hm := Nat.mod_lt U hT
  have hlt : 10 * (U % T) + d < T * 10 := by omega
  have hE : 10 * U + d = (10 * (U % T) + d) + T * (10 * (U / T)) := by
    have := Nat.div_add_mod U T
    have h2 : T * (10 * (U / T)) = 10 * (T * (U / T)) := by grind
    rw [h2]; omega
  refine ⟨?_, ?_, hlt⟩
  · unfold d10
    rw [Nat.div_div_eq_div_mul, Nat.mul_comm T, ← Nat.div_div_eq_div_mul, h1, hE, Nat.add_mul_div_left _ _ hT, Nat.add_mul_mod_self_left]
    exact Nat.mod_eq_of_lt (by rw [Nat.div_lt_iff_lt_mul hT]; omega)
  · rw [h1, hE, Nat.add_mul_mod_self_left]

/-- append of digits behind one digit. -/
theorem wpList_append_dm {w : World} {ops : Array Oper} {rest : List Oper} {o : Oper} {a : Act} {Q : Exit → Act → World → Prop} (hgd : o.guard = none) (s x : Operand) (t : TypeId)
    (ho : o.op = .call { callee := .builtin .append, args := #[s, x], argTypes := #[t, t] }) (ht : Try.prog.underlying t = some (.slice 3)) (A : Option Addr) (n c X d g : Nat)
    (hs : a.eval s = .slice (some ⟨g, 0, none⟩) 1 1) (hx : a.eval x = .slice A n c) (hd : d < 10) (hg : Blk w g 3 #[.int .i64 (d : Nat)]) (hA : Dm w A n c X) (hn : n ≤ 10000)
    (h : ∀ A2 c2 w2, Dm w2 A2 (n + 1) c2 (10 * X + d) → Fr g A2 → w.grownBy w2 (some g) → wpList Try.prog ops Q rest (a.put o.dst (.slice A2 (n + 1) c2)) w2) : wpList Try.prog ops Q (o :: rest) a w := by
  obtain ⟨i, hi, hz, hsz, hb⟩ := info_of info_i64
  have hdc : digs (10 * X + d) (n + 1) = (d : Int) :: digs X n := by
    rw [digs_cons]; congr 1
    · omega
    · congr 1; omega
  have hown : w.ownsRow g 3 1 (.slice (some ⟨g, 0, none⟩) 1 1) 1 [.int .i64 (d : Nat)] :=
    ⟨rfl, .inr ⟨g, 1, _, rfl, Nat.le_refl _, hg, Nat.le_refl _, by unfold maxLen; omega, rfl, rfl⟩⟩
  refine wpList_plain hgd fun K hK => ?_
  by_cases h0 : 0 < n
  · obtain ⟨b, off, rfl, hbl, hc⟩ := hA.2 h0
    obtain ⟨v', w', hr, h2, h3, h4⟩ := run_append_own (P := Try.prog) w g t o.type 3 i (.int .i64 0) 1 8 ht hi hz hsz hb rfl (by decide) _ 1 _ hown ⟨b, off, none⟩ n c ((digs X n).map iv) (by rw [List.length_map, digs_length, Nat.mul_one]) (by
        intro j v hj
        have hj2 : j < n := by
          have := (List.getElem?_eq_some_iff.1 hj).1
          rwa [List.length_map, digs_length] at this
        have e : (⟨b, off, none⟩ : Addr).add j = ⟨b, off + j, none⟩ := by unfold Addr.add; split <;> simp_all
        rw [e, hc j hj2]
        rw [List.getElem?_map, List.getElem?_eq_getElem (by rw [digs_length]; exact hj2)] at hj
        rw [Option.map_some, digs_at] at hj
        exact hj) (by
        intro v hv
        obtain ⟨x, _, rfl⟩ := List.mem_map.1 hv
        rfl) (by unfold maxLen; omega) (by omega) (Nat.le_of_lt (Blk.lt hg))
    have h5 : w'.ownsRow g 3 1 v' (n + 1) ((digs (10 * X + d) (n + 1)).map iv) := by rw [hdc, Nat.add_comm n 1]; exact h2
    obtain ⟨A2, c2, rfl, hD, hF⟩ := Dm.ownF h5
    unfold Oper.wp execOp
    simp only [ho, resolve, invoke, builtin, Sem.run_bind, Sem.run_pure, Result.andThen_ok, List.map_toArray, List.map_cons, List.map_nil, hs, hx, hr]
    exact hK _ _ (h _ _ _ hD hF h3)
  · obtain rfl : n = 0 := by omega
    have h5 : w.ownsRow g 3 1 (.slice (some ⟨g, 0, none⟩) 1 1) 1 ((digs (10 * X + d) (0 + 1)).map iv) := by rw [hdc]; exact hown
    obtain ⟨A2, c2, he, hD, hF⟩ := Dm.ownF h5
    cases he
    have hr : (Builtin.append_ #[t, t] o.type #[.slice (some ⟨g, 0, none⟩) 1 1, .slice A 0 c]).run Try.prog w = .ok (.slice (some ⟨g, 0, none⟩) 1 1) w := by
      cases A with
      | none => simp [Builtin.append_, run_underlying ht, Builtin.lenOf, Builtin.firstCells, sizeOf, typeInfo, hi, storeCells, loadCells]
      | some a => simp [Builtin.append_, run_underlying ht, Builtin.lenOf, Builtin.firstCells, sizeOf, typeInfo, hi, storeCells, loadCells, loadCellsFrom]
    unfold Oper.wp execOp
    simp only [ho, resolve, invoke, builtin, Sem.run_bind, Sem.run_pure, Result.andThen_ok, List.map_toArray, List.map_cons, List.map_nil, hs, hx, hr]
    exact hK _ _ (h _ _ _ hD hF ⟨rfl, rfl, rfl, Nat.le_refl _, fun _ _ _ => rfl⟩)
/-- The number that the cells from an address on are, in digits. -/
def num10 (w : World) (a : Addr) : Nat → Nat
  | 0 => 0
  | n + 1 => num10 w a n + 10 ^ n * (intOf ((w.cell? (a.add n)).getD (.int .i64 0))).toNat
def dmVal (w : World) : Value → Nat
  | .slice (some a) n _ => num10 w a n
  | _ => 0
theorem dmVal_of {w : World} {A : Option Addr} {c X : Nat} (h : Dm w A (dl X) c X) : dmVal w (.slice A (dl X) c) = X := by
  obtain ⟨n, hn⟩ : ∃ n, n = dl X := ⟨_, rfl⟩
  have hX := lt_dl X
  rw [← hn] at h hX ⊢
  by_cases h0 : 0 < n
  · obtain ⟨b, o, rfl, -, hc⟩ := h.2 h0
    have : ∀ k, k ≤ n → num10 w ⟨b, o, none⟩ k = X % 10 ^ k := by
      intro k
      induction k with
      | zero => intro _; simp [num10, Nat.mod_one]
      | succ k ih =>
        intro hk
        have e : (⟨b, o, none⟩ : Addr).add k = ⟨b, o + k, none⟩ := by unfold Addr.add; split <;> simp_all
        rw [num10, ih (by omega), e, hc k (by omega), dmod_succ]
        simp [intOf]
    show num10 w ⟨b, o, none⟩ n = X
    rw [this n (Nat.le_refl _), Nat.mod_eq_of_lt hX]
  · obtain rfl : n = 0 := by omega
    have : X = 0 := by simpa using hX
    subst this
    cases A <;> rfl
/-- Quotient and remainder have been returned. -/
def OutQD (X T : Nat) (w : World) (e : Ending) (w' : World) : Prop := ∃ A c A' c', e = .returned (.tuple #[.slice A (dl (X / T)) c, .slice A' (dl (X % T)) c']) ∧ Dm w' A (dl (X / T)) c (X / T) ∧ Dm w' A' (dl (X % T)) c' (X % T) ∧ Below w.heap.size w w'
theorem ord_ge (R T : Nat) : decide (0 ≤ ordI (R : Nat) (T : Nat)) = decide (T ≤ R) := by
  rw [decide_eq_decide]
  unfold ordI
  split
  · omega
  · split <;> omega

set_option maxRecDepth 100000 in
set_option maxHeartbeats 2000000 in
theorem qdivd_any (A A' : Option Addr) (c c' X T : Nat) (w : World) (hA : Dm w A (dl X) c X) (hB : Dm w A' (dl T) c' T) (hX : dl X ≤ 1000) (hT : dl T ≤ 1000) (hT0 : 0 < T) :
    Calls Try.prog 51 #[.slice A (dl X) c, .slice A' (dl T) c'] w (OutQD X T w) := by
  obtain ⟨n, hn⟩ : ∃ n, n = dl X := ⟨_, rfl⟩
  have hXn : X < 10 ^ n := hn ▸ lt_dl X
  have hmk := fun w => run_make_ints 44 Try.underlying44 n n (Nat.le_refl _) (by omega) w
  have hb1 : Below w.heap.size w (w.alloc (.cells (zc n) 3)) := (Below.refl _ _).alloc (Nat.le_refl _) _
  have hg1 : Blk (w.alloc (.cells (zc n) 3)) w.heap.size 3 ((qd (X / T) n n).map iv).toArray := by rw [qd_new]; exact Blk.new w 3 (zc n)
  rw [← hn] at hA hX ⊢
  have hR0 : 0 = X / 10 ^ n % T := by rw [Nat.div_eq_of_lt hXn, Nat.zero_mod]
  have hQn : X / T < 10 ^ n := Nat.lt_of_le_of_lt (Nat.div_le_self _ _) hXn
  have HA := Lib.hid hA; have HB := Lib.hid hB; have HB1 := Lib.hid hb1; have HG1 := Lib.hid hg1; have HXN := Lib.hid hXn; have HT0 := Lib.hid hT0; have HR0 := Lib.hid hR0; have HQN := Lib.hid hQn
  clear hA hB hb1 hg1 hn hXn hR0 hQn
  go_enter Try.func51, Try.ntmps51
  go_wp2
  clear hmk
  go_loopw [7, 8] (fun r ii wr => ∃ (t : Nat) (i : Int) (Ar : Option Addr) (cr R : Nat), ii = .int .i64 i ∧ Hid (i = (t : Int) - 1) ∧ t ≤ n ∧ r = .slice Ar (dl R) cr ∧ Hid (R = X / 10 ^ t % T) ∧ Dm wr Ar (dl R) cr R ∧ Blk wr w.heap.size 3 ((qd (X / T) n t).map iv).toArray ∧ Below w.heap.size w wr)
    (fun _ ii _ => (intOf ii + 1).toNat)
  case atStart => exact ⟨n, _, none, 0, 0, rfl, rfl, Nat.le_refl _, by rw [dl_zero], HR0.out, (by rw [dl_zero]; exact Dm.zero), HG1.out, HB1.out⟩
  case round =>
    obtain ⟨t, i, Ar, cr, R, rfl, HI, ht, rfl, HR, hAr, hG, hbl⟩ := hrel
    rcases t with _ | k
    · obtain rfl : i = -1 := by have := HI.out; omega
      have hR1 : R = X % T := by rw [HR.out]; simp
      rw [qd_all] at hG
      have hD := Dm.of_blk hG (V := X / T) (by rw [digs_length])
      rw [digs_length] at hD
      have htr := reftrim_any _ n n (X / T) wr hD HQN.out (by omega)
      have HD := Lib.hid (hD.less (dl_le.2 HQN.out)); have HTR := Lib.hid htr; have HAR := Lib.hid hAr; have HR1 := Lib.hid hR1
      clear hD htr hR1 hAr hG HR
      go_wp2_with (go_at_call 37; (with_reducible refine HTR.out.mono ?_); rintro e w2 ⟨rfl, rfl⟩)
      go_ret2
      exact ⟨_, _, _, _, (by rw [← HR1.out]; rfl), HD.out, (by rw [← HR1.out]; exact HAR.out), hbl⟩
    · obtain rfl : i = (k : Int) := by have := HI.out; omega
      obtain ⟨s1, s2, s3⟩ := ddiv_step (X := X) (k := k) HT0.out
      rw [← HR.out] at s1 s2 s3
      have hd := d10_lt X k
      obtain ⟨b, o, rfl, hb, hc⟩ := (HA.out.below hbl).2 (by omega)
      have hcell := hc k (by omega)
      have hRlt : R < T := by rw [HR.out]; exact Nat.mod_lt _ HT0.out
      have hgR : dl R ≤ 1000 := Nat.le_trans (dl_mono (Nat.le_of_lt hRlt)) hT
      obtain ⟨d, hd2⟩ : ∃ d, d = d10 X k := ⟨_, rfl⟩
      rw [← hd2] at hcell hd s1 s2 s3
      obtain ⟨R1, hR1⟩ : ∃ R1, R1 = 10 * R + d := ⟨_, rfl⟩
      rw [← hR1] at s1 s2 s3
      have hR1l : R1 < 10 ^ (dl R + 1) := by
        have := lt_dl R
        rw [Nat.pow_succ]; omega
      have hT9 : R1 < 10 ^ (dl T + 1) := by
        have := lt_dl T
        rw [Nat.pow_succ]; omega
      have hgR1 := dl_le.2 hT9
      have q1 : (0 : Int) ≤ (k : Int) := by omega
      have q2 : (k : Int) < (n : Int) := by omega
      have HR1 := Lib.hid hR1; have HR1L := Lib.hid hR1l; have HAR := Lib.hid hAr; have HG := Lib.hid hG; have HBL := Lib.hid hbl; have HS1 := Lib.hid s1; have HS2 := Lib.hid s2; have HS3 := Lib.hid s3; have HGR1 := Lib.hid hgR1
      clear hR1 hR1l hT9 hgR1 hAr hG hbl s1 s2 s3 hc hd2 hRlt HR
      go_wp2_with (at_builtin; refine wpList_append_dm rfl _ _ 44 rfl Try.underlying44 Ar (dl R) cr R d wr.heap.size rfl rfl hd (Blk.new wr _ _) (HAR.out.below ((Below.refl _ _).alloc (Nat.le_refl _) _)) (by omega) ?_; intro A2 c2 w2 hD2 hF2 hgrow2; rw [← HR1.out] at hD2; have hb2 := (((Below.refl wr.heap.size wr).alloc (Nat.le_refl _) _).grown hgrow2 (by simp) (fun k hk => by cases hk; exact Nat.le_refl _)); have HD2 := Lib.hid hD2; have HF2 := Lib.hid hF2; have HB2 := Lib.hid hb2; clear hD2 hF2 hgrow2 hb2)
      refine (reftrim_any A2 (dl R + 1) c2 R1 w2 HD2.out HR1L.out (by omega)).mono ?_
      rintro e w3 ⟨rfl, rfl⟩
      have hbl2 := HBL.out.trans (HB2.out.mono HBL.out.size)
      have hG2 := HG.out.below HB2.out HG.out.lt
      have hF3 : Fr (w.heap.size + 1) A2 := HF2.out.mono (Blk.lt HG.out)
      have HBL2 := Lib.hid hbl2; have HG2 := Lib.hid hG2; have HF3 := Lib.hid hF3
      clear hbl2 hG2 hF3
      go_wp2_with fail
      go_loopw [7] (fun r ws => ∃ (g : Nat) (Ar : Option Addr) (cr R2 : Nat), r = .slice Ar (dl R2) cr ∧ Hid (R2 + g * T = R1) ∧ Dm ws Ar (dl R2) cr R2 ∧ Hid (Fr (w.heap.size + 1) Ar) ∧ Blk ws w.heap.size 3 (((qd (X / T) n (k + 1)).set k (g : Int)).map iv).toArray ∧ Below w.heap.size w ws)
        (fun r ws => dmVal ws r)
      case atStart => exact ⟨0, A2, c2, R1, rfl, by show _ = _; omega, HD2.out.less (dl_le.2 HR1L.out), HF3.out, (by rw [qd_zero]; exact HG2.out), HBL2.out⟩
      case round =>
        clear HD2 HF2 HB2 HBL2 HG2 HF3 HAR HG HBL
        obtain ⟨g, Ar, cr, R2, rfl, HRG, hAr, HF, hG, hbl⟩ := hrel
        have hR2l : R2 ≤ R1 := by have := HRG.out; omega
        have hd2 := Nat.le_trans (dl_mono hR2l) HGR1.out
        have hBt := HB.out.below hbl
        have hord := qorder_any Ar A' cr c' R2 T wr hAr hBt (by omega)
        have hg9 : g < 10 := by
          rcases Nat.lt_or_ge g 10 with h | h
          · exact h
          · have h1 := Nat.mul_le_mul_right T h
            have h2 := HRG.out
            have h3 := HS3.out
            omega
        have HV := Lib.hid (dmVal_of hAr)
        have hkl : k < ((qd (X / T) n (k + 1)).set k (g : Int)).length := by rw [List.length_set, qd_length]; omega
        obtain ⟨v, hv⟩ : ∃ v, v = ordI (R2 : Nat) (T : Nat) := ⟨_, rfl⟩
        rw [← hv] at hord
        by_cases hge : T ≤ R2
        · have hv0 : 0 ≤ v := by rw [hv]; unfold ordI; split <;> (try split) <;> omega
          have hmin := fun q => qminus_any Ar A' cr c' R2 T (wr.drewN q) (hAr.drewN q) (hBt.drewN q) (by omega) hge
          have HORD := Lib.hid hord; have HMIN := Lib.hid hmin; have HG := Lib.hid hG; have HBL := Lib.hid hbl; have HKL := Lib.hid hkl; have HGE := Lib.hid hge
          have p1 : (g : Int) ≤ 9 := by omega
          have p2 : (0 : Int) ≤ (g : Int) := by omega
          clear hord hmin hG hbl hkl hBt hAr hge hv hR2l
          go_wp2_with fail
          refine HORD.out.mono ?_
          rintro e w4 ⟨rfl, q, rfl⟩
          go_wp2_with fail
          refine (HMIN.out q).mono ?_
          rintro e w5 ⟨A5, c5, rfl, hD5, hF5, hb5⟩
          have hG5 := (HG.out.drewN q).below hb5 (HG.out.drewN q).lt
          have hl5 := (HG.out.drewN q).lt
          have c0 := hG5.cell (iv_at HKL.out)
          rw [List.getElem_set_self, iv] at c0
          have f0 := hG5.frozen k
          have hb6 := (below_drewN HBL.out q).trans (hb5.mono (below_drewN HBL.out q).size)
          have hF6 : Fr (w.heap.size + 1) A5 := hF5.mono hl5
          have hD6 := hD5.far (p := ⟨w.heap.size, k, none⟩) hF6 (.int .i64 ((g : Int) + 1))
          have hV6 := dmVal_of hD6
          have HG5 := Lib.hid hG5; have HB6 := Lib.hid hb6; have HF6 := Lib.hid hF6; have HD6 := Lib.hid hD6; have HV6 := Lib.hid hV6
          clear hG5 hb6 hF6 hD6 hV6 hD5 hF5 hb5 hl5
          go_wp2_with fail
          go_roundw
          case rel => exact ⟨g + 1, A5, c5, R2 - T, rfl, (by show _ = _; have := HRG.out; have := HGE.out; rw [Nat.add_mul]; omega), HD6.out, HF6.out, (by rw [← List.set_set (a := (g : Int)), ← iv_set]; exact HG5.out.set k _), HB6.out.setCell (Nat.le_refl _) _⟩
          case measure => simp [HV.out, HV6.out]; have := HGE.out; have := HT0.out; omega
        · have hv0 : v < 0 := by rw [hv, ordI_lt (by omega)]; omega
          have e1 : g = d10 (X / T) k ∧ R2 = X / 10 ^ k % T := by
            have h1 := HRG.out
            rw [HS1.out, HS2.out, ← h1]
            rw [Nat.add_mul_div_right _ _ HT0.out, Nat.add_mul_mod_self_right, Nat.div_eq_of_lt (by omega), Nat.mod_eq_of_lt (by omega)]
            omega
          have hG6 : Blk wr w.heap.size 3 ((qd (X / T) n k).map iv).toArray := by
            have := hG
            rw [e1.1, qd_set] at this
            exact this
          have HE1 := Lib.hid e1.2; have HG6 := Lib.hid hG6; have HORD := Lib.hid hord; have HBL := Lib.hid hbl; have HAR := Lib.hid hAr
          clear e1 hG6 hG hord hbl hAr hv hkl hBt hge hg9
          go_wp2_with fail
          refine HORD.out.mono ?_
          rintro e w4 ⟨rfl, q, rfl⟩
          go_wp2_with fail
          go_roundw
          case rel => exact ⟨k, _, Ar, cr, R2, rfl, rfl, by omega, rfl, HE1.out, HAR.out.drewN q, HG6.out.drewN q, below_drewN HBL.out q⟩
          case measure => simp [intOf]
end Go.Proofs.Ytgpppjfgdbloiaa
