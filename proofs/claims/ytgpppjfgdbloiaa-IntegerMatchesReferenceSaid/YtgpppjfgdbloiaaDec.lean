/- Decimal notation, as plain mathematics. No conditions. -/
import Derived.Test.YtgpppjfgdbloiaaNum
namespace Go.Proofs.Ytgpppjfgdbloiaa

/-- The digit of a number at a place. -/
def d10 (V i : Nat) : Nat := V / 10 ^ i % 10
theorem d10_lt (V i : Nat) : d10 V i < 10 := Nat.mod_lt _ (by omega)
/-- How many digits a number has. -/
def dl (V : Nat) : Nat := if _h : V = 0 then 0 else dl (V / 10) + 1
termination_by V
decreasing_by omega
theorem dl_zero : dl 0 = 0 := by rw [dl, dif_pos rfl]
theorem dl_succ {V : Nat} (h : V ≠ 0) : dl V = dl (V / 10) + 1 := by rw [dl, dif_neg h]
theorem dl_le : ∀ {n V : Nat}, dl V ≤ n ↔ V < 10 ^ n
  | 0, V => by
    by_cases h : V = 0
    · subst h; rw [dl_zero]; simp
    · rw [dl_succ h]; simp; omega
  | n + 1, V => by
    by_cases h : V = 0
    · subst h; rw [dl_zero]; exact ⟨fun _ => Nat.pow_pos (by omega), fun _ => by omega⟩
    · rw [dl_succ h, Nat.succ_le_succ_iff, dl_le, Nat.pow_succ]
      exact Nat.div_lt_iff_lt_mul (by omega)
theorem lt_dl (V : Nat) : V < 10 ^ dl V := dl_le.1 (Nat.le_refl _)
theorem dl_pos {V : Nat} (h : 0 < V) : 0 < dl V := by rw [dl_succ (by omega)]; omega
theorem d10_zero {V i : Nat} (h : V < 10 ^ i) : d10 V i = 0 := by unfold d10; rw [Nat.div_eq_of_lt h]
theorem dmod_succ (V i : Nat) : V % 10 ^ (i + 1) = V % 10 ^ i + 10 ^ i * d10 V i := by
  unfold d10; rw [Nat.pow_succ, Nat.mod_mul]
theorem dl_eq {V n : Nat} (h : V < 10 ^ n) (ht : n = 0 ∨ d10 V (n - 1) ≠ 0) : dl V = n := by
  have h1 := dl_le.2 h
  rcases ht with rfl | ht
  · omega
  · rcases Nat.lt_or_ge (n - 1) (dl V) with h2 | h2
    · omega
    · exact absurd (d10_zero (dl_le.1 h2)) ht
theorem dlt_pred {V n : Nat} (h : V < 10 ^ (n + 1)) (hz : d10 V n = 0) : V < 10 ^ n := by
  have h1 := dmod_succ V n
  rw [Nat.mod_eq_of_lt h, hz, Nat.mul_zero, Nat.add_zero] at h1
  rw [h1]; exact Nat.mod_lt _ (Nat.pow_pos (by omega))
theorem d10_top {V : Nat} (h : 0 < V) : d10 V (dl V - 1) ≠ 0 := fun hz => by
  have hp := dl_pos h
  have h1 := lt_dl V
  rw [show dl V = dl V - 1 + 1 by omega] at h1
  have := dl_le.2 (dlt_pred h1 hz)
  omega
/-- Four digits are a group. -/
theorem d10_group (V i j : Nat) (hj : j < 4) : dg4 V i / 10 ^ j % 10 = d10 V (4 * i + j) := by
  unfold dg4 d10
  rw [show (10000 : Nat) = 10 ^ 4 from rfl, ← Nat.pow_mul, Nat.pow_add, ← Nat.div_div_eq_div_mul]
  generalize V / 10 ^ (4 * i) = z
  rcases j with _ | _ | _ | _ | j
  · simp
  · simp; omega
  · simp; omega
  · simp; omega
  · omega

/-- A digit as a byte. -/
def dch (d : Nat) : UInt8 := UInt8.ofNat (48 + d)
theorem dch_nat {d : Nat} (h : d < 10) : (dch d).toNat = 48 + d := by unfold dch; simp; omega
/-- Is a byte a digit? -/
def IsD (c : UInt8) : Prop := 48 ≤ c.toNat ∧ c.toNat ≤ 57
theorem dch_is {d : Nat} (h : d < 10) : IsD (dch d) := by unfold IsD; rw [dch_nat h]; omega
/-- The number that digits are. -/
def dval (L : List UInt8) : Nat := L.foldl (fun n c => 10 * n + (c.toNat - 48)) 0
theorem dval_snoc (L : List UInt8) (c : UInt8) : dval (L ++ [c]) = 10 * dval L + (c.toNat - 48) := by unfold dval; rw [List.foldl_append]; rfl
theorem dfold (L : List UInt8) : ∀ n, L.foldl (fun n c => 10 * n + (c.toNat - 48)) n = n * 10 ^ L.length + dval L := by
  induction L with
  | nil => intro n; simp [dval]
  | cons c L ih =>
    intro n
    have h0 : dval (c :: L) = L.foldl (fun n c => 10 * n + (c.toNat - 48)) (10 * 0 + (c.toNat - 48)) := rfl
    rw [List.foldl_cons, ih, h0, ih, List.length_cons, Nat.pow_succ]
    grind
theorem dval_cons (c : UInt8) (L : List UInt8) : dval (c :: L) = (c.toNat - 48) * 10 ^ L.length + dval L := by
  have h0 : dval (c :: L) = L.foldl (fun n c => 10 * n + (c.toNat - 48)) (10 * 0 + (c.toNat - 48)) := rfl
  rw [h0, dfold]; simp
theorem dval_append (L M : List UInt8) : dval (L ++ M) = dval L * 10 ^ M.length + dval M := by
  have h0 : dval (L ++ M) = M.foldl (fun n c => 10 * n + (c.toNat - 48)) (dval L) := by unfold dval; rw [List.foldl_append]
  rw [h0, dfold]
theorem dval_lt : ∀ {L : List UInt8}, (∀ c ∈ L, IsD c) → dval L < 10 ^ L.length
  | [], _ => by simp [dval]
  | c :: L, h => by
    have h1 := dval_lt fun d hd => h d (List.mem_cons_of_mem _ hd)
    have h2 : IsD c := h c (by simp)
    unfold IsD at h2
    rw [dval_cons, List.length_cons, Nat.pow_succ]
    have : (c.toNat - 48) * 10 ^ L.length ≤ 9 * 10 ^ L.length := Nat.mul_le_mul_right _ (by omega)
    omega
theorem dval_take {L : List UInt8} (h : ∀ c ∈ L, IsD c) (k : Nat) : dval (L.take k) = dval L / 10 ^ (L.length - k) := by
  have h1 := dval_append (L.take k) (L.drop k)
  rw [List.take_append_drop, List.length_drop] at h1
  have h2 : dval (L.drop k) < 10 ^ (L.length - k) := by
    have := dval_lt (L := L.drop k) fun c hc => h c (List.mem_of_mem_drop hc)
    rwa [List.length_drop] at this
  rw [h1, Nat.mul_comm, Nat.mul_add_div (Nat.pow_pos (by omega)), Nat.div_eq_of_lt h2, Nat.add_zero]
theorem dval_drop {L : List UInt8} (h : ∀ c ∈ L, IsD c) (k : Nat) : dval (L.drop k) = dval L % 10 ^ (L.length - k) := by
  have h1 := dval_append (L.take k) (L.drop k)
  rw [List.take_append_drop, List.length_drop] at h1
  have h2 : dval (L.drop k) < 10 ^ (L.length - k) := by
    have := dval_lt (L := L.drop k) fun c hc => h c (List.mem_of_mem_drop hc)
    rwa [List.length_drop] at this
  rw [h1, Nat.mul_comm, Nat.mul_add_mod, Nat.mod_eq_of_lt h2]
/-- The last digits of a number. -/
def pad (V m : Nat) : List UInt8 := (List.range m).map fun k => dch (d10 V (m - 1 - k))
theorem pad_length (V m : Nat) : (pad V m).length = m := by simp [pad]
theorem pad_at (V m k : Nat) (h : k < (pad V m).length) : (pad V m)[k] = dch (d10 V (m - 1 - k)) := by simp [pad]
theorem pad_is (V m : Nat) : ∀ c ∈ pad V m, IsD c := by
  intro c hc
  simp [pad] at hc
  obtain ⟨k, _, rfl⟩ := hc
  exact dch_is (d10_lt _ _)
theorem pad_succ (V m : Nat) : pad V (m + 1) = dch (d10 V m) :: pad V m := by
  apply List.ext_getElem
  · simp [pad]
  · intro i h1 h2
    rw [pad_at]
    rcases i with _ | i
    · simp
    · rw [List.getElem_cons_succ, pad_at]
      congr 2
      omega
theorem dval_pad (V : Nat) : ∀ m, dval (pad V m) = V % 10 ^ m
  | 0 => by simp [pad, dval, Nat.mod_one]
  | m + 1 => by
    rw [pad_succ, dval_cons, dval_pad V m, pad_length, dch_nat (d10_lt _ _), dmod_succ, Nat.add_sub_cancel_left, Nat.mul_comm]
    omega
theorem d10_mod (V m i : Nat) (h : i < m) : d10 (V % 10 ^ m) i = d10 V i := by
  unfold d10
  obtain ⟨k, rfl⟩ := Nat.exists_eq_add_of_lt h
  rw [show i + k + 1 = i + (k + 1) by omega, Nat.pow_add, Nat.mod_mul_right_div_self, Nat.pow_succ, Nat.mul_comm (10 ^ k), Nat.mod_mul_right_mod]
theorem pad_dval : ∀ {L : List UInt8}, (∀ c ∈ L, IsD c) → pad (dval L) L.length = L
  | [], _ => rfl
  | c :: L, h => by
    have hL : ∀ d ∈ L, IsD d := fun d hd => h d (List.mem_cons_of_mem _ hd)
    have h2 : IsD c := h c (by simp)
    unfold IsD at h2
    have h1 := dval_lt hL
    have hd := dval_cons c L
    have hp : 0 < 10 ^ L.length := Nat.pow_pos (by omega)
    have e1 : d10 (dval (c :: L)) L.length = c.toNat - 48 := by
      unfold d10
      rw [hd, Nat.mul_comm, Nat.mul_add_div hp, Nat.div_eq_of_lt h1, Nat.add_zero, Nat.mod_eq_of_lt (by omega)]
    have e2 : dval (c :: L) % 10 ^ L.length = dval L := by rw [hd, Nat.mul_comm, Nat.mul_add_mod, Nat.mod_eq_of_lt h1]
    have e3 : pad (dval (c :: L)) L.length = pad (dval L) L.length := by
      apply List.ext_getElem
      · simp [pad]
      · intro i a b
        have hi : i < L.length := by simpa [pad] using a
        rw [pad_at, pad_at, ← e2, d10_mod _ _ _ (by omega)]
    have e4 : dch (c.toNat - 48) = c := by
      apply UInt8.toNat_inj.1
      rw [dch_nat (by omega)]; omega
    rw [List.length_cons, pad_succ, e1, e3, pad_dval hL, e4]
/-- A number in decimal notation. -/
def dec10 (V : Nat) : List UInt8 := pad V (dl V)
theorem dec10_length (V : Nat) : (dec10 V).length = dl V := pad_length _ _
theorem dval_dec10 (V : Nat) : dval (dec10 V) = V := by unfold dec10; rw [dval_pad, Nat.mod_eq_of_lt (lt_dl V)]
theorem dec10_is (V : Nat) : ∀ c ∈ dec10 V, IsD c := pad_is _ _
theorem dec10_head {V : Nat} (h : 0 < V) : ∃ c L, dec10 V = c :: L ∧ c.toNat ≠ 48 ∧ IsD c := by
  have h1 := dl_pos h
  have h2 := d10_top h
  obtain ⟨m, hm⟩ : ∃ m, dl V = m + 1 := ⟨dl V - 1, by omega⟩
  unfold dec10
  rw [hm, pad_succ]
  rw [hm, Nat.add_sub_cancel] at h2
  exact ⟨_, _, rfl, by rw [dch_nat (d10_lt _ _)]; omega, dch_is (d10_lt _ _)⟩
theorem dec10_of {c : UInt8} {L : List UInt8} (h : ∀ d ∈ c :: L, IsD d) (hc : c.toNat ≠ 48) : dec10 (dval (c :: L)) = c :: L := by
  have e : dl (dval (c :: L)) = (c :: L).length := by
    refine dl_eq (dval_lt h) (.inr ?_)
    have h2 : IsD c := h c (by simp)
    unfold IsD at h2
    have h1 := dval_lt (L := L) fun d hd => h d (List.mem_cons_of_mem _ hd)
    rw [List.length_cons, Nat.add_sub_cancel, dval_cons]
    unfold d10
    rw [Nat.mul_comm, Nat.mul_add_div (Nat.pow_pos (by omega)), Nat.div_eq_of_lt h1, Nat.add_zero, Nat.mod_eq_of_lt (by omega)]
    omega
  unfold dec10
  rw [e]; exact pad_dval h

/-- An integer as bytes. -/
def zL (z : Int) : List UInt8 := if z = 0 then [48] else (if z < 0 then [45] else []) ++ dec10 z.natAbs
/-- An integer as a string. -/
def zS (z : Int) : ByteArray := ⟨(zL z).toArray⟩
theorem zS_list (z : Int) : (zS z).data.toList = zL z := rfl
/-- Is it written with a minus? -/
def cutB : List UInt8 → Bool
  | 45 :: _ => true
  | _ => false
/-- What follows the sign. -/
def cutR : List UInt8 → List UInt8
  | 45 :: L => L
  | L => L
/-- Are all bytes digits? -/
def allD (L : List UInt8) : Bool := L.all fun c => decide (48 ≤ c.toNat) && decide (c.toNat ≤ 57)
theorem allD_iff {L : List UInt8} : allD L = true ↔ ∀ c ∈ L, IsD c := by
  unfold allD IsD; simp
/-- Are these digits without a sign an integer? -/
def okD (s : Bool) (L : List UInt8) : Bool := match L with
  | [] => false
  | c :: L => if 200 < L.length + 1 then false else if c.toNat = 48 then (L.length == 0 && !s) else allD (c :: L)
/-- Is it an integer? -/
def validB (L : List UInt8) : Bool := okD (cutB L) (cutR L)
/-- The number of a sign and an amount. -/
def sg' (s : Bool) (X : Nat) : Int := if s then -(X : Int) else X
/-- What a string is read as. -/
def rd (L : List UInt8) : Option Int := if validB L then some (sg' (cutB L) (dval (cutR L))) else none
theorem cutB_zL {z : Int} : cutB (zL z) = decide (z < 0) ∧ cutR (zL z) = if z = 0 then [48] else dec10 z.natAbs := by
  unfold zL
  by_cases h0 : z = 0
  · subst h0; simp [cutB, cutR]
  · rw [if_neg h0, if_neg h0]
    by_cases h1 : z < 0
    · rw [if_pos h1]; simp [cutB, cutR, h1]
    · rw [if_neg h1, List.nil_append]
      obtain ⟨c, L, hc, -, hd⟩ := dec10_head (V := z.natAbs) (by omega)
      rw [hc]
      have hne : c ≠ 45 := by rintro rfl; unfold IsD at hd; simp at hd
      unfold cutB cutR
      split
      · rename_i h; injection h with h _; exact absurd h hne
      · simp [h1]
theorem rd_zL {z : Int} (h : z.natAbs < 10 ^ 200) : rd (zL z) = some z := by
  obtain ⟨h1, h2⟩ := @cutB_zL z
  unfold rd validB
  rw [h1, h2]
  by_cases h0 : z = 0
  · subst h0; decide
  · rw [if_neg h0]
    obtain ⟨c, L, hc, hn, hd⟩ := dec10_head (V := z.natAbs) (by omega)
    have hl := dl_le.2 h
    rw [← dec10_length, hc, List.length_cons] at hl
    have hv := dval_dec10 z.natAbs
    have ha : allD (c :: L) = true := by rw [allD_iff, ← hc]; exact dec10_is _
    rw [hc] at hv ⊢
    unfold okD
    simp only [if_neg (show ¬ 200 < L.length + 1 by omega), if_neg hn, ha, if_true, hv]
    unfold sg'
    by_cases h3 : z < 0
    · simp [h3]; omega
    · simp [h3]; omega
theorem cut_glue (L : List UInt8) : L = (if cutB L then [45] else []) ++ cutR L := by
  unfold cutB cutR
  split <;> simp
theorem rd_some {L : List UInt8} {z : Int} (h : rd L = some z) : L = zL z ∧ z.natAbs < 10 ^ 200 ∧ cutB L = decide (z < 0) ∧ (∀ c ∈ cutR L, IsD c) ∧ dval (cutR L) = z.natAbs ∧ 0 < (cutR L).length ∧ (cutR L).length ≤ 200 ∧ validB L = true := by
  unfold rd at h
  by_cases hv : validB L = true
  · rw [if_pos hv] at h
    injection h with h
    have hv0 := hv
    unfold validB at hv
    have hg := cut_glue L
    generalize cutB L = s at *
    generalize cutR L = M at *
    unfold okD at hv
    rcases M with _ | ⟨c, M⟩
    · simp at hv
    · simp only at hv
      by_cases h1 : 200 < M.length + 1
      · rw [if_pos h1] at hv; simp at hv
      · rw [if_neg h1] at hv
        by_cases h2 : c.toNat = 48
        · rw [if_pos h2] at hv
          simp at hv
          obtain ⟨rfl, rfl⟩ := hv
          obtain rfl : c = 48 := UInt8.toNat_inj.1 h2
          have : z = 0 := by rw [← h]; decide
          subst this
          refine ⟨by rw [hg]; rfl, by decide, rfl, ?_, rfl, by simp, by simp, hv0⟩
          intro d hd
          simp at hd
          subst hd; unfold IsD; decide
        · rw [if_neg h2, allD_iff] at hv
          have e := dec10_of hv h2
          have hpos : 0 < dval (c :: M) := by
            rcases Nat.eq_zero_or_pos (dval (c :: M)) with h3 | h3
            · rw [h3] at e; unfold dec10 at e; rw [dl_zero] at e; simp [pad] at e
            · exact h3
          have hlt := dval_lt hv
          have hlt2 : dval (c :: M) < 10 ^ 200 := Nat.lt_of_lt_of_le hlt (Nat.pow_le_pow_right (by omega) (by rw [List.length_cons]; omega))
          have hz : z.natAbs = dval (c :: M) := by rw [← h]; unfold sg'; split <;> omega
          have hs : s = decide (z < 0) := by
            rw [← h]; unfold sg'
            cases s
            · simp
            · simp; omega
          refine ⟨?_, by omega, hs, hv, hz.symm, by simp, by rw [List.length_cons]; omega, hv0⟩
          rw [hg]
          unfold zL
          rw [if_neg (show ¬ z = 0 by omega), hz, e]
          cases s
          · have : ¬ z < 0 := by simpa using hs.symm
            rw [if_neg this]; simp
          · have : z < 0 := by simpa using hs.symm
            rw [if_pos this]; simp
  · rw [if_neg hv] at h; cases h
theorem zL_inj {x y : Int} (h : zL x = zL y) : x = y := by
  have h1 := @cutB_zL x
  have h2 := @cutB_zL y
  rw [h] at h1
  have e1 : decide (x < 0) = decide (y < 0) := h1.1.symm.trans h2.1
  have e2 := h1.2.symm.trans h2.2
  have e3 : x.natAbs = y.natAbs := by
    have d0 : dval [48] = 0 := by decide
    have := congrArg dval e2
    by_cases hx : x = 0 <;> by_cases hy : y = 0
    · omega
    · rw [if_pos hx, if_neg hy, dval_dec10, d0] at this; omega
    · rw [if_neg hx, if_pos hy, dval_dec10, d0] at this; omega
    · rw [if_neg hx, if_neg hy, dval_dec10, dval_dec10] at this; exact this
  rw [decide_eq_decide] at e1
  omega
end Go.Proofs.Ytgpppjfgdbloiaa
