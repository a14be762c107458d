/- Decimal notation, as plain mathematics. No conditions. | The contracts of cutSign, allDecimal, valueOf and Valid. Condition: a string's length is an int's. | The contract of Valid. Condition: a string's length is an int's. | The contracts of parse and parseBoth. Condition: a string's length is an int's. | The contract of parseBoth. Condition: the strings' lengths are ints. | The contract of text. Condition: the amount reads, and has at most 1,000 groups. -/
import Derived.Lib.Strings
import Derived.Laws.IdiomStrings
import Derived.Test.YtpjbihfkedbenaaGreatGA
import Derived.Test.YtpjbihfkedbenaaGreatGB
namespace Go.Proofs.YtpjbihfkedbenaaGreat
def d10 (V i : Nat) : Nat := V / 10 ^ i % 10
theorem d10_lt (V i : Nat) : d10 V i < 10 := Nat.mod_lt _ (by omega)
def dl (V : Nat) : Nat := if _h : V = 0 then 0 else dl (V / 10) + 1
termination_by V
decreasing_by omega
theorem dl_zero : dl 0 = 0 := by rw [dl, dif_pos rfl]
theorem dl_succ {V : Nat} (h : V ≠ 0) : dl V = dl (V / 10) + 1 := by rw [dl, dif_neg h]
theorem dl_le : ∀ {n V : Nat}, dl V <= n ↔ V < 10 ^ n
 | 0, V => by
   by_cases h : V = 0
   · subst h; rw [dl_zero]; simp
   · rw [dl_succ h]; simp; omega
 | n + 1, V => by
   by_cases h : V = 0
   · subst h; rw [dl_zero]; exact ⟨fun _ => Nat.pow_pos (by omega), fun _ => by omega⟩
   · rw [dl_succ h, Nat.succ_le_succ_iff, dl_le, Nat.pow_succ]
     exact Nat.div_lt_iff_lt_mul (by omega)
theorem lt_dl (V : Nat) : V < 10 ^ dl V := dl_le.1 (Nat.le_refl _)
theorem dl_pos {V : Nat} (h : 0 < V) : 0 < dl V := by rw [dl_succ (by omega)]; omega
theorem d10_zero {V i : Nat} (h : V < 10 ^ i) : d10 V i = 0 := by unfold d10; rw [Nat.div_eq_of_lt h]
theorem dmod_succ (V i : Nat) : V % 10 ^ (i + 1) = V % 10 ^ i + 10 ^ i * d10 V i := by
 unfold d10; rw [Nat.pow_succ, Nat.mod_mul]
theorem dl_eq {V n : Nat} (h : V < 10 ^ n) (ht : n = 0 ∨ d10 V (n - 1) ≠ 0) : dl V = n := by
 have h1 := dl_le.2 h
 rcases ht with rfl | ht
 · omega
 · rcases Nat.lt_or_ge (n - 1) (dl V) with h2 | h2
   · omega
   · exact absurd (d10_zero (dl_le.1 h2)) ht
theorem dlt_pred {V n : Nat} (h : V < 10 ^ (n + 1)) (hz : d10 V n = 0) : V < 10 ^ n := by
 have h1 := dmod_succ V n
 rw [Nat.mod_eq_of_lt h, hz, Nat.mul_zero, Nat.add_zero] at h1
 rw [h1]; exact Nat.mod_lt _ (Nat.pow_pos (by omega))
theorem d10_top {V : Nat} (h : 0 < V) : d10 V (dl V - 1) ≠ 0 := fun hz => by
 have hp := dl_pos h
 have h1 := lt_dl V
 rw [show dl V = dl V - 1 + 1 by omega] at h1
 have := dl_le.2 (dlt_pred h1 hz)
 omega
theorem d10_group (V i j : Nat) (hj : j < 4) : dg4 V i / 10 ^ j % 10 = d10 V (4 * i + j) := by
 unfold dg4 d10
 rw [show (10000 : Nat) = 10 ^ 4 from rfl, <- Nat.pow_mul, Nat.pow_add, <- Nat.div_div_eq_div_mul]
 generalize V / 10 ^ (4 * i) = z
 rcases j with _ | _ | _ | _ | j
 · simp
 · simp; omega
 · simp; omega
 · simp; omega
 · omega
def dch (d : Nat) : UInt8 := UInt8.ofNat (48 + d)
theorem dch_nat {d : Nat} (h : d < 10) : (dch d).toNat = 48 + d := by unfold dch; simp; omega
def IsD (c : UInt8) : Prop := 48 <= c.toNat /\ c.toNat <= 57
theorem dch_is {d : Nat} (h : d < 10) : IsD (dch d) := by unfold IsD; rw [dch_nat h]; omega
def dval (L : List UInt8) : Nat := L.foldl (fun n c => 10 * n + (c.toNat - 48)) 0
theorem dval_snoc (L : List UInt8) (c : UInt8) : dval (L ++ [c]) = 10 * dval L + (c.toNat - 48) := by unfold dval; rw [List.foldl_append]; rfl
theorem dfold (L : List UInt8) : ∀ n, L.foldl (fun n c => 10 * n + (c.toNat - 48)) n = n * 10 ^ L.length + dval L := by
 induction L with
 | nil => intro n; simp [dval]
 | cons c L ih =>
   intro n
   have h0 : dval (c :: L) = L.foldl (fun n c => 10 * n + (c.toNat - 48)) (10 * 0 + (c.toNat - 48)) := rfl
   rw [List.foldl_cons, ih, h0, ih, List.length_cons, Nat.pow_succ]
   grind
theorem dval_cons (c : UInt8) (L : List UInt8) : dval (c :: L) = (c.toNat - 48) * 10 ^ L.length + dval L := by
 have h0 : dval (c :: L) = L.foldl (fun n c => 10 * n + (c.toNat - 48)) (10 * 0 + (c.toNat - 48)) := rfl
 rw [h0, dfold]; simp
theorem dval_append (L M : List UInt8) : dval (L ++ M) = dval L * 10 ^ M.length + dval M := by
 have h0 : dval (L ++ M) = M.foldl (fun n c => 10 * n + (c.toNat - 48)) (dval L) := by unfold dval; rw [List.foldl_append]
 rw [h0, dfold]
theorem dval_lt : ∀ {L : List UInt8}, (∀ c ∈ L, IsD c) -> dval L < 10 ^ L.length
 | [], _ => by simp [dval]
 | c :: L, h => by
   have h1 := dval_lt fun d hd => h d (List.mem_cons_of_mem _ hd)
   have h2 : IsD c := h c (by simp)
   unfold IsD at h2
   rw [dval_cons, List.length_cons, Nat.pow_succ]
   have : (c.toNat - 48) * 10 ^ L.length <= 9 * 10 ^ L.length := Nat.mul_le_mul_right _ (by omega)
   omega
theorem dval_take {L : List UInt8} (h : ∀ c ∈ L, IsD c) (k : Nat) : dval (L.take k) = dval L / 10 ^ (L.length - k) := by
 have h1 := dval_append (L.take k) (L.drop k)
 rw [List.take_append_drop, List.length_drop] at h1
 have h2 : dval (L.drop k) < 10 ^ (L.length - k) := by
   have := dval_lt (L := L.drop k) fun c hc => h c (List.mem_of_mem_drop hc)
   rwa [List.length_drop] at this
 rw [h1, Nat.mul_comm, Nat.mul_add_div (Nat.pow_pos (by omega)), Nat.div_eq_of_lt h2, Nat.add_zero]
theorem dval_drop {L : List UInt8} (h : ∀ c ∈ L, IsD c) (k : Nat) : dval (L.drop k) = dval L % 10 ^ (L.length - k) := by
 have h1 := dval_append (L.take k) (L.drop k)
 rw [List.take_append_drop, List.length_drop] at h1
 have h2 : dval (L.drop k) < 10 ^ (L.length - k) := by
   have := dval_lt (L := L.drop k) fun c hc => h c (List.mem_of_mem_drop hc)
   rwa [List.length_drop] at this
 rw [h1, Nat.mul_comm, Nat.mul_add_mod, Nat.mod_eq_of_lt h2]
def pad (V m : Nat) : List UInt8 := (List.range m).map fun k => dch (d10 V (m - 1 - k))
theorem pad_length (V m : Nat) : (pad V m).length = m := by simp [pad]
theorem pad_at (V m k : Nat) (h : k < (pad V m).length) : (pad V m)[k] = dch (d10 V (m - 1 - k)) := by simp [pad]
theorem pad_is (V m : Nat) : ∀ c ∈ pad V m, IsD c := by
 intro c hc
 simp [pad] at hc
 obtain ⟨k, _, rfl⟩ := hc
 exact dch_is (d10_lt _ _)
theorem pad_succ (V m : Nat) : pad V (m + 1) = dch (d10 V m) :: pad V m := by
 apply List.ext_getElem
 · simp [pad]
 · intro i h1 h2
   rw [pad_at]
   rcases i with _ | i
   · simp
   · rw [List.getElem_cons_succ, pad_at]
     congr 2
     omega
theorem dval_pad (V : Nat) : ∀ m, dval (pad V m) = V % 10 ^ m
 | 0 => by simp [pad, dval, Nat.mod_one]
 | m + 1 => by
   rw [pad_succ, dval_cons, dval_pad V m, pad_length, dch_nat (d10_lt _ _), dmod_succ, Nat.add_sub_cancel_left, Nat.mul_comm]
   omega
theorem d10_mod (V m i : Nat) (h : i < m) : d10 (V % 10 ^ m) i = d10 V i := by
 unfold d10
 obtain ⟨k, rfl⟩ := Nat.exists_eq_add_of_lt h
 rw [show i + k + 1 = i + (k + 1) by omega, Nat.pow_add, Nat.mod_mul_right_div_self, Nat.pow_succ, Nat.mul_comm (10 ^ k), Nat.mod_mul_right_mod]
theorem pad_dval : ∀ {L : List UInt8}, (∀ c ∈ L, IsD c) -> pad (dval L) L.length = L
 | [], _ => rfl
 | c :: L, h => by
   have hL : ∀ d ∈ L, IsD d := fun d hd => h d (List.mem_cons_of_mem _ hd)
   have h2 : IsD c := h c (by simp)
   unfold IsD at h2
   have h1 := dval_lt hL
   have hd := dval_cons c L
   have hp : 0 < 10 ^ L.length := Nat.pow_pos (by omega)
   have e1 : d10 (dval (c :: L)) L.length = c.toNat - 48 := by
     unfold d10
     rw [hd, Nat.mul_comm, Nat.mul_add_div hp, Nat.div_eq_of_lt h1, Nat.add_zero, Nat.mod_eq_of_lt (by omega)]
   have e2 : dval (c :: L) % 10 ^ L.length = dval L := by rw [hd, Nat.mul_comm, Nat.mul_add_mod, Nat.mod_eq_of_lt h1]
   have e3 : pad (dval (c :: L)) L.length = pad (dval L) L.length := by
     apply List.ext_getElem
     · simp [pad]
     · intro i a b
       have hi : i < L.length := by simpa [pad] using a
       rw [pad_at, pad_at, <- e2, d10_mod _ _ _ (by omega)]
   have e4 : dch (c.toNat - 48) = c := by
     apply UInt8.toNat_inj.1
     rw [dch_nat (by omega)]; omega
   rw [List.length_cons, pad_succ, e1, e3, pad_dval hL, e4]
def dec10 (V : Nat) : List UInt8 := pad V (dl V)
theorem dec10_length (V : Nat) : (dec10 V).length = dl V := pad_length _ _
theorem dval_dec10 (V : Nat) : dval (dec10 V) = V := by unfold dec10; rw [dval_pad, Nat.mod_eq_of_lt (lt_dl V)]
theorem dec10_is (V : Nat) : ∀ c ∈ dec10 V, IsD c := pad_is _ _
theorem dec10_head {V : Nat} (h : 0 < V) : ∃ c L, dec10 V = c :: L /\ c.toNat ≠ 48 /\ IsD c := by
 have h1 := dl_pos h
 have h2 := d10_top h
 obtain ⟨m, hm⟩ : ∃ m, dl V = m + 1 := ⟨dl V - 1, by omega⟩
 unfold dec10
 rw [hm, pad_succ]
 rw [hm, Nat.add_sub_cancel] at h2
 exact ⟨_, _, rfl, by rw [dch_nat (d10_lt _ _)]; omega, dch_is (d10_lt _ _)⟩
theorem dec10_of {c : UInt8} {L : List UInt8} (h : ∀ d ∈ c :: L, IsD d) (hc : c.toNat ≠ 48) : dec10 (dval (c :: L)) = c :: L := by
 have e : dl (dval (c :: L)) = (c :: L).length := by
   refine dl_eq (dval_lt h) (.inr ?_)
   have h2 : IsD c := h c (by simp)
   unfold IsD at h2
   have h1 := dval_lt (L := L) fun d hd => h d (List.mem_cons_of_mem _ hd)
   rw [List.length_cons, Nat.add_sub_cancel, dval_cons]
   unfold d10
   rw [Nat.mul_comm, Nat.mul_add_div (Nat.pow_pos (by omega)), Nat.div_eq_of_lt h1, Nat.add_zero, Nat.mod_eq_of_lt (by omega)]
   omega
 unfold dec10
 rw [e]; exact pad_dval h
def zL (z : Int) : List UInt8 := if z = 0 then [48] else (if z < 0 then [45] else []) ++ dec10 z.natAbs
def zS (z : Int) : ByteArray := ⟨(zL z).toArray⟩
theorem zS_list (z : Int) : (zS z).data.toList = zL z := rfl
def cutB : List UInt8 -> Bool
 | 45 :: _ => true
 | _ => false
def cutR : List UInt8 -> List UInt8
 | 45 :: L => L
 | L => L
def allD (L : List UInt8) : Bool := L.all fun c => decide (48 <= c.toNat) && decide (c.toNat <= 57)
theorem allD_iff {L : List UInt8} : allD L = true ↔ ∀ c ∈ L, IsD c := by
 unfold allD IsD; simp
def okD (s : Bool) (L : List UInt8) : Bool := match L with
 | [] => false
 | c :: L => if 200 < L.length + 1 then false else if c.toNat = 48 then (L.length == 0 && !s) else allD (c :: L)
def validB (L : List UInt8) : Bool := okD (cutB L) (cutR L)
def sg' (s : Bool) (X : Nat) : Int := if s then -(X : Int) else X
def rd (L : List UInt8) : Option Int := if validB L then some (sg' (cutB L) (dval (cutR L))) else none
theorem cutB_zL {z : Int} : cutB (zL z) = decide (z < 0) /\ cutR (zL z) = if z = 0 then [48] else dec10 z.natAbs := by
 unfold zL
 by_cases h0 : z = 0
 · subst h0; simp [cutB, cutR]
 · rw [if_neg h0, if_neg h0]
   by_cases h1 : z < 0
   · rw [if_pos h1]; simp [cutB, cutR, h1]
   · rw [if_neg h1, List.nil_append]
     obtain ⟨c, L, hc, -, hd⟩ := dec10_head (V := z.natAbs) (by omega)
     rw [hc]
     have hne : c ≠ 45 := by rintro rfl; unfold IsD at hd; simp at hd
     unfold cutB cutR
     split
     · rename_i h; injection h with h _; exact absurd h hne
     · simp [h1]
theorem rd_zL {z : Int} (h : z.natAbs < 10 ^ 200) : rd (zL z) = some z := by
 obtain ⟨h1, h2⟩ := @cutB_zL z
 unfold rd validB
 rw [h1, h2]
 by_cases h0 : z = 0
 · subst h0; decide
 · rw [if_neg h0]
   obtain ⟨c, L, hc, hn, hd⟩ := dec10_head (V := z.natAbs) (by omega)
   have hl := dl_le.2 h
   rw [<- dec10_length, hc, List.length_cons] at hl
   have hv := dval_dec10 z.natAbs
   have ha : allD (c :: L) = true := by rw [allD_iff, <- hc]; exact dec10_is _
   rw [hc] at hv ⊢
   unfold okD
   simp only [if_neg (show ¬ 200 < L.length + 1 by omega), if_neg hn, ha, if_true, hv]
   unfold sg'
   by_cases h3 : z < 0
   · simp [h3]; omega
   · simp [h3]; omega
theorem cut_glue (L : List UInt8) : L = (if cutB L then [45] else []) ++ cutR L := by
 unfold cutB cutR
 split <;> simp
theorem rd_some {L : List UInt8} {z : Int} (h : rd L = some z) : L = zL z /\ z.natAbs < 10 ^ 200 /\ cutB L = decide (z < 0) /\ (∀ c ∈ cutR L, IsD c) /\ dval (cutR L) = z.natAbs /\ 0 < (cutR L).length /\ (cutR L).length <= 200 /\ validB L = true := by
 unfold rd at h
 by_cases hv : validB L = true
 · rw [if_pos hv] at h
   injection h with h
   have hv0 := hv
   unfold validB at hv
   have hg := cut_glue L
   generalize cutB L = s at *
   generalize cutR L = M at *
   unfold okD at hv
   rcases M with _ | ⟨c, M⟩
   · simp at hv
   · simp only at hv
     by_cases h1 : 200 < M.length + 1
     · rw [if_pos h1] at hv; simp at hv
     · rw [if_neg h1] at hv
       by_cases h2 : c.toNat = 48
       · rw [if_pos h2] at hv
         simp at hv
         obtain ⟨rfl, rfl⟩ := hv
         obtain rfl : c = 48 := UInt8.toNat_inj.1 h2
         have : z = 0 := by rw [<- h]; decide
         subst this
         refine ⟨by rw [hg]; rfl, by decide, rfl, ?_, rfl, by simp, by simp, hv0⟩
         intro d hd
         simp at hd
         subst hd; unfold IsD; decide
       · rw [if_neg h2, allD_iff] at hv
         have e := dec10_of hv h2
         have hpos : 0 < dval (c :: M) := by
           rcases Nat.eq_zero_or_pos (dval (c :: M)) with h3 | h3
           · rw [h3] at e; unfold dec10 at e; rw [dl_zero] at e; simp [pad] at e
           · exact h3
         have hlt := dval_lt hv
         have hlt2 : dval (c :: M) < 10 ^ 200 := Nat.lt_of_lt_of_le hlt (Nat.pow_le_pow_right (by omega) (by rw [List.length_cons]; omega))
         have hz : z.natAbs = dval (c :: M) := by rw [<- h]; unfold sg'; split <;> omega
         have hs : s = decide (z < 0) := by
           rw [<- h]; unfold sg'
           cases s
           · simp
           · simp; omega
         refine ⟨?_, by omega, hs, hv, hz.symm, by simp, by rw [List.length_cons]; omega, hv0⟩
         rw [hg]
         unfold zL
         rw [if_neg (show ¬ z = 0 by omega), hz, e]
         cases s
         · have : ¬ z < 0 := by simpa using hs.symm
           rw [if_neg this]; simp
         · have : z < 0 := by simpa using hs.symm
           rw [if_pos this]; simp
 · rw [if_neg hv] at h; cases h
theorem zL_inj {x y : Int} (h : zL x = zL y) : x = y := by
 have h1 := @cutB_zL x
 have h2 := @cutB_zL y
 rw [h] at h1
 have e1 : decide (x < 0) = decide (y < 0) := h1.1.symm.trans h2.1
 have e2 := h1.2.symm.trans h2.2
 have e3 : x.natAbs = y.natAbs := by
   have d0 : dval [48] = 0 := by decide
   have := congrArg dval e2
   by_cases hx : x = 0 <;> by_cases hy : y = 0
   · omega
   · rw [if_pos hx, if_neg hy, dval_dec10, d0] at this; omega
   · rw [if_neg hx, if_pos hy, dval_dec10, d0] at this; omega
   · rw [if_neg hx, if_neg hy, dval_dec10, dval_dec10] at this; exact this
 rw [decide_eq_decide] at e1
 omega
end Go.Proofs.YtpjbihfkedbenaaGreat
namespace Go.Proofs.YtpjbihfkedbenaaGreat
open Go.RowKit Go.Lib
def bs (L : List UInt8) : ByteArray := ⟨L.toArray⟩
theorem bs_self (s : ByteArray) : bs s.data.toList = s := by unfold bs; exact mk_data s
theorem bs_size (L : List UInt8) : (bs L).size = L.length := rfl
def OutCut (L : List UInt8) (w : World) (e : Ending) (w' : World) : Prop := e = .returned (.tuple #[.bool (cutB L), .string (bs (cutR L))]) /\ ∃ k, w' = w.drewN k
set_option maxRecDepth 100000 in
theorem cutSign_any (s : ByteArray) (w : World) (hs : s.size <= 9000000000000000000) : Calls Tryz.prog 115 #[.string s] w (OutCut s.data.toList w) := by
 by_cases h0 : s.size = 0
 · obtain rfl : s = ⟨#[]⟩ := by
     have : s.data.toList = [] := by rw [<- List.length_eq_zero_iff]; exact h0
     rw [<- bs_self s, this]; rfl
   clear hs h0
   go_enter Tryz.func115, Tryz.ntmps115
   go_wp2
   go_ret2
   exact ⟨rfl, 0, rfl⟩
 · have hp : 0 < s.size := by omega
   have h1 : s.toList ≠ [] := by rw [toList_data, ne_eq, <- List.length_eq_zero_iff]; exact h0
   have h2 : (!s.toList.isEmpty) = true := by simp [h1]
   have hL : s.data.toList = s[0] :: s.data.toList.tail := by
     cases hq : s.data.toList with
     | nil => rw [<- List.length_eq_zero_iff] at hq; exact absurd hq h0
     | cons c R =>
       have : s[0] = c := by
         have h4 : s[0] = s.data.toList[0]'(by rw [hq]; simp) := rfl
         rw [h4]; simp [hq]
       rw [this]; rfl
   by_cases hc : s[0] = 45
   · have h3 : ((s[0].toNat : Int) == 45) = true := by rw [hc]; rfl
     have hcb : cutB s.data.toList = true := by rw [hL, hc]; rfl
     have hcr : bs (cutR s.data.toList) = s.extract 1 s.size := by
       rw [extract_eq]
       have : cutR s.data.toList = s.data.toList.tail := by rw [hL, hc]; rfl
       rw [this, <- List.drop_one, List.take_of_length_le (by rw [List.length_drop, size_eq]; exact Nat.le_refl _)]; rfl
     have hsl := fun w => run_slice_string_l (P := Tryz.prog) w 9 s Tryz.underlying9 .i64 1 (by omega) (by omega)
     rw [show (1 : Int).toNat = 1 from rfl] at hsl
     unfold OutCut
     rw [hcb, hcr]
     clear hL hc hcb hcr h0
     go_enter Tryz.func115, Tryz.ntmps115
     go_wp2_with fail
     go_quiet (fail)
     all_goals
       go_wp2
       go_ret2
       exact ⟨rfl, _, rfl⟩
   · have h3 : ((s[0].toNat : Int) == 45) = false := by
       rw [beq_eq_false_iff_ne]; intro h; exact hc (UInt8.toNat_inj.1 (show s[0].toNat = (45 : UInt8).toNat from Int.ofNat.inj h))
     have hcb : cutB s.data.toList = false := by
       rw [hL]; unfold cutB; split
       · rename_i h; injection h with h _; exact absurd h hc
       · rfl
     have hcr : bs (cutR s.data.toList) = s := by
       have : cutR s.data.toList = s.data.toList := by
         rw [hL]; unfold cutR; split
         · rename_i h; injection h with h _; exact absurd h hc
         · rfl
       rw [this, bs_self]
     unfold OutCut
     rw [hcb, hcr]
     clear hL hc hcb hcr h0
     go_enter Tryz.func115, Tryz.ntmps115
     go_wp2
     go_ret2
     exact ⟨rfl, 0, rfl⟩
theorem all_false {s : ByteArray} {k : Nat} (h : k < s.size) (hc : ¬ IsD s[k]) : allD s.data.toList = false := by
 rw [Bool.eq_false_iff]
 intro h2
 rw [allD_iff] at h2
 exact hc (h2 _ (by have : s[k] = s.data.toList[k]'(by rw [<- size_eq]; exact h) := rfl
                    rw [this]; exact List.getElem_mem _))
set_option maxRecDepth 100000 in
theorem alldec_any (s : ByteArray) (w : World) (hs : s.size <= 9000000000000000000) : Calls Tryz.prog 118 #[.string s] w fun e w' => e = .returned (.bool (allD s.data.toList)) /\ w = w' := by
 obtain ⟨r, hr⟩ : ∃ r, r = allD s.data.toList := ⟨_, rfl⟩
 rw [<- hr]
 have HR := Lib.hid hr
 clear hr
 go_enter Tryz.func118, Tryz.ntmps118
 go_wp2
 go_loop [6] (fun i => ∃ k : Nat, k <= s.size /\ i = .int .i64 k /\ Hid (∀ j (h : j < k) (h2 : j < s.size), IsD s[j])) (fun i => s.size - (intOf i).toNat)
 case atStart => exact ⟨0, Nat.zero_le _, rfl, fun j h => absurd h (Nat.not_lt_zero _)⟩
 case round =>
   obtain ⟨k, hk, rfl, HK⟩ := hrel
   by_cases hlt : k < s.size
   · by_cases hd : IsD s[k]
     · have HK2 : Hid (∀ j (h : j < k + 1) (h2 : j < s.size), IsD s[j]) := fun j h h2 => by
         rcases Nat.lt_succ_iff_lt_or_eq.1 h with h3 | h3
         · exact HK.out j h3 h2
         · subst h3; exact hd
       unfold IsD at hd
       obtain ⟨d1, d2⟩ := hd
       have d3 : (48 : Int) <= (s[k].toNat : Int) := by omega
       have d4 : (s[k].toNat : Int) <= 57 := by omega
       go_wp2
       go_round
       case rel => exact ⟨k + 1, by omega, by go_num, HK2⟩
       case measure => simp [intOf]; omega
     · have hf := all_false hlt hd
       unfold IsD at hd
       obtain rfl : r = false := HR.out.trans hf
       rcases Nat.lt_or_ge s[k].toNat 48 with h | h
       · have d3 : (s[k].toNat : Int) < 48 := by omega
         clear hf hd HK
         go_wp2
         go_ret
         exact ⟨rfl, rfl⟩
       · have d3 : (48 : Int) <= (s[k].toNat : Int) := by omega
         have d4 : (57 : Int) < (s[k].toNat : Int) := by omega
         clear hf hd HK
         go_wp2
         go_ret
         exact ⟨rfl, rfl⟩
   · have ht : allD s.data.toList = true := by
       rw [allD_iff]
       intro c hc
       obtain ⟨i, hi, rfl⟩ := List.mem_iff_getElem.1 hc
       exact HK.out i (by rw [<- size_eq] at hi; omega) (by rw [<- size_eq] at hi; omega)
     obtain rfl : r = true := HR.out.trans ht
     clear ht HK
     go_wp2
     go_ret
     exact ⟨rfl, rfl⟩
theorem wrap_step (N d : Int) : wrap64 (wrap64 (10 * wrap64 N) + d) = wrap64 (10 * N + d) := by unfold wrap64; omega
set_option maxRecDepth 100000 in
theorem vstep_any (N : Int) (c : UInt8) (hc : IsD c) (w : World) : Calls Tryz.prog 123 #[.int .i64 (wrap64 N), .int .u8 c.toNat] w fun e w' => e = .returned (.int .i64 (wrap64 (10 * N + (c.toNat - 48 : Nat)))) /\ w = w' := by
 unfold IsD at hc
 obtain ⟨h1, h2⟩ := hc
 obtain ⟨d, hd⟩ : ∃ d : Nat, d = c.toNat - 48 := ⟨_, rfl⟩
 have e1 : (c.toNat : Int) - 48 = (d : Int) := by omega
 have e2 := wrap_step N d
 have hd9 : d <= 9 := by omega
 rw [<- hd, <- e2]
 have q1 : (48 : Int) <= (c.toNat : Int) := by omega
 have q2 : (c.toNat : Int) <= 57 := by omega
 obtain ⟨M, hM⟩ : ∃ M, M = wrap64 N := ⟨_, rfl⟩
 rw [<- hM]
 have q3 : -9223372036854775808 <= M /\ M <= 9223372036854775807 := by rw [hM]; unfold wrap64; omega
 obtain ⟨q3, q4⟩ := q3
 clear hd e2 hM h1 h2
 go_enter Tryz.func123, Tryz.ntmps123
 go_wp2
 go_ret
 exact ⟨rfl, rfl⟩
theorem dval_take_succ {L : List UInt8} {j : Nat} (h : j < L.length) : dval (L.take (j + 1)) = 10 * dval (L.take j) + (L[j].toNat - 48) := by
 rw [List.take_succ_eq_append_getElem h, dval_snoc]
set_option maxRecDepth 100000 in
theorem vfold_any (g cap : Nat) (L : List UInt8) (w : World) (hc : ∀ j (h : j < L.length), w.cell? ⟨g, j, none⟩ = some (.int .u8 L[j].toNat)) (hL : ∀ c ∈ L, IsD c) (hn : L.length <= 9000000000000000000) :
   Calls Tryz.prog 122 #[.slice (some ⟨g, 0, none⟩) L.length cap, .int .i64 0, .func (.func 123) #[] #[]] w fun e w' => e = .returned (.int .i64 (wrap64 (dval L : Nat))) /\ w = w' := by
 obtain ⟨n, hnl⟩ : ∃ n, n = L.length := ⟨_, rfl⟩
 have HC := Lib.hid hc; have HL := Lib.hid hL
 have h00 : wrap64 ((dval (L.take 0) : Nat) : Int) = 0 := by simp [dval, wrap64]
 have HV := Lib.hid (show dval (L.take n) = dval L by rw [hnl, List.take_length])
 rw [<- hnl] at hn ⊢
 have HN := Lib.hid hnl
 have H00 := Lib.hid h00
 clear hc hL hnl h00
 go_enter Tryz.func122, Tryz.ntmps122
 go_wp2
 go_loop [7, 13] (fun s i => ∃ j : Nat, j <= n /\ i = .int .i64 j /\ s = .int .i64 (wrap64 (dval (L.take j) : Nat))) (fun _ i => n - (intOf i).toNat)
 case atStart => exact ⟨0, Nat.zero_le _, rfl, (by rw [H00.out])⟩
 case round =>
   obtain ⟨j, hj, rfl, rfl⟩ := hrel
   by_cases hlt : j < n
   · have hl : j < L.length := by rw [<- HN.out]; exact hlt
     have c0 := HC.out j hl
     have HD := Lib.hid (dval_take_succ hl)
     have hd := HL.out L[j] (List.getElem_mem _)
     obtain ⟨c, hc⟩ : ∃ c, c = L[j] := ⟨_, rfl⟩
     rw [<- hc] at c0 HD hd
     have HST := Lib.hid (vstep_any (dval (L.take j) : Nat) c hd w)
     have q1 : (0 : Int) <= (j : Int) := by omega
     have q2 : (j : Int) < (n : Int) := by omega
     obtain ⟨N, hN⟩ : ∃ N, N = dval (L.take j) := ⟨_, rfl⟩
     rw [<- hN] at HST HD ⊢
     obtain ⟨x, hx⟩ : ∃ x, x = wrap64 (N : Nat) := ⟨_, rfl⟩
     rw [<- hx] at HST ⊢
     have HE := Lib.hid (show wrap64 ((dval (L.take (j + 1)) : Nat) : Int) = wrap64 (10 * (N : Int) + (c.toNat - 48 : Nat)) by rw [HD.out]; push_cast; rfl)
     clear hc hN hx hd
     go_wp2_with (go_at_call 123; refine HST.out.mono ?_; rintro e w' ⟨rfl, rfl⟩; rw [<- HE.out])
     go_round
     case rel => exact ⟨j + 1, by omega, by go_num, rfl⟩
     case measure => simp [intOf]; omega
   · obtain rfl : j = n := by omega
     rw [HV.out]
     go_wp2
     go_ret
     exact ⟨rfl, rfl⟩
set_option maxRecDepth 100000 in
theorem valueOf_any (s : ByteArray) (w : World) (hL : ∀ c ∈ s.data.toList, IsD c) (hn : s.size <= 1000) :
   Calls Tryz.prog 116 #[.string s] w fun e w' => e = .returned (.int .i64 (wrap64 (dval s.data.toList : Nat))) /\ Below w.heap.size w w' := by
 obtain ⟨cap, N, cs, W1, hrun, hb, -, hN, hcs, hbl⟩ : ∃ (cap N : Nat) (cs : Array Value) (W1 : World), (convert 9 108 (.string s)).run Tryz.prog w = .ok (.slice (some ⟨w.heap.size, 0, none⟩) s.size cap) W1 /\ W1.heap[w.heap.size]? = some (.cells cs 5 (N, N + 1)) /\ cs.size = N /\ s.size <= N ∧
     (∀ j (h : j < s.data.toList.length), cs[j]? = some (.int .u8 (s.data.toList[j].toNat))) /\ Below w.heap.size w W1 := by
   refine ⟨grownCap w s.size 0 5, _, bytesRow s (grownCap w s.size 0 5), _, run_bytes_of_string w 9 108 5 s Tryz.underlying9 Tryz.underlying108 Tryz.underlying5, ?_, rfl, ?_, ?_, ((Below.refl _ w).drew).alloc (Nat.le_refl _) _⟩
   · exact heap_alloc_new w.drew _
   · unfold bytesRow
     rw [Array.size_append, Array.size_map]
     exact Nat.le_add_right _ _
   · intro j hj
     exact bytesRow_at s _ j (by simpa using hj)
 have hv := vfold_any w.heap.size cap s.data.toList W1 (fun j h => by
   have h2 := hcs j h
   simp [World.cell?, hb, h2]) hL (by rw [<- size_eq]; omega)
 rw [<- size_eq] at hv
 have HV := Lib.hid hv; have HB := Lib.hid hbl
 clear hv hbl hb hcs hL hN
 go_enter Tryz.func116, Tryz.ntmps116
 go_wp2_with (go_at_call 122; refine HV.out.mono ?_; rintro e w' ⟨rfl, rfl⟩)
 go_ret
 exact ⟨rfl, HB.out⟩
theorem cutR_le (L : List UInt8) : (cutR L).length <= L.length := by unfold cutR; split <;> simp
theorem head_at {r : ByteArray} (h0 : 0 < r.size) : ∃ R, r.data.toList = r[0] :: R /\ R.length + 1 = r.size := by
 have hs := size_eq r
 cases hq : r.data.toList with
 | nil => rw [hq, List.length_nil] at hs; omega
 | cons c R =>
   have h4 : r[0] = r.data.toList[0]'(by rw [hq]; simp) := rfl
   refine ⟨R, ?_, by rw [hs, hq, List.length_cons]⟩
   rw [h4]; simp [hq]
set_option maxRecDepth 100000 in
set_option maxHeartbeats 1000000 in
theorem valid_any (s : ByteArray) (w : World) (hs : s.size <= 9000000000000000000) : Calls Tryz.prog 108 #[.string s] w fun e w' => e = .returned (.bool (validB s.data.toList)) /\ ∃ k, w' = w.drewN k := by
 have hcs := cutSign_any s w hs
 have hle := cutR_le s.data.toList
 rw [<- size_eq, <- bs_size] at hle
 unfold validB OutCut at *
 have hd : (bs (cutR s.data.toList)).data.toList = cutR s.data.toList := rfl
 rw [<- hd]
 obtain ⟨r, hr⟩ : ∃ r, r = bs (cutR s.data.toList) := ⟨_, rfl⟩
 obtain ⟨b, hb⟩ : ∃ b, b = cutB s.data.toList := ⟨_, rfl⟩
 rw [<- hr, <- hb] at hcs ⊢
 rw [<- hr] at hle
 have HC := Lib.hid hcs
 obtain ⟨v, hv⟩ : ∃ v, v = okD b r.data.toList := ⟨_, rfl⟩
 rw [<- hv]
 clear hcs hd hr hb
 by_cases h0 : r.size = 0
 · obtain rfl : r = ⟨#[]⟩ := by
     have : r.data.toList = [] := by rw [<- List.length_eq_zero_iff]; exact h0
     rw [<- bs_self r, this]; rfl
   obtain rfl : v = false := hv
   clear h0 hle
   go_enter Tryz.func108, Tryz.ntmps108
   go_wp2_with fail
   refine HC.out.mono ?_
   rintro e w1 ⟨rfl, k, rfl⟩
   go_wp2_with fail
   go_ret
   exact ⟨rfl, k, rfl⟩
 · have hp : 0 < r.size := by omega
   have h1 : r.toList ≠ [] := by rw [toList_data, ne_eq, <- List.length_eq_zero_iff]; exact h0
   have h2 : r.toList.isEmpty = false := by simp [h1]
   obtain ⟨R, hR, hRl⟩ := head_at hp
   unfold okD at hv
   rw [hR] at hv
   simp only [hRl] at hv
   by_cases h3 : 200 < r.size
   · rw [if_pos h3] at hv
     subst hv
     have h4 : (200 : Int) < (r.size : Int) := by omega
     clear hR hRl h0 h3
     go_enter Tryz.func108, Tryz.ntmps108
     go_wp2_with fail
     refine HC.out.mono ?_
     rintro e w1 ⟨rfl, k, rfl⟩
     go_wp2_with fail
     go_ret
     exact ⟨rfl, k, rfl⟩
   · rw [if_neg h3] at hv
     have h4 : (r.size : Int) <= 200 := by omega
     by_cases h5 : r[0].toNat = 48
     · rw [if_pos h5] at hv
       have h6 : ((r[0].toNat : Int) == 48) = true := by rw [h5]; rfl
       have h7 : ((r.size : Int) == 1) = (R.length == 0) := by rw [Bool.eq_iff_iff, beq_iff_eq, beq_iff_eq]; omega
       obtain ⟨q, hq⟩ : ∃ q, q = (R.length == 0) := ⟨_, rfl⟩
       rw [<- hq] at h7 hv
       clear hR hRl h0 h3 h5 hq
       cases q
       · obtain rfl : v = false := by rw [hv]; rfl
         clear hv
         go_enter Tryz.func108, Tryz.ntmps108
         go_wp2_with fail
         refine HC.out.mono ?_
         rintro e w1 ⟨rfl, k, rfl⟩
         go_wp2_with fail
         go_ret
         exact ⟨rfl, k, rfl⟩
       · obtain rfl : v = !b := by rw [hv]; rfl
         clear hv
         cases b
         all_goals
           go_enter Tryz.func108, Tryz.ntmps108
           go_wp2_with fail
           refine HC.out.mono ?_
           rintro e w1 ⟨rfl, k, rfl⟩
           go_wp2_with fail
           go_ret
           exact ⟨rfl, k, rfl⟩
     · rw [if_neg h5, <- hR] at hv
       have h6 : ((r[0].toNat : Int) == 48) = false := by rw [beq_eq_false_iff_ne]; omega
       have ha := fun w => alldec_any r w (by omega)
       rw [<- hv] at ha
       have HA := Lib.hid ha
       clear ha hv hR hRl h0 h3 h5
       go_enter Tryz.func108, Tryz.ntmps108
       go_wp2_with fail
       refine HC.out.mono ?_
       rintro e w1 ⟨rfl, k, rfl⟩
       go_wp2_with fail
       refine (HA.out _).mono ?_
       rintro e w1 ⟨rfl, rfl⟩
       go_wp2_with fail
       go_ret
       exact ⟨rfl, k, rfl⟩
def OutP (z : Int) (w : World) (e : Ending) (w' : World) : Prop := ∃ s X A c, e = .returned (.tuple #[.agg #[.bool s, .slice A (glen X) c], .int .i64 0]) /\ sg s X = z /\ (s = true -> 0 < X) /\ X < 10 ^ 200 /\ Am w' A (glen X) c X /\ Below w.heap.size w w'
theorem run_slice_str {P : Program} (t : TypeId) (ht : P.underlying t = some .string) (s : ByteArray) {x y : Int} (a b : Nat) (hx : x = a) (hy : y = b) (hab : a <= b) (hb : b <= s.size) (w : World) :
   (Instr.slice t (.string s) (some (.int .i64 x)) (some (.int .i64 y)) none).run P w = .ok (.string (s.extract a b)) w := by
 subst hx; subst hy
 have h1 : (a : Int) <= b := by omega
 have h2 : (b : Int) <= s.size := by omega
 simp [Instr.slice, run_underlying ht, Instr.sliceBounds, run_sliceBound, h1, h2]
theorem piece {L : List UInt8} (h : ∀ c ∈ L, IsD c) (i e : Nat) (he : e + 4 * i = L.length) : dval ((L.drop (e - 4)).take (e - (e - 4))) = dg4 (dval L) i /\ ∀ c ∈ (L.drop (e - 4)).take (e - (e - 4)), IsD c := by
 refine ⟨?_, fun c hc => h c (List.mem_of_mem_drop (List.mem_of_mem_take hc))⟩
 have e1 : (L.drop (e - 4)).take (e - (e - 4)) = (L.take e).drop (e - 4) := by rw [List.drop_take]
 rw [e1, dval_drop (fun c hc => h c (List.mem_of_mem_take hc)), dval_take h, List.length_take, Nat.min_eq_left (by omega), show L.length - e = 4 * i by omega]
 unfold dg4
 rw [show (10000 : Nat) = 10 ^ 4 from rfl, <- Nat.pow_mul]
 rcases Nat.lt_or_ge e 4 with h4 | h4
 · rw [show e - (e - 4) = e by omega]
   have h5 := dval_lt h
   have h6 : dval L / 10 ^ (4 * i) < 10 ^ e := by
     rw [Nat.div_lt_iff_lt_mul (Nat.pow_pos (by omega)), <- Nat.pow_add, he]; exact h5
   have h7 : 10 ^ e <= 10 ^ 4 := Nat.pow_le_pow_right (by omega) (by omega)
   rw [Nat.mod_eq_of_lt h6, Nat.mod_eq_of_lt (by omega)]
 · rw [show e - (e - 4) = 4 by omega]
def room (X i cap : Nat) : List Int := grps X i ++ List.replicate (cap - i) 0
theorem room_zero (X cap : Nat) : room X 0 cap = List.replicate cap 0 := by unfold room; simp [grps]
theorem room_length {X i cap : Nat} (h : i <= cap) : (room X i cap).length = cap := by unfold room; rw [List.length_append, grps_length, List.length_replicate]; omega
theorem room_set {X i cap : Nat} (h : i < cap) : (room X i cap).set i (dg4 X i : Int) = room X (i + 1) cap := by
 unfold room
 rw [List.set_append_right _ _ (by rw [grps_length]; exact Nat.le_refl _), grps_length, Nat.sub_self, show cap - i = (cap - (i + 1)) + 1 by omega, List.replicate_succ, List.set_cons_zero, grps_succ, List.append_assoc]
 rfl
theorem Am.room {w : World} {g i cap X : Nat} {t : TypeId} (h : Blk w g t ((room X i cap).map iv).toArray) (hi : i <= cap) : Am w (some ⟨g, 0, none⟩) i cap X :=
 ⟨hi, fun _ => ⟨g, 0, rfl, h.lt, fun j hj => by
   rw [Nat.zero_add, h.cell (iv_at (by rw [room_length hi]; omega))]
   unfold Go.Proofs.YtpjbihfkedbenaaGreat.room
   rw [List.getElem_append_left (by rw [grps_length]; exact hj), grps_at]; rfl⟩⟩
set_option maxRecDepth 100000 in
theorem parse_no (s : ByteArray) (w : World) (hs : s.size <= 9000000000000000000) (hr : rd s.data.toList = none) :
   Calls Tryz.prog 107 #[.string s] w fun e w' => e = .returned (.tuple #[.agg #[.bool false, .slice none 0 0], .int .i64 30]) /\ Below w.heap.size w w' := by
 have hv : validB s.data.toList = false := by
   unfold rd at hr
   cases hq : validB s.data.toList with
   | false => rfl
   | true => rw [if_pos hq] at hr; cases hr
 have hva := fun w => valid_any s w hs
 rw [hv] at hva
 have HV := Lib.hid hva
 clear hv hva hr
 go_enter Tryz.func107, Tryz.ntmps107
 go_wp2_with fail
 refine (HV.out _).mono ?_
 rintro e w1 ⟨rfl, k, rfl⟩
 go_wp2_with fail
 exact bodyPost_ret (v := .tuple #[.agg #[.bool false, .slice none 0 0], .int .i64 30]) (by simp [results, Tryz.results107, go_sem]) rfl ⟨rfl, ((below_drewN ((Below.refl _ _).alloc (Nat.le_refl _) _) k).setCell (p := ⟨w.heap.size, 0, none⟩) (Nat.le_refl _) _).setCell (p := ⟨w.heap.size, 1, none⟩) (Nat.le_refl _) _⟩
set_option maxRecDepth 100000 in
set_option maxHeartbeats 1000000 in
theorem parse_yes (s : ByteArray) (w : World) (z : Int) (hs : s.size <= 9000000000000000000) (hr : rd s.data.toList = some z) :
   Calls Tryz.prog 107 #[.string s] w (OutP z w) := by
 obtain ⟨-, hz, hcb, hD, hX, hl0, hl, hv⟩ := rd_some hr
 have hva := fun w => valid_any s w hs
 rw [hv] at hva
 have hcs := fun w => cutSign_any s w hs
 unfold OutCut at hcs
 obtain ⟨r, hrr⟩ : ∃ r, r = bs (cutR s.data.toList) := ⟨_, rfl⟩
 have hrd : r.data.toList = cutR s.data.toList := by rw [hrr]; rfl
 have hrs : r.size = (cutR s.data.toList).length := by rw [hrr]; rfl
 rw [<- hrr] at hcs
 rw [<- hrd] at hD hX
 rw [<- hrs] at hl0 hl
 obtain ⟨b, hb⟩ : ∃ b, b = cutB s.data.toList := ⟨_, rfl⟩
 rw [<- hb] at hcs hcb
 obtain ⟨X, hXX⟩ : ∃ X, X = z.natAbs := ⟨_, rfl⟩
 rw [<- hXX] at hX hz
 obtain ⟨m, hm⟩ : ∃ m, m = r.size := ⟨_, rfl⟩
 have hlt : X < 10 ^ m := by rw [<- hX, hm, size_eq]; exact dval_lt hD
 obtain ⟨cap, hcap⟩ : ∃ cap, cap = m / 4 + 1 := ⟨_, rfl⟩
 have hmk := fun w => run_make_ints 87 Tryz.underlying87 0 cap (Nat.zero_le _) (by omega) w
 have e1 : (r.size : Int) / 4 + 1 = (cap : Int) := by omega
 have HV := Lib.hid hva; have HC := Lib.hid hcs; have HM := Lib.hid hm; have HLT := Lib.hid hlt; have HX := Lib.hid hX; have HD := Lib.hid hD; have HCB := Lib.hid hcb; have HXX := Lib.hid hXX; have HZ := Lib.hid hz
 have HCAP := Lib.hid hcap
 have hm200 : m <= 200 := by omega
 have hm0 : 0 < m := by omega
 rw [show ((0 : Nat) : Int) = 0 from rfl] at hmk
 clear hva hcs hm hlt hX hD hcb hXX hz hr hv hb hrd hrs hrr hcap hs
 go_enter Tryz.func107, Tryz.ntmps107
 go_wp2_with fail
 refine (HV.out _).mono ?_
 rintro e w1 ⟨rfl, k, rfl⟩
 go_wp2_with fail
 refine (HC.out _).mono ?_
 rintro e w1 ⟨rfl, k2, rfl⟩
 go_wp2_with fail
 have hBR : Blk (((w.alloc (.cells #[.bool false, .slice none 0 0] 89)).drewN (k + k2)).alloc (.cells (zc cap) 3)) w.heap.size 89 #[.bool false, .slice none 0 0] := ((Blk.new w _ _).drewN _).alloc _
 have hG0 : Blk (((w.alloc (.cells #[.bool false, .slice none 0 0] 89)).drewN (k + k2)).alloc (.cells (zc cap) 3)) (w.heap.size + 1) 3 ((room X 0 cap).map iv).toArray := by
   have h := Blk.new ((w.alloc (.cells #[.bool false, .slice none 0 0] 89)).drewN (k + k2)) 3 (zc cap)
   rw [show ((w.alloc (.cells #[.bool false, .slice none 0 0] 89)).drewN (k + k2)).heap.size = w.heap.size + 1 from by simp [World.drewN]] at h
   rw [room_zero]; exact h
 have hB0 : Below w.heap.size w (((w.alloc (.cells #[.bool false, .slice none 0 0] 89)).drewN (k + k2)).alloc (.cells (zc cap) 3)) := (below_drewN ((Below.refl _ _).alloc (Nat.le_refl _) _) _).alloc (by simp [World.drewN]) _
 have HBR := Lib.hid hBR; have HG0 := Lib.hid hG0; have HB0 := Lib.hid hB0
 clear hBR hG0 hB0 hmk e1
 go_loopw [6, 7] (fun g ee wr => ∃ (i : Nat) (E : Int), g = .slice (some ⟨w.heap.size + 1, 0, none⟩) i cap /\ ee = .int .i64 E /\ i <= cap /\ Hid (E = (m : Int) - 4 * (i : Int)) /\ Blk wr w.heap.size 89 #[.bool false, .slice none 0 0] /\ Blk wr (w.heap.size + 1) 3 ((room X i cap).map iv).toArray /\ Below w.heap.size w wr)
   (fun _ ee _ => (intOf ee).toNat)
 case atStart => exact ⟨0, _, rfl, rfl, Nat.zero_le _, (by rw [HM.out]; show _ = _; omega), HBR.out, HG0.out, HB0.out⟩
 case round =>
   obtain ⟨i, E, rfl, rfl, hi, HE, hBR, hG, hbl⟩ := hrel
   by_cases hE : 0 < E
   · obtain ⟨e, he⟩ : ∃ e : Nat, E = (e : Int) := ⟨E.toNat, by omega⟩
     subst he
     have hem : e + 4 * i = m := by have := HE.out; omega
     have hic : i < cap := by rw [HCAP.out]; omega
     obtain ⟨p1, p2⟩ := piece HD.out i e (by rw [hem, HM.out, size_eq])
     rw [HX.out] at p1
     have hT : (r.extract (e - 4) e).data.toList = (r.data.toList.drop (e - 4)).take (e - (e - 4)) := extract_data _ _ _
     rw [<- hT] at p1 p2
     have hdg := dg4_lt X i
     have hval := valueOf_any (r.extract (e - 4) e) wr p2 (by rw [ByteArray.size_extract]; omega)
     rw [p1, show wrap64 ((dg4 X i : Nat) : Int) = (dg4 X i : Nat) from by unfold wrap64; omega] at hval
     have hrm : e <= r.size := by rw [<- HM.out]; omega
     have he0 : 0 < e := by omega
     have hsl1 := fun (h : e <= 4) => run_slice_str (P := Tryz.prog) 9 Tryz.underlying9 r (x := 0) (y := (e : Int)) (e - 4) e (by omega) rfl (by omega) hrm
     have hsl2 := fun (h : 4 < e) => run_slice_str (P := Tryz.prog) 9 Tryz.underlying9 r (x := (e : Int) - 4) (y := (e : Int)) (e - 4) e (by omega) rfl (by omega) hrm
     obtain ⟨T, hTT⟩ : ∃ T, T = r.extract (e - 4) e := ⟨_, rfl⟩
     rw [<- hTT] at hval hsl1 hsl2
     have HVA := Lib.hid hval; have HG := Lib.hid hG; have HBR2 := Lib.hid hBR; have HBL := Lib.hid hbl; have HEM := Lib.hid hem
     have HRS := Lib.hid (room_set (X := X) hic)
     obtain ⟨d, hd⟩ : ∃ d, d = dg4 X i := ⟨_, rfl⟩
     rw [<- hd] at HVA HRS hdg
     clear hT hTT p1 p2 hval hG hBR hbl hem hd
     have hend : (e : Int) - 4 = (m : Int) - 4 * ((i + 1 : Nat) : Int) := by have := HEM.out; omega
     have HEN := Lib.hid hend
     have hre : (e : Int) <= (r.size : Int) := by omega
     clear hend
     by_cases h4 : e <= 4
     · have hsl := hsl1 h4
       have h5 : (e : Int) - 4 <= 0 := by omega
       clear hsl1 hsl2 h4
       go_wp2_with fail
       refine HVA.out.mono ?_
       rintro ee w2 ⟨rfl, hb2⟩
       have HG2 := Lib.hid (HG.out.below hb2 HG.out.lt)
       have HBR3 := Lib.hid (HBR2.out.below hb2 HBR2.out.lt)
       have HBL2 := Lib.hid (HBL.out.trans (hb2.mono HBL.out.size))
       clear hb2
       go_wp2_with (at_builtin; go_loud (refine wpList_append_room rfl _ _ 87 rfl Tryz.underlying87 (w.heap.size + 1) i cap (((room X i cap).map iv).toArray) rfl (HG2.out.alloc _) ⟨w2.heap.size, 0, none⟩ (.int .i64 (d : Nat)) rfl (World.cell?_alloc_at _ _ _ _ rfl) rfl (by omega) (by simp [room_length (X := X) (Nat.le_of_lt hic)]; omega) ?_; intro w3 hw3; have hG3 : Blk w3 (w.heap.size + 1) 3 ((room X (i + 1) cap).map iv).toArray := (by rw [hw3, <- HRS.out, <- iv_set]; exact (HG2.out.alloc _).setRow _); have hBR4 : Blk w3 w.heap.size 89 #[.bool false, .slice none 0 0] := (by rw [hw3]; exact (HBR3.out.alloc _).farRow (by omega) _); have hbl3 : Below w.heap.size w w3 := (by rw [hw3]; exact below_setRow (HBL2.out.alloc HBL2.out.size _) (by omega) _); have HG3 := Lib.hid hG3; have HBR4 := Lib.hid hBR4; have HBL3 := Lib.hid hbl3; clear hw3 hG3 hBR4 hbl3))
       go_roundw
       case rel => exact ⟨i + 1, (e : Int) - 4, by go_num, rfl, by omega, HEN.out, HBR4.out, HG3.out, HBL3.out⟩
       case measure => simp [intOf]; omega
     · have hsl := hsl2 (by omega)
       have h5 : 0 < (e : Int) - 4 := by omega
       have h6 : (e : Int) - 4 <= (e : Int) := by omega
       clear hsl1 hsl2 h4
       go_wp2_with fail
       refine HVA.out.mono ?_
       rintro ee w2 ⟨rfl, hb2⟩
       have HG2 := Lib.hid (HG.out.below hb2 HG.out.lt)
       have HBR3 := Lib.hid (HBR2.out.below hb2 HBR2.out.lt)
       have HBL2 := Lib.hid (HBL.out.trans (hb2.mono HBL.out.size))
       clear hb2
       go_wp2_with (at_builtin; go_loud (refine wpList_append_room rfl _ _ 87 rfl Tryz.underlying87 (w.heap.size + 1) i cap (((room X i cap).map iv).toArray) rfl (HG2.out.alloc _) ⟨w2.heap.size, 0, none⟩ (.int .i64 (d : Nat)) rfl (World.cell?_alloc_at _ _ _ _ rfl) rfl (by omega) (by simp [room_length (X := X) (Nat.le_of_lt hic)]; omega) ?_; intro w3 hw3; have hG3 : Blk w3 (w.heap.size + 1) 3 ((room X (i + 1) cap).map iv).toArray := (by rw [hw3, <- HRS.out, <- iv_set]; exact (HG2.out.alloc _).setRow _); have hBR4 : Blk w3 w.heap.size 89 #[.bool false, .slice none 0 0] := (by rw [hw3]; exact (HBR3.out.alloc _).farRow (by omega) _); have hbl3 : Below w.heap.size w w3 := (by rw [hw3]; exact below_setRow (HBL2.out.alloc HBL2.out.size _) (by omega) _); have HG3 := Lib.hid hG3; have HBR4 := Lib.hid hBR4; have HBL3 := Lib.hid hbl3; clear hw3 hG3 hBR4 hbl3))
       go_roundw
       case rel => exact ⟨i + 1, (e : Int) - 4, by go_num, rfl, by omega, HEN.out, HBR4.out, HG3.out, HBL3.out⟩
       case measure => simp [intOf]; omega
   · have hX2 : X < 10000 ^ i := by
       have h1 : m <= 4 * i := by have := HE.out; omega
       have h2 := Nat.pow_le_pow_right (show 0 < 10 by omega) h1
       rw [Nat.pow_mul] at h2
       exact Nat.lt_of_lt_of_le HLT.out h2
     have hA := Am.room hG hi
     have htr := trimmed_any _ i cap X wr hA hX2 (by have := HCAP.out; omega)
     have hA2 := hA.less (glen_le.2 hX2)
     have hsg := signed_any b (some ⟨w.heap.size + 1, 0, none⟩) cap X wr hA2
     have HTR := Lib.hid htr; have HSG := Lib.hid hsg; have HA2 := Lib.hid hA2; have HBR2 := Lib.hid hBR; have HBL := Lib.hid hbl
     clear hX2 hA htr hA2 hsg hG hBR hbl HE
     go_wp2_with fail
     refine HTR.out.mono ?_
     rintro ee w2 ⟨rfl, rfl⟩
     go_wp2_with fail
     refine HSG.out.mono ?_
     rintro ee w3 ⟨rfl, hb3⟩
     have kb := HBR2.out.below hb3 HBR2.out.lt
     have k0 := kb.cell (i := 0) rfl; have k1 := kb.cell (i := 1) rfl; have k2 := kb.frozen 0; have k3 := kb.frozen 1
     have HA4 := Lib.hid ((HA2.out.below hb3).store (u := sb b X) (A' := some ⟨w.heap.size + 1, 0, none⟩) (n' := glen X) (c' := cap) kb)
     have hb9 := Lib.hid (((HBL.out.trans (hb3.mono HBL.out.size)).setCell (p := ⟨w.heap.size, 0, none⟩) (Nat.le_refl _) (.bool (sb b X))).setCell (p := ⟨w.heap.size, 1, none⟩) (Nat.le_refl _) (.slice (some ⟨w.heap.size + 1, 0, none⟩) (glen X) cap))
     obtain ⟨r0, r1⟩ := kb.two (u := .bool (sb b X)) (v := .slice (some ⟨w.heap.size + 1, 0, none⟩) (glen X) cap)
     clear kb hb3
     go_wp2_with fail
     exact bodyPost_ret (v := .tuple #[.agg #[.bool (sb b X), .slice (some ⟨w.heap.size + 1, 0, none⟩) (glen X) cap], .int .i64 0]) (by simp [results, Tryz.results107, go_sem, r0, r1]) rfl
       ⟨_, _, _, _, rfl, by
         have h1 := HCB.out; have h2 := HXX.out
         rw [sg_sb, h1]; unfold sg
         by_cases h3 : z < 0
         · simp [h3]; omega
         · simp [h3]; omega, sb_pos, HZ.out, HA4.out, hb9.out⟩
def NoPB (w : World) (e : Ending) (w' : World) : Prop := e = .returned (.tuple #[.agg #[.bool false, .slice none 0 0], .agg #[.bool false, .slice none 0 0], .int .i64 30]) /\ Below w.heap.size w w'
def OutPB (x y : Int) (w : World) (e : Ending) (w' : World) : Prop :=
 ∃ s X A c t Y A' c', e = .returned (.tuple #[.agg #[.bool s, .slice A (glen X) c], .agg #[.bool t, .slice A' (glen Y) c'], .int .i64 0]) /\ sg s X = x /\ sg t Y = y /\ (s = true -> 0 < X) /\ (t = true -> 0 < Y) /\ X < 10 ^ 200 /\ Y < 10 ^ 200 /\ Am w' A (glen X) c X /\ Am w' A' (glen Y) c' Y /\ Below w.heap.size w w'
theorem two_new (w : World) (t : TypeId) (cs : Array Value) : Blk ((w.alloc (.cells cs t)).alloc (.cells cs t)) w.heap.size t cs /\ Blk ((w.alloc (.cells cs t)).alloc (.cells cs t)) (w.heap.size + 1) t cs /\ Below w.heap.size w ((w.alloc (.cells cs t)).alloc (.cells cs t)) /\ ((w.alloc (.cells cs t)).alloc (.cells cs t)).heap.size = w.heap.size + 2 := by
 refine ⟨(Blk.new w t cs).alloc _, ?_, ((Below.refl _ _).alloc (Nat.le_refl _) _).alloc (by simp) _, by simp⟩
 have h := Blk.new (w.alloc (.cells cs t)) t cs
 rw [show (w.alloc (.cells cs t)).heap.size = w.heap.size + 1 from by simp] at h
 exact h
set_option maxRecDepth 100000 in
set_option maxHeartbeats 1000000 in
theorem pboth_no1 (a b : ByteArray) (w : World) (ha : a.size <= 9000000000000000000) (hr : rd a.data.toList = none) :
   Calls Tryz.prog 95 #[.string a, .string b] w (NoPB w) := by
 obtain ⟨b0, b1, hb, hsz⟩ := two_new w 89 #[.bool false, .slice none 0 0]
 have hp := fun w => parse_no a w ha hr
 have HP := Lib.hid hp; have HB0 := Lib.hid b0; have HB1 := Lib.hid b1; have HB := Lib.hid hb; have HSZ := Lib.hid hsz
 clear b0 b1 hb hsz hp hr
 go_enter Tryz.func95, Tryz.ntmps95
 go_wp2_with fail
 refine (HP.out _).mono ?_
 rintro e w1 ⟨rfl, hb1⟩
 have h0 := (HB0.out.below hb1 HB0.out.lt).alloc (.cells #[.bool false, .slice none 0 0] 89)
 have h1 := (HB1.out.below hb1 HB1.out.lt).alloc (.cells #[.bool false, .slice none 0 0] 89)
 have hbl := (HB.out.trans (hb1.mono HB.out.size)).alloc (by have := HB.out.size; have := hb1.size; omega) (.cells #[.bool false, .slice none 0 0] 89)
 have x0 := h0.cell (i := 0) rfl; have x1 := h0.cell (i := 1) rfl; have x2 := h0.frozen 0; have x3 := h0.frozen 1
 have h1' := h1.far_two (b := w.heap.size) (by omega) (.bool false) (.slice none 0 0)
 have y0 := h1'.cell (i := 0) rfl; have y1 := h1'.cell (i := 1) rfl; have y2 := h1'.frozen 0; have y3 := h1'.frozen 1
 have h0' := ((h0.set 0 (.bool false)).set 1 (.slice none 0 0)).far_two (b := w.heap.size + 1) (by omega) (.bool false) (.slice none 0 0)
 have z0 := h0'.cell (i := 0) rfl; have z1 := h0'.cell (i := 1) rfl
 obtain ⟨z2, z3⟩ := h1'.two (u := .bool false) (v := .slice none 0 0)
 have HBL := Lib.hid ((((hbl.setCell (p := ⟨w.heap.size, 0, none⟩) (Nat.le_refl _) (.bool false)).setCell (p := ⟨w.heap.size, 1, none⟩) (Nat.le_refl _) (.slice none 0 0)).setCell (p := ⟨w.heap.size + 1, 0, none⟩) (by simp) (.bool false)).setCell (p := ⟨w.heap.size + 1, 1, none⟩) (by simp) (.slice none 0 0))
 clear h0 h1 h0' h1' hbl hb1
 go_wp2_with fail
 exact bodyPost_ret (v := .tuple #[.agg #[.bool false, .slice none 0 0], .agg #[.bool false, .slice none 0 0], .int .i64 30]) (by simp [results, Tryz.results95, go_sem, z0, z1, z2, z3]) rfl ⟨rfl, HBL.out⟩
set_option maxRecDepth 100000 in
set_option maxHeartbeats 1000000 in
theorem pboth_no2 (a b : ByteArray) (w : World) (x : Int) (ha : a.size <= 9000000000000000000) (hb9 : b.size <= 9000000000000000000) (hx : rd a.data.toList = some x) (hr : rd b.data.toList = none) :
   Calls Tryz.prog 95 #[.string a, .string b] w (NoPB w) := by
 obtain ⟨b0, b1, hb, hsz⟩ := two_new w 89 #[.bool false, .slice none 0 0]
 have hp := fun w => parse_yes a w x ha hx
 have hq := fun w => parse_no b w hb9 hr
 have HP := Lib.hid hp; have HQ := Lib.hid hq; have HB0 := Lib.hid b0; have HB1 := Lib.hid b1; have HB := Lib.hid hb; have HSZ := Lib.hid hsz
 clear b0 b1 hb hsz hp hr hx hq
 go_enter Tryz.func95, Tryz.ntmps95
 go_wp2_with fail
 refine (HP.out _).mono ?_
 rintro e w1 ⟨s, X, A, c, rfl, -, -, -, -, hb1⟩
 have h0 := (HB0.out.below hb1 HB0.out.lt).alloc (.cells #[.bool s, .slice A (glen X) c] 89)
 have h1 := (HB1.out.below hb1 HB1.out.lt).alloc (.cells #[.bool s, .slice A (glen X) c] 89)
 have hbl := (HB.out.trans (hb1.mono HB.out.size)).alloc (by have := HB.out.size; have := hb1.size; omega) (.cells #[.bool s, .slice A (glen X) c] 89)
 have H0 := Lib.hid h0; have H1 := Lib.hid h1; have HBL0 := Lib.hid hbl
 clear h0 h1 hbl hb1
 go_wp2_with fail
 refine (HQ.out _).mono ?_
 rintro e w2 ⟨rfl, hb2⟩
 have h0 := (H0.out.below hb2 H0.out.lt).alloc (.cells #[.bool false, .slice none 0 0] 89)
 have h1 := (H1.out.below hb2 H1.out.lt).alloc (.cells #[.bool false, .slice none 0 0] 89)
 have hbl := (HBL0.out.trans (hb2.mono HBL0.out.size)).alloc (by have := HBL0.out.size; have := hb2.size; omega) (.cells #[.bool false, .slice none 0 0] 89)
 have x0 := h0.cell (i := 0) rfl; have x1 := h0.cell (i := 1) rfl; have x2 := h0.frozen 0; have x3 := h0.frozen 1
 have h1' := h1.far_two (b := w.heap.size) (by omega) (.bool false) (.slice none 0 0)
 have y0 := h1'.cell (i := 0) rfl; have y1 := h1'.cell (i := 1) rfl; have y2 := h1'.frozen 0; have y3 := h1'.frozen 1
 have h0' := ((h0.set 0 (.bool false)).set 1 (.slice none 0 0)).far_two (b := w.heap.size + 1) (by omega) (.bool false) (.slice none 0 0)
 have z0 := h0'.cell (i := 0) rfl; have z1 := h0'.cell (i := 1) rfl
 obtain ⟨z2, z3⟩ := h1'.two (u := .bool false) (v := .slice none 0 0)
 have HBL := Lib.hid ((((hbl.setCell (p := ⟨w.heap.size, 0, none⟩) (Nat.le_refl _) (.bool false)).setCell (p := ⟨w.heap.size, 1, none⟩) (Nat.le_refl _) (.slice none 0 0)).setCell (p := ⟨w.heap.size + 1, 0, none⟩) (by simp) (.bool false)).setCell (p := ⟨w.heap.size + 1, 1, none⟩) (by simp) (.slice none 0 0))
 clear h0 h1 h0' h1' hbl hb2
 go_wp2_with fail
 exact bodyPost_ret (v := .tuple #[.agg #[.bool false, .slice none 0 0], .agg #[.bool false, .slice none 0 0], .int .i64 30]) (by simp [results, Tryz.results95, go_sem, z0, z1, z2, z3]) rfl ⟨rfl, HBL.out⟩
set_option maxRecDepth 100000 in
set_option maxHeartbeats 1000000 in
theorem pboth_yes (a b : ByteArray) (w : World) (x y : Int) (ha : a.size <= 9000000000000000000) (hb9 : b.size <= 9000000000000000000) (hx : rd a.data.toList = some x) (hy : rd b.data.toList = some y) :
   Calls Tryz.prog 95 #[.string a, .string b] w (OutPB x y w) := by
 obtain ⟨b0, b1, hb, hsz⟩ := two_new w 89 #[.bool false, .slice none 0 0]
 have hp := fun w => parse_yes a w x ha hx
 have hq := fun w => parse_yes b w y hb9 hy
 have HP := Lib.hid hp; have HQ := Lib.hid hq; have HB0 := Lib.hid b0; have HB1 := Lib.hid b1; have HB := Lib.hid hb; have HSZ := Lib.hid hsz
 clear b0 b1 hb hsz hp hy hx hq
 go_enter Tryz.func95, Tryz.ntmps95
 go_wp2_with fail
 refine (HP.out _).mono ?_
 rintro e w1 ⟨s, X, A, c, rfl, hsx, hs0, hxl, hA, hb1⟩
 have h0 := (HB0.out.below hb1 HB0.out.lt).alloc (.cells #[.bool s, .slice A (glen X) c] 89)
 have h1 := (HB1.out.below hb1 HB1.out.lt).alloc (.cells #[.bool s, .slice A (glen X) c] 89)
 have h2 := Blk.new w1 89 #[.bool s, .slice A (glen X) c]
 have hbl := (HB.out.trans (hb1.mono HB.out.size)).alloc (by have := HB.out.size; have := hb1.size; omega) (.cells #[.bool s, .slice A (glen X) c] 89)
 have n1 : w.heap.size + 1 < w1.heap.size := by have := hb1.size; have := HSZ.out; omega
 have hA1 := hA.below ((Below.refl _ _).alloc (Nat.le_refl _) (.cells #[.bool s, .slice A (glen X) c] 89))
 have H0 := Lib.hid h0; have H1 := Lib.hid h1; have H2 := Lib.hid h2; have HBL0 := Lib.hid hbl; have HSX := Lib.hid hsx; have HS0 := Lib.hid hs0; have HXL := Lib.hid hxl; have HA1 := Lib.hid hA1
 clear h0 h1 h2 hbl hb1 hsx hs0 hxl hA hA1
 go_wp2_with fail
 refine (HQ.out _).mono ?_
 rintro e w2 ⟨t, Y, A', c', rfl, hty, ht0, hyl, hA', hb2⟩
 have h0 := (H0.out.below hb2 H0.out.lt).alloc (.cells #[.bool t, .slice A' (glen Y) c'] 89)
 have h1 := (H1.out.below hb2 H1.out.lt).alloc (.cells #[.bool t, .slice A' (glen Y) c'] 89)
 have h2 := (H2.out.below hb2 H2.out.lt).alloc (.cells #[.bool t, .slice A' (glen Y) c'] 89)
 have h3 := Blk.new w2 89 #[.bool t, .slice A' (glen Y) c']
 have hbl := (HBL0.out.trans (hb2.mono HBL0.out.size)).alloc (by have := HBL0.out.size; have := hb2.size; omega) (.cells #[.bool t, .slice A' (glen Y) c'] 89)
 have n2 : w1.heap.size < w2.heap.size := by have := hb2.size; simp at this; omega
 have hA2 := (HA1.out.below hb2).below ((Below.refl _ _).alloc (Nat.le_refl _) (.cells #[.bool t, .slice A' (glen Y) c'] 89))
 have hA3 := hA'.below ((Below.refl _ _).alloc (Nat.le_refl _) (.cells #[.bool t, .slice A' (glen Y) c'] 89))
 have HA4 := Lib.hid ((hA2.store (u := s) (A' := A) (n' := glen X) (c' := c) h0).store (u := t) (A' := A') (n' := glen Y) (c' := c') (h1.far_two (b := w.heap.size) (by omega) (.bool s) (.slice A (glen X) c)))
 have HA5 := Lib.hid ((hA3.store (u := s) (A' := A) (n' := glen X) (c' := c) h0).store (u := t) (A' := A') (n' := glen Y) (c' := c') (h1.far_two (b := w.heap.size) (by omega) (.bool s) (.slice A (glen X) c)))
 have x0 := h0.cell (i := 0) rfl; have x1 := h0.cell (i := 1) rfl; have x2 := h0.frozen 0; have x3 := h0.frozen 1
 have h1' := h1.far_two (b := w.heap.size) (by omega) (.bool s) (.slice A (glen X) c)
 have y0 := h1'.cell (i := 0) rfl; have y1 := h1'.cell (i := 1) rfl; have y2 := h1'.frozen 0; have y3 := h1'.frozen 1
 have h0' := ((h0.set 0 (.bool s)).set 1 (.slice A (glen X) c)).far_two (b := w.heap.size + 1) (by omega) (.bool t) (.slice A' (glen Y) c')
 have z0 := h0'.cell (i := 0) rfl; have z1 := h0'.cell (i := 1) rfl
 obtain ⟨z2, z3⟩ := h1'.two (u := .bool t) (v := .slice A' (glen Y) c')
 have u0 := h2.cell (i := 0) rfl; have u1 := h2.cell (i := 1) rfl
 have v0 := h3.cell (i := 0) rfl; have v1 := h3.cell (i := 1) rfl
 have HBL := Lib.hid ((((hbl.setCell (p := ⟨w.heap.size, 0, none⟩) (Nat.le_refl _) (.bool s)).setCell (p := ⟨w.heap.size, 1, none⟩) (Nat.le_refl _) (.slice A (glen X) c)).setCell (p := ⟨w.heap.size + 1, 0, none⟩) (by simp) (.bool t)).setCell (p := ⟨w.heap.size + 1, 1, none⟩) (by simp) (.slice A' (glen Y) c'))
 have HTY := Lib.hid hty; have HT0 := Lib.hid ht0; have HYL := Lib.hid hyl
 have H0B := Lib.hid h0; have H1B := Lib.hid h1; have H2B := Lib.hid h2; have H3B := Lib.hid h3
 clear h0 h1 h2 h3 h0' h1' hbl hb2 hA2 hA3 hA' hty ht0 hyl H0 H1 H2 HBL0 HA1
 go_wp2_with fail
 go_region
 all_goals
   go_wp2_with fail
   exact bodyPost_ret (v := .tuple #[.agg #[.bool s, .slice A (glen X) c], .agg #[.bool t, .slice A' (glen Y) c'], .int .i64 0]) (by simp [results, Tryz.results95, go_sem, z0, z1, z2, z3]) rfl ⟨s, X, A, c, t, Y, A', c', rfl, HSX.out, HTY.out, HS0.out, HT0.out, HXL.out, HYL.out, HA4.out.drew, HA5.out.drew, HBL.out.drew⟩
theorem info_u8 : (Tryz.prog.info? 5).map (fun i => (i.zero, i.size, i.bytes)) = some (some (.int .u8 0), 1, 1) := by kernel_rfl
def bu (c : UInt8) : Value := .int .u8 c.toNat
theorem run_make_bytes (t : TypeId) (ht : Tryz.prog.underlying t = some (.slice 5)) (k : Nat) (hk : k <= 100000) (w : World) :
   (Instr.makeSlice t (.int .i64 (k : Nat)) (.int .i64 (k : Nat))).run Tryz.prog w = .ok (.slice (some ⟨w.heap.size, 0, none⟩) k k) (w.alloc (.cells ((List.replicate k (0 : UInt8)).map bu).toArray 5)) := by
 obtain ⟨i, hi, hz, hs, hb⟩ := info_of info_u8
 have h := run_make (P := Tryz.prog) w t 5 i (.int .u8 0) ht hi hz .i64 .i64 k k (by omega) (by omega) (by rw [hb]; omega) (by omega)
 rw [hs] at h
 have e : madeCells (Value.int .u8 0).cells k = ((List.replicate k (0 : UInt8)).map bu).toArray := by
   apply Array.ext
   · simp [madeCells]
   · intro j h1 h2
     simp [madeCells, Nat.mod_one, bu, Value.cells]
 simp only [Int.toNat_natCast, Nat.mul_one] at h
 rw [e] at h
 exact h
theorem run_slice_from (t e : TypeId) (b o n c k : Nat) (ht : Tryz.prog.underlying t = some (.slice e)) (he : (Tryz.prog.info? e).map (·.size) = some 1) (hk : k < n) (hc : n <= c) (w : World) :
   (Instr.slice t (.slice (some ⟨b, o, none⟩) n c) (some (.int .i64 (k : Nat))) none none).run Tryz.prog w = .ok (.slice (some ⟨b, o + k, none⟩) (n - k) (c - k)) w := by
 have h1 : (k : Int) <= n := by omega
 have hz : (sizeOf e).run Tryz.prog w = .ok 1 w := by
   cases hq : Tryz.prog.info? e with
   | none => simp [hq] at he
   | some i => have : i.size = 1 := by simpa [hq] using he
               simp [sizeOf, typeInfo, hq, this]
 have h2 : ¬ c = k := by omega
 have h3 : (⟨b, o, none⟩ : Addr).add k = ⟨b, o + k, none⟩ := by unfold Addr.add; split <;> simp_all
 simp [Instr.slice, run_underlying ht, Instr.sliceBounds, run_sliceBound, h1, h2, hz, h3]
theorem infoByte : (Tryz.prog.info? 5).map (·.size) = some 1 := by kernel_rfl
theorem bu_at {l : List UInt8} {i : Nat} (h : i < l.length) : ((l.map bu).toArray)[i]? = some (.int .u8 l[i].toNat) := by
 rw [List.getElem?_toArray, List.getElem?_map, List.getElem?_eq_getElem h]; rfl
theorem bu_set {l : List UInt8} {i : Nat} {c : UInt8} : ((l.map bu).toArray).setIfInBounds i (.int .u8 c.toNat) = ((l.set i c).map bu).toArray := by
 rw [List.setIfInBounds_toArray, List.map_set]; rfl
def buf (X n t : Nat) : List UInt8 := (List.range (4 * n + 1)).map fun p => if 4 * n + 1 <= p + t then dch (d10 X (4 * n - p)) else 0
theorem buf_length (X n t : Nat) : (buf X n t).length = 4 * n + 1 := by simp [buf]
theorem buf_zero (X n : Nat) : buf X n 0 = List.replicate (4 * n + 1) 0 := by
 apply List.ext_getElem
 · simp [buf]
 · intro i h1 h2
   have : i < 4 * n + 1 := by simpa [buf] using h1
   simp only [buf, List.getElem_map, List.getElem_range, List.getElem_replicate]
   rw [if_neg (by omega)]
theorem buf_at {X n t p : Nat} (h : p < 4 * n + 1) (h2 : 4 * n + 1 <= p + t) : (buf X n t)[p]'(by rw [buf_length]; exact h) = dch (d10 X (4 * n - p)) := by
 simp only [buf, List.getElem_map, List.getElem_range]
 rw [if_pos h2]
theorem buf_set {X n t p : Nat} (h : p + t = 4 * n) : (buf X n t).set p (dch (d10 X t)) = buf X n (t + 1) := by
 apply List.ext_getElem
 · simp [buf]
 · intro i h1 h2
   have h3 : i < 4 * n + 1 := by simpa [buf] using h2
   rw [List.getElem_set]
   simp only [buf, List.getElem_map, List.getElem_range]
   by_cases hp : p = i
   · rw [if_pos hp, if_pos (by omega), show 4 * n - i = t by omega]
   · rw [if_neg hp]
     by_cases h4 : 4 * n + 1 <= i + t
     · rw [if_pos h4, if_pos (by omega)]
     · rw [if_neg h4, if_neg (by omega)]
theorem glen_dl (X : Nat) : X < 10 ^ (4 * glen X) := by
 have := lt_glen X
 rw [show (10000 : Nat) = 10 ^ 4 from rfl, <- Nat.pow_mul] at this
 exact this
theorem zL_sg {s : Bool} {X : Nat} (h : 0 < X) : zL (sg s X) = (if s then [45] else []) ++ dec10 X := by
 unfold zL sg
 have hx : X ≠ 0 := by omega
 cases s
 · simp [hx]
 · simp [hx, h]
theorem zL_zero (s : Bool) : zL (sg s 0) = [48] := by cases s <;> rfl
set_option maxRecDepth 100000 in
set_option maxHeartbeats 1000000 in
theorem text_any (s : Bool) (A : Option Addr) (c X : Nat) (w : World) (hA : Am w A (glen X) c X) (hX : glen X <= 1000) :
   Calls Tryz.prog 62 #[.agg #[.bool s, .slice A (glen X) c]] w fun e w' => e = .returned (.string (zS (sg s X))) /\ Below w.heap.size w w' := by
 have hB0 : Blk (w.alloc (.cells #[.bool s, .slice A (glen X) c] 89)) w.heap.size 89 #[.bool s, .slice A (glen X) c] := Blk.new w _ _
 have hb0 : Below w.heap.size w (w.alloc (.cells #[.bool s, .slice A (glen X) c] 89)) := (Below.refl _ _).alloc (Nat.le_refl _) _
 rcases Nat.eq_zero_or_pos X with h0 | h0
 · have hz := iszero_any s A c (glen X) (w.alloc (.cells #[.bool s, .slice A (glen X) c] 89)) true (by rw [h0, glen_zero]; rfl)
   have hzz : zS (sg s X) = ⟨#[48]⟩ := by rw [h0]; unfold zS; rw [zL_zero]
   rw [hzz]
   have HZ := Lib.hid hz; have HB := Lib.hid hb0
   clear hz hzz hB0 hb0 hA h0
   go_enter Tryz.func62, Tryz.ntmps62
   go_wp2_with fail
   refine HZ.out.mono ?_
   rintro e w1 ⟨rfl, hb1⟩
   go_wp2_with fail
   go_ret
   exact ⟨rfl, HB.out.trans (hb1.mono HB.out.size)⟩
 · have hg := glen_pos h0
   have hz := iszero_any s A c (glen X) (w.alloc (.cells #[.bool s, .slice A (glen X) c] 89)) false (by symm; rw [decide_eq_false_iff_not]; omega)
   obtain ⟨n, hn⟩ : ∃ n, n = glen X := ⟨_, rfl⟩
   have hlt := glen_dl X
   have hzz := zL_sg (s := s) h0
   rw [<- hn] at hz hA hX hg hlt hB0 hb0 ⊢
   have hmk := fun w => run_make_bytes 108 Tryz.underlying108 (4 * n + 1) (by omega) w
   have hrep : ((List.replicate (4 * n + 1) (0 : UInt8)).map bu).toArray = Array.replicate (4 * n + 1) (bu 0) := by simp
   rw [show ((4 * n + 1 : Nat) : Int) = 1 + 4 * (n : Int) from by omega, hrep] at hmk
   have HZ := Lib.hid hz; have HB := Lib.hid hb0; have HBX := Lib.hid hB0; have HA := Lib.hid hA; have HZZ := Lib.hid hzz; have HLT := Lib.hid hlt; have H0 := Lib.hid h0
   have HN := Lib.hid hn
   clear hz hzz hB0 hb0 hA h0 hlt hn
   go_enter Tryz.func62, Tryz.ntmps62
   go_wp2_with fail
   refine HZ.out.mono ?_
   rintro e w1 ⟨rfl, hb1⟩
   have hBX1 := HBX.out.below hb1 HBX.out.lt
   have k0 := hBX1.cell (i := 0) rfl; have k1 := hBX1.cell (i := 1) rfl
   have HBX1 := Lib.hid hBX1
   have HB1 := Lib.hid (HB.out.trans (hb1.mono HB.out.size))
   have n1 : w.heap.size < w1.heap.size := by have := hb1.size; simp at this; omega
   have hG0 : Blk (w1.alloc (.cells (Array.replicate (4 * n + 1) (bu 0)) 5)) w1.heap.size 5 ((buf X n 0).map bu).toArray := by rw [buf_zero, hrep]; exact Blk.new _ _ _
   have hBX2 := hBX1.alloc (.cells (Array.replicate (4 * n + 1) (bu 0)) 5)
   have hb2 : Below w.heap.size w (w1.alloc (.cells (Array.replicate (4 * n + 1) (bu 0)) 5)) := HB1.out.alloc (by omega) _
   have hA2 := (HA.out.below hb2)
   have HG0 := Lib.hid hG0; have HBX2 := Lib.hid hBX2; have HB2 := Lib.hid hb2; have HA2 := Lib.hid hA2
   clear hBX1 hb1 hG0 hBX2 hb2 hA2 hrep
   go_wp2_with fail
   clear k0 k1 hmk
   go_loopw [4, 20] (fun at_ ii wr => ∃ (i : Nat) (a : Int), at_ = .int .i64 a /\ ii = .int .i64 i /\ i <= n /\ Hid (a = 4 * (n : Int) + 1 - 4 * (i : Int)) /\ Blk wr w.heap.size 89 #[.bool s, .slice A n c] /\ Blk wr w1.heap.size 5 ((buf X n (4 * i)).map bu).toArray /\ Below w.heap.size w wr)
     (fun _ ii _ => n - (intOf ii).toNat)
   case atStart => exact ⟨0, _, rfl, rfl, Nat.zero_le _, (by show _ = _; omega), HBX2.out, HG0.out, HB2.out⟩
   case round =>
     obtain ⟨i, a, rfl, rfl, hi, HAT, hBX, hG, hbl⟩ := hrel
     by_cases hlt : i < n
     · obtain ⟨b, o, rfl, hb, hc⟩ := (HA.out.below hbl).2 hg
       have hcell := hc i hlt
       have hd := dg4_lt X i
       have q1 : (0 : Int) <= (i : Int) := by omega
       have q2 : (i : Int) < (n : Int) := by omega
       obtain ⟨d, hdd⟩ : ∃ d, d = dg4 X i := ⟨_, rfl⟩
       rw [<- hdd] at hcell hd
       have HBX := Lib.hid hBX; have HG := Lib.hid hG; have HBL := Lib.hid hbl; have HDD := Lib.hid hdd
       have HD0 := Lib.hid (show (d : Int) = ((dg4 X i / 10 ^ 0 : Nat) : Int) from by rw [<- hdd]; simp)
       clear hc hBX hG hbl hdd
       go_wp2_with fail
       go_loopw [4, 6, 24] (fun at_ gg jj wr => ∃ (j : Nat) (a q : Int), at_ = .int .i64 a /\ gg = .int .i64 q /\ jj = .int .i64 j /\ j <= 4 /\ Hid (a = 4 * (n : Int) + 1 - 4 * (i : Int) - (j : Int)) /\ Hid (q = ((dg4 X i / 10 ^ j : Nat) : Int)) /\ Blk wr w.heap.size 89 #[.bool s, .slice (some ⟨b, o, none⟩) n c] /\ Blk wr w1.heap.size 5 ((buf X n (4 * i + j)).map bu).toArray /\ Below w.heap.size w wr)
         (fun _ _ jj _ => 4 - (intOf jj).toNat)
       case atStart => exact ⟨0, _, _, rfl, rfl, rfl, Nat.zero_le _, (by have := HAT.out; show _ = _; omega), HD0.out, HBX.out, HG.out, HBL.out⟩
       case round =>
         obtain ⟨j, a2, q, rfl, rfl, rfl, hj, HA2, HQ, hBX, hG, hbl⟩ := hrel
         by_cases hj4 : j < 4
         · obtain ⟨p, hp⟩ : ∃ p : Nat, a2 = (p : Int) + 1 := ⟨(a2 - 1).toNat, by have := HA2.out; omega⟩
           subst hp
           have hpt : p + (4 * i + j) = 4 * n := by have := HA2.out; omega
           have hpl : p < (buf X n (4 * i + j)).length := by rw [buf_length]; omega
           have c0 := hG.cell (bu_at hpl)
           have f0 := hG.frozen p
           obtain ⟨z, hz⟩ : ∃ z : Int, z = ((buf X n (4 * i + j))[p].toNat : Int) := ⟨_, rfl⟩
           rw [<- hz] at c0
           have hdig := d10_group X i j hj4
           obtain ⟨Q, hQ⟩ : ∃ Q, Q = dg4 X i / 10 ^ j := ⟨_, rfl⟩
           have hQ9 : Q <= 9999 := by rw [hQ]; exact Nat.le_trans (Nat.div_le_self _ _) (by have := dg4_lt X i; omega)
           obtain rfl : q = (Q : Int) := by rw [HQ.out, hQ]
           rw [<- hQ] at hdig
           obtain ⟨y, hy⟩ : ∃ y, y = d10 X (4 * i + j) := ⟨_, rfl⟩
           have hy9 : y < 10 := by rw [hy]; exact d10_lt _ _
           rw [<- hy] at hdig
           have e3 : (Q : Int) % 10 = (y : Int) := by omega
           have HQ2 : Hid ((Q : Int) / 10 = ((dg4 X i / 10 ^ (j + 1) : Nat) : Int)) := by
             show _ = _
             rw [Nat.pow_succ, <- Nat.div_div_eq_div_mul, <- hQ]; omega
           have HA3 : Hid ((p : Int) = 4 * (n : Int) + 1 - 4 * (i : Int) - ((j + 1 : Nat) : Int)) := by show _ = _; omega
           have hG2 := hG.set p (.int .u8 (dch y).toNat)
           rw [bu_set, hy, buf_set hpt, <- hy, dch_nat hy9] at hG2
           rw [show ((48 + y : Nat) : Int) = 48 + (y : Int) from by omega] at hG2
           have hBX2 := hBX.far (p := ⟨w1.heap.size, p, none⟩) (by show w.heap.size ≠ w1.heap.size; omega) (.int .u8 (48 + (y : Int)))
           have hbl2 := hbl.setCell (p := ⟨w1.heap.size, p, none⟩) (by show w.heap.size <= w1.heap.size; omega) (.int .u8 (48 + (y : Int)))
           have HG2 := Lib.hid hG2; have HBX2 := Lib.hid hBX2; have HBL2 := Lib.hid hbl2
           have q3 : (0 : Int) <= (p : Int) := by omega
           have q4 : (p : Int) < 4 * (n : Int) + 1 := by omega
           have hpn : p < 4 * n + 1 := by omega
           clear hG hBX hbl hG2 hBX2 hbl2 hQ hy hz hdig hpt hpl HQ HA2
           go_wp2_with fail
           go_roundw
           case rel => exact ⟨j + 1, (p : Int), _, rfl, rfl, by go_num, by omega, HA3.out, HQ2.out, HBX2.out, HG2.out, HBL2.out⟩
           case measure => simp [intOf]; omega
         · obtain rfl : j = 4 := by omega
           have HA3 : Hid (a2 = 4 * (n : Int) + 1 - 4 * ((i + 1 : Nat) : Int)) := by have := HA2.out; show _ = _; omega
           clear HQ
           go_wp2_with fail
           go_roundw
           case rel => exact ⟨i + 1, a2, rfl, by go_num, by omega, HA3.out, hBX, hG, hbl⟩
           case measure => simp [intOf]; omega
     · obtain rfl : i = n := by omega
       obtain rfl : a = 1 := by have := HAT.out; omega
       have HG := Lib.hid hG; have HBX := Lib.hid hBX; have HBL := Lib.hid hbl
       have kk := hBX.cell (i := 0) rfl
       have HX1 : Hid (X < 10 ^ (4 * i - 0)) := by exact HLT.out
       have HKK := Lib.hid kk
       clear hG hBX hbl HAT kk
       go_wp2_with fail
       go_loop [4] (fun at_ => ∃ p : Nat, at_ = .int .i64 ((p : Int) + 1) /\ p < 4 * i /\ Hid (X < 10 ^ (4 * i - p))) (fun at_ => 4 * i + 1 - (intOf at_).toNat)
       case atStart => exact ⟨0, rfl, by omega, HX1.out⟩
       case round =>
         obtain ⟨p, rfl, hp, HXP⟩ := hrel
         have q1 : (0 : Int) <= (p : Int) + 1 := by omega
         have q2 : (p : Int) + 1 < 4 * (i : Int) + 1 := by omega
         have q3 : ((p : Int) + 1).toNat = p + 1 := by omega
         have q4 : p + 1 < 4 * i + 1 := by omega
         have hpl : p + 1 < (buf X i (4 * i)).length := by rw [buf_length]; omega
         have c0 := HG.out.cell (bu_at hpl)
         rw [buf_at q4 (by omega), dch_nat (d10_lt _ _)] at c0
         by_cases hz : d10 X (4 * i - (p + 1)) = 0
         · rw [hz] at c0
           rw [show ((48 + 0 : Nat) : Int) = 48 from rfl] at c0
           have hx2 : X < 10 ^ (4 * i - (p + 1)) := by
             have := HXP.out
             rw [show 4 * i - p = 4 * i - (p + 1) + 1 by omega] at this
             exact dlt_pred this hz
           have hp2 : p + 1 < 4 * i := by
             rcases Nat.lt_or_ge (p + 1) (4 * i) with h | h
             · exact h
             · rw [show 4 * i - (p + 1) = 0 by omega] at hx2
               have := H0.out
               omega
           have HX2 := Lib.hid hx2
           clear hz hx2 HXP
           go_wp2_with fail
           go_round
           case rel => exact ⟨p + 1, by go_num, hp2, HX2.out⟩
           case measure => simp [intOf]; omega
         · obtain ⟨z, hzz⟩ : ∃ z : Int, z = ((48 + d10 X (4 * i - (p + 1)) : Nat) : Int) := ⟨_, rfl⟩
           rw [<- hzz] at c0
           have h48 : (z == 48) = false := by rw [beq_eq_false_iff_ne, hzz]; omega
           have hdl : dl X = 4 * i - p := dl_eq HXP.out (.inr (by rw [show 4 * i - p - 1 = 4 * i - (p + 1) by omega]; exact hz))
           have hk0 := HKK.out
           have HDL := Lib.hid hdl
           have HC := Lib.hid c0
           clear hz hzz hdl HXP
           cases s with
           | false =>
             have hsl := fun w => run_slice_from 108 5 w1.heap.size 0 (4 * i + 1) (4 * i + 1) (p + 1) Tryz.underlying108 infoByte (by omega) (Nat.le_refl _) w
             rw [show ((p + 1 : Nat) : Int) = (p : Int) + 1 from by omega, Nat.zero_add, show 4 * i + 1 - (p + 1) = 4 * i - p by omega] at hsl
             have hcv : (convert 108 9 (.slice (some ⟨w1.heap.size, p + 1, none⟩) (4 * i - p) (4 * i - p))).run Tryz.prog wr = .ok (.string (zS (sg false X))) wr := by
               have hl : (zL (sg false X)).length = 4 * i - p := by rw [HZZ.out]; simp [dec10_length, HDL.out]
               rw [<- hl]
               refine run_convert_bytes_back (P := Tryz.prog) wr 108 9 5 ⟨w1.heap.size, p + 1, none⟩ _ (zL (sg false X)) Tryz.underlying108 Tryz.underlying5 Tryz.underlying9 (fun j hj => ?_)
               have e1 : (⟨w1.heap.size, p + 1, none⟩ : Addr).add j = ⟨w1.heap.size, p + 1 + j, none⟩ := by unfold Addr.add; split <;> simp_all
               have hj2 : j < 4 * i - p := by rw [hl] at hj; omega
               have e2 : (zL (sg false X))[j] = dch (d10 X (4 * i - (p + 1 + j))) := by
                 simp only [HZZ.out]
                 simp only [Bool.false_eq_true, if_false, List.nil_append]
                 unfold dec10
                 rw [pad_at, HDL.out]
                 congr 2
                 omega
               rw [e1, e2, HG.out.cell (bu_at (i := p + 1 + j) (by rw [buf_length]; omega)), buf_at (by omega) (by omega)]
             clear HC
             go_wp2_with fail
             go_ret
             exact ⟨rfl, HBL.out⟩
           | true =>
             have hpl0 : p < (buf X i (4 * i)).length := by omega
             have d0 := HG.out.cell (bu_at hpl0)
             obtain ⟨y, hy⟩ : ∃ y : Int, y = ((buf X i (4 * i))[p].toNat : Int) := ⟨_, rfl⟩
             rw [<- hy] at d0
             have g0 := HG.out.frozen p
             have q5 : p < 4 * i + 1 := by omega
             have q6 : (p : Int) < 4 * (i : Int) + 1 := by omega
             have q7 : (0 : Int) <= (p : Int) := by omega
             have hG2 := HG.out.set p (.int .u8 (45 : UInt8).toNat)
             rw [bu_set] at hG2
             rw [show (((45 : UInt8).toNat : Nat) : Int) = 45 from rfl] at hG2
             have hb9 := Lib.hid (HBL.out.setCell (p := ⟨w1.heap.size, p, none⟩) (by show w.heap.size <= w1.heap.size; omega) (.int .u8 45))
             have hsl := fun w => run_slice_from 108 5 w1.heap.size 0 (4 * i + 1) (4 * i + 1) p Tryz.underlying108 infoByte (by omega) (Nat.le_refl _) w
             rw [Nat.zero_add] at hsl
             have hcv : (convert 108 9 (.slice (some ⟨w1.heap.size, p, none⟩) (4 * i + 1 - p) (4 * i + 1 - p))).run Tryz.prog (wr.setCell ⟨w1.heap.size, p, none⟩ (.int .u8 45)) = .ok (.string (zS (sg true X))) (wr.setCell ⟨w1.heap.size, p, none⟩ (.int .u8 45)) := by
               have hl : (zL (sg true X)).length = 4 * i + 1 - p := by rw [HZZ.out]; simp [dec10_length, HDL.out]; omega
               rw [<- hl]
               refine run_convert_bytes_back (P := Tryz.prog) _ 108 9 5 ⟨w1.heap.size, p, none⟩ _ (zL (sg true X)) Tryz.underlying108 Tryz.underlying5 Tryz.underlying9 (fun j hj => ?_)
               have e1 : (⟨w1.heap.size, p, none⟩ : Addr).add j = ⟨w1.heap.size, p + j, none⟩ := by unfold Addr.add; split <;> simp_all
               have hj2 : j < 4 * i + 1 - p := by rw [hl] at hj; exact hj
               rw [e1, hG2.cell (bu_at (i := p + j) (by rw [List.length_set, buf_length]; omega))]
               rcases j with _ | j
               · have e2 : (zL (sg true X))[0] = 45 := by simp only [HZZ.out]; rfl
                 rw [e2]
                 simp
               · have e2 : (zL (sg true X))[j + 1] = dch (d10 X (4 * i - (p + (j + 1)))) := by
                   simp only [HZZ.out]
                   simp only [if_true, List.cons_append, List.nil_append, List.getElem_cons_succ]
                   unfold dec10
                   rw [pad_at, HDL.out]
                   congr 2
                   omega
                 rw [e2, List.getElem_set_ne (by omega), buf_at (by omega) (by omega)]
             clear HC hy hG2
             go_wp2_with fail
             go_ret
             exact ⟨rfl, hb9.out⟩
end Go.Proofs.YtpjbihfkedbenaaGreat
