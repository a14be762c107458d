
/- Numbers in groups of four digits, as plain mathematics. No conditions. -/
import Derived.Test.YtbcgfohacbapoaaRows
namespace Go.Proofs.Ytbcgfohacbapoaa

/-- The group of a number at a place. -/
def dg4 (V i : Nat) : Nat := V / 10000 ^ i % 10000
theorem dg4_lt (V i : Nat) : dg4 V i < 10000 := Nat.mod_lt _ (by omega)
/-- How many groups a number has. -/
def glen (V : Nat) : Nat := if _h : V = 0 then 0 else glen (V / 10000) + 1
termination_by V
decreasing_by omega
theorem glen_zero : glen 0 = 0 := by rw [glen, dif_pos rfl]
theorem glen_succ {V : Nat} (h : V ≠ 0) : glen V = glen (V / 10000) + 1 := by rw [glen, dif_neg h]
theorem glen_le : ∀ {n V : Nat}, glen V ≤ n ↔ V < 10000 ^ n
  | 0, V => by
    by_cases h : V = 0
    · subst h; rw [glen_zero]; simp
    · rw [glen_succ h]; simp; omega
  | n + 1, V => by
    by_cases h : V = 0
    · subst h; rw [glen_zero]; exact ⟨fun _ => Nat.pow_pos (by omega), fun _ => by omega⟩
    · rw [glen_succ h, Nat.succ_le_succ_iff, glen_le, Nat.pow_succ]
      exact Nat.div_lt_iff_lt_mul (by omega)
theorem lt_glen (V : Nat) : V < 10000 ^ glen V := glen_le.1 (Nat.le_refl _)
theorem glen_mono {a b : Nat} (h : a ≤ b) : glen a ≤ glen b := glen_le.2 (Nat.lt_of_le_of_lt h (lt_glen b))
theorem glen_pos {V : Nat} (h : 0 < V) : 0 < glen V := by rw [glen_succ (by omega)]; omega
theorem dg4_zero {V i : Nat} (h : V < 10000 ^ i) : dg4 V i = 0 := by unfold dg4; rw [Nat.div_eq_of_lt h]
theorem dg4_far {V i : Nat} (h : glen V ≤ i) : dg4 V i = 0 := dg4_zero (glen_le.1 h)
theorem mod_succ4 (V i : Nat) : V % 10000 ^ (i + 1) = V % 10000 ^ i + 10000 ^ i * dg4 V i := by
  unfold dg4; rw [Nat.pow_succ, Nat.mod_mul]
theorem div_pred4 (V i : Nat) : V / 10000 ^ i = 10000 * (V / 10000 ^ (i + 1)) + dg4 V i := by
  unfold dg4; rw [Nat.pow_succ, ← Nat.div_div_eq_div_mul]; omega
theorem glen_eq {V n : Nat} (h : V < 10000 ^ n) (ht : n = 0 ∨ dg4 V (n - 1) ≠ 0) : glen V = n := by
  have h1 := glen_le.2 h
  rcases ht with rfl | ht
  · omega
  · rcases Nat.lt_or_ge (n - 1) (glen V) with h2 | h2
    · omega
    · exact absurd (dg4_far h2) ht
theorem lt_pred4 {V n : Nat} (h : V < 10000 ^ (n + 1)) (hz : dg4 V n = 0) : V < 10000 ^ n := by
  have h1 := mod_succ4 V n
  rw [Nat.mod_eq_of_lt h, hz, Nat.mul_zero, Nat.add_zero] at h1
  rw [h1]; exact Nat.mod_lt _ (Nat.pow_pos (by omega))
/-- A number is its groups. -/
theorem dg4_ext {U V : Nat} : ∀ {n : Nat}, U < 10000 ^ n → V < 10000 ^ n → (∀ i, i < n → dg4 U i = dg4 V i) → U = V
  | n, hu, hv, h => by
    have : ∀ k, k ≤ n → U % 10000 ^ k = V % 10000 ^ k := by
      intro k
      induction k with
      | zero => intro _; simp [Nat.mod_one]
      | succ k ih => intro hk; rw [mod_succ4, mod_succ4, ih (by omega), h k (by omega)]
    have := this n (Nat.le_refl _)
    rwa [Nat.mod_eq_of_lt hu, Nat.mod_eq_of_lt hv] at this

/-- The number that columns are. -/
def colv : List Int → Int
  | [] => 0
  | c :: L => c + 10000 * colv L
theorem colv_set : ∀ (L : List Int) (i : Nat) (x : Int) (h : i < L.length), colv (L.set i x) = colv L + (x - L[i]) * 10000 ^ i
  | c :: L, 0, x, _ => by simp [colv]; omega
  | c :: L, i + 1, x, h => by
    have := colv_set L i x (by simpa using h)
    simp only [List.set_cons_succ, colv, List.getElem_cons_succ, this]
    grind
theorem colv_append : ∀ (L M : List Int), colv (L ++ M) = colv L + 10000 ^ L.length * colv M
  | [], M => by simp [colv]
  | c :: L, M => by
    have := colv_append L M
    simp only [List.cons_append, colv, this, List.length_cons]
    grind
theorem colv_take (L : List Int) (i : Nat) (h : i < L.length) : colv (L.take (i + 1)) = colv (L.take i) + 10000 ^ i * L[i] := by
  rw [List.take_succ_eq_append_getElem h, colv_append, List.length_take, Nat.min_eq_left (by omega)]
  simp [colv]
theorem colv_all (L : List Int) (i : Nat) (h : i < L.length) : colv L = colv (L.take i) + 10000 ^ i * (L[i] + 10000 * colv (L.drop (i + 1))) := by
  have e : L = L.take i ++ L[i] :: L.drop (i + 1) := by
    rw [List.getElem_cons_drop, List.take_append_drop]
  have h1 : colv (L.take i ++ L[i] :: L.drop (i + 1)) = _ := colv_append (L.take i) (L[i] :: L.drop (i + 1))
  rw [← e, List.length_take, Nat.min_eq_left (by omega)] at h1
  exact h1
/-- The list of the groups of a number. -/
def grps (V n : Nat) : List Int := (List.range n).map fun i => (dg4 V i : Int)
theorem grps_length (V n : Nat) : (grps V n).length = n := by simp [grps]
theorem grps_at (V n i : Nat) (h : i < (grps V n).length) : (grps V n)[i] = dg4 V i := by simp [grps]
theorem grps_succ (V n : Nat) : grps V (n + 1) = grps V n ++ [(dg4 V n : Int)] := by simp [grps, List.range_succ]
theorem colv_grps (V : Nat) : ∀ n, colv (grps V n) = ((V % 10000 ^ n : Nat) : Int)
  | 0 => by simp [grps, colv, Nat.mod_one]
  | n + 1 => by
    rw [grps_succ, colv_append, colv_grps V n, grps_length, mod_succ4]
    simp [colv]
theorem colv_full {V n : Nat} (h : V < 10000 ^ n) : colv (grps V n) = V := by rw [colv_grps, Nat.mod_eq_of_lt h]

/-- What is carried to a place. -/
def cry (L : List Int) (i : Nat) : Int := colv (L.take i) / 10000 ^ i
theorem cry_zero (L : List Int) : cry L 0 = 0 := by simp [cry, colv]
theorem pow4_pos (i : Nat) : (0 : Int) < 10000 ^ i := Int.pow_pos (by omega)
theorem cry_succ (L : List Int) (i : Nat) (h : i < L.length) : cry L (i + 1) = (cry L i + L[i]) / 10000 := by
  unfold cry
  have hp := pow4_pos i
  rw [colv_take L i h, Int.pow_succ, ← Int.ediv_ediv_of_nonneg (Int.le_of_lt hp), Int.add_mul_ediv_left _ _ (by omega)]
theorem cry_group {L : List Int} {V : Nat} (hV : colv L = V) (i : Nat) (h : i < L.length) : (cry L i + L[i]) % 10000 = (dg4 V i : Nat) := by
  have hp := pow4_pos i
  have h1 := colv_all L i h
  have h2 : ((V : Int) / 10000 ^ i) = cry L i + L[i] + 10000 * colv (L.drop (i + 1)) := by
    rw [← hV, h1, Int.add_mul_ediv_left _ _ (by omega)]; unfold cry; omega
  have h3 : ((dg4 V i : Nat) : Int) = (V : Int) / 10000 ^ i % 10000 := by unfold dg4; simp
  rw [h3, h2]; omega
theorem cry_bound {L : List Int} (hb : ∀ c ∈ L, -1000000000000000 ≤ c ∧ c ≤ 1000000000000000) : ∀ i, i ≤ L.length → -1000000000000000 ≤ cry L i ∧ cry L i ≤ 1000000000000000
  | 0, _ => by rw [cry_zero]; omega
  | i + 1, h => by
    have := cry_bound hb i (by omega)
    have h2 := hb L[i] (List.getElem_mem _)
    rw [cry_succ L i (by omega)]; omega
theorem rem_group (s : Int) : ((s.tmod 10000) + 10000).tmod 10000 = s % 10000 := by
  rcases Int.le_total 0 s with h | h
  · rw [Int.tmod_eq_emod_of_nonneg h, Int.tmod_eq_emod_of_nonneg (by omega)]; omega
  · have h1 : s.tmod 10000 = -((-s) % 10000) := by
      rw [← Int.tmod_eq_emod_of_nonneg (show 0 ≤ -s by omega), Int.neg_tmod, Int.neg_neg]
    rw [h1, Int.tmod_eq_emod_of_nonneg (by omega)]; omega
theorem quo_group (s : Int) : (s - s % 10000).tdiv 10000 = s / 10000 := by
  have : s - s % 10000 = (s / 10000) * 10000 := by omega
  rw [this, Int.mul_tdiv_cancel _ (by omega)]
end Go.Proofs.Ytbcgfohacbapoaa
