/- Trees of digests as plain mathematics: the root, proofs and extensions of a list, what they are worth, and that they are accepted. No conditions. -/
import Derived.Test.YthaegodeijfbdaaDoorSha
namespace Go.Proofs.YthaegodeijfbdaaDoor

/-- A digest of bytes, of an entry, of two digests, of a head and a record. -/
def dg (l : List UInt8) : ByteArray := ⟨(sha l).toArray⟩
def leafB (s : ByteArray) : ByteArray := dg (0 :: s.data.toList)
def nodeB (a b : ByteArray) : ByteArray := dg (1 :: (a.data.toList ++ b.data.toList))
def chainB (h r : ByteArray) : ByteArray := dg (2 :: (h.data.toList ++ r.data.toList))
theorem dg_size (l : List UInt8) : (dg l).size = 32 := sha_length l

/-- The greatest power of two that is less than n. -/
def spl (n : Nat) : Nat := 2 ^ Nat.log2 (n - 1)
theorem spl_pos (n : Nat) : 0 < spl n := Nat.pow_pos (by omega)
theorem spl_lt {n : Nat} (h : 2 ≤ n) : spl n < n := by
  have := Nat.log2_self_le (n := n - 1) (by omega)
  unfold spl; omega
theorem spl_half {n : Nat} (h : 2 ≤ n) : n ≤ 2 * spl n := by
  have := Nat.lt_log2_self (n := n - 1)
  unfold spl
  rw [Nat.pow_succ] at this; omega
theorem spl_unique {n j : Nat} (h1 : 2 ^ j < n) (h2 : n ≤ 2 * 2 ^ j) : spl n = 2 ^ j := by
  unfold spl
  have : Nat.log2 (n - 1) = j := (Nat.log2_eq_iff (by have := Nat.pow_pos (n := j) (show 0 < 2 by omega); omega)).2 ⟨by omega, by rw [Nat.pow_succ]; omega⟩
  rw [this]

def rootB (L : List ByteArray) : ByteArray :=
  if _h : L.length ≤ 1 then (match L with | [] => dg [] | x :: _ => leafB x)
  else nodeB (rootB (L.take (spl L.length))) (rootB (L.drop (spl L.length)))
termination_by L.length
decreasing_by
  · have := spl_lt (n := L.length) (by omega); rw [List.length_take]; omega
  · have := spl_pos L.length; rw [List.length_drop]; omega
theorem rootB_nil : rootB [] = dg [] := by rw [rootB, dif_pos (by simp)]
theorem rootB_one (x : ByteArray) : rootB [x] = leafB x := by rw [rootB, dif_pos (by simp)]
theorem rootB_two {L : List ByteArray} (h : 2 ≤ L.length) : rootB L = nodeB (rootB (L.take (spl L.length))) (rootB (L.drop (spl L.length))) := by rw [rootB, dif_neg (by omega)]
theorem rootB_size (L : List ByteArray) : (rootB L).size = 32 := by
  by_cases h : L.length ≤ 1
  · match L with
    | [] => rw [rootB_nil]; exact dg_size _
    | [x] => rw [rootB_one]; exact dg_size _
    | _ :: _ :: _ => simp at h
  · rw [rootB_two (by omega)]; exact dg_size _

def proofB (L : List ByteArray) (i : Nat) : List ByteArray :=
  if _h : L.length ≤ 1 then []
  else if i < spl L.length then proofB (L.take (spl L.length)) i ++ [rootB (L.drop (spl L.length))]
  else proofB (L.drop (spl L.length)) (i - spl L.length) ++ [rootB (L.take (spl L.length))]
termination_by L.length
decreasing_by
  · have := spl_lt (n := L.length) (by omega); rw [List.length_take]; omega
  · have := spl_pos L.length; rw [List.length_drop]; omega
theorem proofB_one {L : List ByteArray} {i : Nat} (h : L.length ≤ 1) : proofB L i = [] := by rw [proofB, dif_pos h]
theorem proofB_lo {L : List ByteArray} {i : Nat} (h : 2 ≤ L.length) (hi : i < spl L.length) : proofB L i = proofB (L.take (spl L.length)) i ++ [rootB (L.drop (spl L.length))] := by
  rw [proofB, dif_neg (by omega), if_pos hi]
theorem proofB_hi {L : List ByteArray} {i : Nat} (h : 2 ≤ L.length) (hi : ¬ i < spl L.length) : proofB L i = proofB (L.drop (spl L.length)) (i - spl L.length) ++ [rootB (L.take (spl L.length))] := by
  rw [proofB, dif_neg (by omega), if_neg hi]

/-- What a proof is worth; the last element of the proof comes first. -/
def valR : Nat → Nat → ByteArray → List ByteArray → ByteArray × Bool
  | n, _, s, [] => if n = 1 then (leafB s, true) else (⟨#[]⟩, false)
  | n, i, s, x :: q =>
    if n = 1 then (leafB s, false)
    else if i < spl n then (nodeB (valR (spl n) i s q).1 x, (valR (spl n) i s q).2)
    else (nodeB x (valR (n - spl n) (i - spl n) s q).1, (valR (n - spl n) (i - spl n) s q).2)
def valueB (n i : Nat) (s : ByteArray) (p : List ByteArray) : ByteArray × Bool := valR n i s p.reverse
theorem valueB_nil (n i : Nat) (s : ByteArray) : valueB n i s [] = if n = 1 then (leafB s, true) else (⟨#[]⟩, false) := rfl
theorem valueB_one (i : Nat) (s : ByteArray) (p : List ByteArray) : valueB 1 i s p = (leafB s, decide (p.length = 0)) := by
  unfold valueB
  rcases h : p.reverse with _ | ⟨x, q⟩
  · have : p = [] := by simpa using h
    subst this; rfl
  · have : p.length ≠ 0 := by rw [← List.length_reverse, h]; simp
    simp [valR, this]
theorem valueB_lo {n i : Nat} {s x : ByteArray} {p : List ByteArray} (h : n ≠ 1) (hi : i < spl n) : valueB n i s (p ++ [x]) = (nodeB (valueB (spl n) i s p).1 x, (valueB (spl n) i s p).2) := by
  unfold valueB; rw [List.reverse_append, List.reverse_singleton, List.singleton_append, valR, if_neg h, if_pos hi]
theorem valueB_hi {n i : Nat} {s x : ByteArray} {p : List ByteArray} (h : n ≠ 1) (hi : ¬ i < spl n) : valueB n i s (p ++ [x]) = (nodeB x (valueB (n - spl n) (i - spl n) s p).1, (valueB (n - spl n) (i - spl n) s p).2) := by
  unfold valueB; rw [List.reverse_append, List.reverse_singleton, List.singleton_append, valR, if_neg h, if_neg hi]
theorem valR_size : ∀ (q : List ByteArray) (n i : Nat) (s : ByteArray), (valR n i s q).1.size ≤ 32
  | [], n, i, s => by unfold valR; split <;> first | (show (leafB s).size ≤ 32; rw [leafB, dg_size]; omega) | (show (0 : Nat) ≤ 32; omega)
  | x :: q, n, i, s => by unfold valR; split <;> (try split) <;> simp [leafB, nodeB, dg_size]
theorem valueB_size (n i : Nat) (s : ByteArray) (p : List ByteArray) : (valueB n i s p).1.size ≤ 32 := valR_size _ _ _ _

/-- How many halves there are on the way to an entry. -/
def depth (n i : Nat) : Nat :=
  if _h : n ≤ 1 then 0 else if i < spl n then depth (spl n) i + 1 else depth (n - spl n) (i - spl n) + 1
termination_by n
decreasing_by
  · exact spl_lt (by omega)
  · have := spl_pos n; omega
theorem depth_one {n i : Nat} (h : n ≤ 1) : depth n i = 0 := by rw [depth, dif_pos h]
theorem depth_lo {n i : Nat} (h : 2 ≤ n) (hi : i < spl n) : depth n i = depth (spl n) i + 1 := by rw [depth, dif_neg (by omega), if_pos hi]
theorem depth_hi {n i : Nat} (h : 2 ≤ n) (hi : ¬ i < spl n) : depth n i = depth (n - spl n) (i - spl n) + 1 := by rw [depth, dif_neg (by omega), if_neg hi]
theorem valR_ok : ∀ (q : List ByteArray) (n i : Nat) (s : ByteArray), 1 ≤ n → i < n → ((valR n i s q).2 = true ↔ q.length = depth n i)
  | [], n, i, s, hn, hi => by
    by_cases h : n = 1
    · subst h; rw [depth_one (by omega)]; simp [valR]
    · have : depth n i ≠ 0 := by
        by_cases h2 : i < spl n
        · rw [depth_lo (by omega) h2]; omega
        · rw [depth_hi (by omega) h2]; omega
      simp [valR, h]; omega
  | x :: q, n, i, s, hn, hi => by
    by_cases h : n = 1
    · subst h; rw [depth_one (by omega)]; simp [valR]
    · have hk := spl_lt (n := n) (by omega)
      have hp := spl_pos n
      by_cases h2 : i < spl n
      · rw [depth_lo (by omega) h2, valR, if_neg h, if_pos h2]
        have := valR_ok q (spl n) i s hp h2
        simp only [List.length_cons]
        rw [this]; omega
      · rw [depth_hi (by omega) h2, valR, if_neg h, if_neg h2]
        have := valR_ok q (n - spl n) (i - spl n) s (by omega) (by omega)
        simp only [List.length_cons]
        rw [this]; omega
theorem valueB_ok {n i : Nat} {s : ByteArray} {p : List ByteArray} (hn : 1 ≤ n) (hi : i < n) : (valueB n i s p).2 = true ↔ p.length = depth n i := by
  have := valR_ok p.reverse n i s hn hi
  rw [List.length_reverse] at this
  exact this
/-- The proof of an entry is accepted. -/
theorem proofB_accepted (N : Nat) : ∀ (L : List ByteArray) (i : Nat) (s : ByteArray), L[i]? = some s → L.length ≤ N → valueB L.length i s (proofB L i) = (rootB L, true) := by
  induction N with
  | zero => intro L i s h hN; have := (List.getElem?_eq_some_iff.1 h).1; omega
  | succ N ih =>
    intro L i s h hN
    have hil := (List.getElem?_eq_some_iff.1 h).1
    by_cases h1 : L.length ≤ 1
    · match L, h, hil with
      | [x], h, hil =>
        obtain rfl : i = 0 := by simpa using hil
        obtain rfl : x = s := by simpa using h
        rw [proofB_one h1, rootB_one]; rfl
      | _ :: _ :: _, _, _ => simp at h1
    · have hk := spl_lt (n := L.length) (by omega)
      have hp := spl_pos L.length
      have hlt : (L.take (spl L.length)).length = spl L.length := by rw [List.length_take]; omega
      have hld : (L.drop (spl L.length)).length = L.length - spl L.length := List.length_drop
      by_cases h2 : i < spl L.length
      · have hi := ih (L.take (spl L.length)) i s (by rw [List.getElem?_take_of_lt h2]; exact h) (by omega)
        rw [hlt] at hi
        rw [proofB_lo (by omega) h2, valueB_lo (by omega) h2, hi, ← rootB_two (by omega)]
      · have hi := ih (L.drop (spl L.length)) (i - spl L.length) s (by rw [List.getElem?_drop, show spl L.length + (i - spl L.length) = i from by omega]; exact h) (by omega)
        rw [hld] at hi
        rw [proofB_hi (by omega) h2, valueB_hi (by omega) h2, hi, ← rootB_two (by omega)]
theorem proofB_length {L : List ByteArray} {i : Nat} (h : i < L.length) : (proofB L i).length = depth L.length i := by
  have := (valueB_ok (s := L[i]) (p := proofB L i) (by omega) h).1 (by rw [proofB_accepted L.length L i L[i] (List.getElem?_eq_getElem h) (Nat.le_refl _)])
  exact this
theorem proofB_sizes (N : Nat) : ∀ (L : List ByteArray) (i : Nat), L.length ≤ N → ∀ x ∈ proofB L i, x.size = 32 := by
  induction N with
  | zero => intro L i hN x hx; rw [proofB_one (by omega)] at hx; simp at hx
  | succ N ih =>
    intro L i hN x hx
    by_cases h1 : L.length ≤ 1
    · rw [proofB_one h1] at hx; simp at hx
    · have hk := spl_lt (n := L.length) (by omega)
      have hp := spl_pos L.length
      by_cases h2 : i < spl L.length
      · rw [proofB_lo (by omega) h2, List.mem_append, List.mem_singleton] at hx
        rcases hx with hx | rfl
        · exact ih _ _ (by rw [List.length_take]; omega) x hx
        · exact rootB_size _
      · rw [proofB_hi (by omega) h2, List.mem_append, List.mem_singleton] at hx
        rcases hx with hx | rfl
        · exact ih _ _ (by rw [List.length_drop]; omega) x hx
        · exact rootB_size _

/-- The number of binary digits. -/
def binB (n : Nat) : Nat := if _h : n = 0 then 0 else binB (n / 2) + 1
termination_by n
decreasing_by omega
theorem binB_zero : binB 0 = 0 := by rw [binB, dif_pos rfl]
theorem binB_pos {n : Nat} (h : 0 < n) : binB n = binB (n / 2) + 1 := by rw [binB, dif_neg (by omega)]
theorem binB_pow : ∀ {j n : Nat}, n < 2 ^ j → binB n ≤ j
  | 0, n, h => by obtain rfl : n = 0 := by simpa using h
                  rw [binB_zero]; exact Nat.le_refl _
  | j + 1, n, h => by
    by_cases h0 : n = 0
    · subst h0; rw [binB_zero]; omega
    · rw [binB_pos (by omega)]
      have := binB_pow (j := j) (n := n / 2) (by rw [Nat.pow_succ] at h; omega)
      omega
theorem binB_ge : ∀ {j n : Nat}, 2 ^ j ≤ n → j + 1 ≤ binB n
  | 0, n, h => by
    have h1 : 1 ≤ n := by simpa using h
    rw [binB_pos (by omega)]; omega
  | j + 1, n, h => by
    have hp := Nat.pow_pos (n := j) (show 0 < 2 by omega)
    rw [Nat.pow_succ] at h
    rw [binB_pos (by omega)]
    have := binB_ge (j := j) (n := n / 2) (by omega)
    omega
theorem depth_le (N : Nat) : ∀ (n i j : Nat), n ≤ N → n ≤ 2 ^ j → depth n i ≤ j := by
  induction N with
  | zero => intro n i j h _; rw [depth_one (by omega)]; omega
  | succ N ih =>
    intro n i j h hj
    by_cases h1 : n ≤ 1
    · rw [depth_one h1]; omega
    · have hk := spl_lt (n := n) (by omega)
      have hp := spl_pos n
      have hh := spl_half (n := n) (by omega)
      match j with
      | 0 => simp at hj; omega
      | j + 1 =>
        have hs : spl n ≤ 2 ^ j := by
          rcases Nat.lt_or_ge (2 ^ j) (spl n) with hlt | hge
          · exfalso
            unfold spl at hlt hk
            have := (Nat.pow_lt_pow_iff_right (a := 2) (by omega)).1 hlt
            have := Nat.pow_le_pow_right (n := 2) (by omega) this
            rw [Nat.pow_succ] at this hj
            omega
          · exact hge
        by_cases h2 : i < spl n
        · rw [depth_lo (by omega) h2]; have := ih (spl n) i j (by omega) hs; omega
        · rw [depth_hi (by omega) h2]; have := ih (n - spl n) (i - spl n) j (by omega) (by omega); omega
/-- Proofs are short. -/
theorem depth_bin {n i : Nat} : depth n i ≤ binB n := by
  refine depth_le n n i (binB n) (Nat.le_refl _) ?_
  rcases Nat.lt_or_ge (2 ^ binB n) n with hlt | hge
  · have := binB_ge (Nat.le_of_lt hlt); omega
  · exact hge
end Go.Proofs.YthaegodeijfbdaaDoor
