/- The contract of IntegerLimits. Conditions: ints; a string's length is an int's. -/
import Derived.Test.YtgpppjfgdbloiaaDvd
namespace Go.Proofs.Ytgpppjfgdbloiaa
open Go.RowKit Go.Lib

/-- Nines. -/
def n9 (n : Nat) : ByteArray := bs (List.replicate n 57)
theorem n9_size (n : Nat) : (n9 n).size = n := by unfold n9; rw [bs_size, List.length_replicate]
theorem bs_append (L M : List UInt8) : bs L ++ bs M = bs (L ++ M) := by
  have : (bs L ++ bs M).data.toList = L ++ M := by simp [bs, ByteArray.data_append]
  rw [← bs_self (bs L ++ bs M), this]
theorem n9_succ (n : Nat) : n9 n ++ ⟨#[57]⟩ = n9 (n + 1) := by
  unfold n9
  rw [List.replicate_succ']; exact bs_append _ [57]
theorem dval_nines : ∀ n, dval (List.replicate n 57) + 1 = 10 ^ n
  | 0 => by simp [dval]
  | n + 1 => by
    have := dval_nines n
    rw [List.replicate_succ', dval_snoc, Nat.pow_succ, ← this]
    rw [show (57 : UInt8).toNat = 57 from rfl]; omega
theorem nines_is (n : Nat) : ∀ c ∈ List.replicate n (57 : UInt8), IsD c := fun c hc => by
  obtain ⟨-, rfl⟩ := List.mem_replicate.1 hc
  unfold IsD; decide
theorem rd_nines {n : Nat} (h0 : 0 < n) (h : n ≤ 200) : rd (List.replicate n 57) = some ((10 ^ n - 1 : Nat) : Int) := by
  obtain ⟨k, rfl⟩ : ∃ k, n = k + 1 := ⟨n - 1, by omega⟩
  have hd := dval_nines (k + 1)
  have hv : validB (List.replicate (k + 1) 57) = true := by
    unfold validB
    rw [List.replicate_succ]
    show okD false (57 :: List.replicate k 57) = true
    unfold okD
    simp only [List.length_replicate]
    rw [if_neg (by omega), if_neg (by decide), ← List.replicate_succ, allD_iff]
    exact nines_is _
  unfold rd
  rw [if_pos hv]
  rw [List.replicate_succ] at hd ⊢
  show some (sg' false (dval (57 :: List.replicate k 57))) = _
  unfold sg'
  simp only [Bool.false_eq_true, if_false]
  congr 2
  omega
theorem rd_minus {n : Nat} (h0 : 0 < n) (h : n ≤ 200) : rd (45 :: List.replicate n 57) = some (-((10 ^ n - 1 : Nat) : Int)) := by
  obtain ⟨k, rfl⟩ : ∃ k, n = k + 1 := ⟨n - 1, by omega⟩
  have hd := dval_nines (k + 1)
  have hv : validB (45 :: List.replicate (k + 1) 57) = true := by
    unfold validB
    rw [List.replicate_succ]
    show okD true (57 :: List.replicate k 57) = true
    unfold okD
    simp only [List.length_replicate]
    rw [if_neg (by omega), if_neg (by decide), ← List.replicate_succ, allD_iff]
    exact nines_is _
  unfold rd
  rw [if_pos hv]
  show some (sg' true (dval (List.replicate (k + 1) 57))) = _
  unfold sg'
  simp only [if_true]
  congr 3
  omega
theorem rd_two {n : Nat} (h : n + 1 ≤ 200) : rd (49 :: List.replicate n 57) = some ((2 * 10 ^ n - 1 : Nat) : Int) := by
  have hd := dval_nines n
  have hv : validB (49 :: List.replicate n 57) = true := by
    unfold validB
    show okD false (49 :: List.replicate n 57) = true
    unfold okD
    simp only [List.length_replicate]
    rw [if_neg (by omega), if_neg (by decide), allD_iff]
    intro c hc
    rcases List.mem_cons.1 hc with rfl | hc
    · unfold IsD; decide
    · exact nines_is _ c hc
  unfold rd
  rw [if_pos hv]
  show some (sg' false (dval (49 :: List.replicate n 57))) = _
  unfold sg'
  simp only [Bool.false_eq_true, if_false]
  rw [dval_cons, List.length_replicate]
  congr 2
  rw [show (49 : UInt8).toNat - 48 = 1 from rfl]
  omega
theorem n9_z {n : Nat} (h0 : 0 < n) (h : n ≤ 200) : zS ((10 ^ n - 1 : Nat) : Int) = n9 n := zS_lit (rd_nines h0 h)
theorem minus_z : zS (-((10 ^ 200 - 1 : Nat) : Int)) = ⟨#[45]⟩ ++ n9 200 := by
  rw [zS_lit (rd_minus (n := 200) (by omega) (by omega))]
  exact (bs_append [45] _).symm
theorem two_z {n : Nat} (h : n + 1 ≤ 200) : zS ((2 * 10 ^ n - 1 : Nat) : Int) = ⟨#[49]⟩ ++ n9 n := by
  rw [zS_lit (rd_two h)]
  exact (bs_append [49] _).symm
theorem zS_len {V n : Nat} (h1 : 10 ^ n ≤ V) (h2 : V < 10 ^ (n + 1)) : (zS (V : Int)).size = n + 1 := by
  have hp : 0 < V := Nat.lt_of_lt_of_le (Nat.pow_pos (by omega)) h1
  rw [size_eq, zS_list]
  unfold zL
  rw [if_neg (by omega), if_neg (by omega), List.nil_append, dec10_length, Int.natAbs_natCast]
  have a := dl_le.2 h2
  rcases Nat.lt_or_ge n (dl V) with h | h
  · omega
  · have := dl_le.1 h; omega

set_option maxRecDepth 100000 in
theorem nines_any (n : Nat) (w : World) (hn : n ≤ 200) : Calls Try.prog 34 #[.int .i64 (n : Nat)] w fun e w' => e = .returned (.string (n9 n)) ∧ w = w' := by
  go_enter Try.func34, Try.ntmps34
  go_wp2
  go_loop [3, 4] (fun s i => ∃ (k : Nat) (S : ByteArray), k ≤ n ∧ i = .int .i64 k ∧ s = .string S ∧ Hid (S = n9 k) ∧ S.size ≤ 200) (fun _ i => n - (intOf i).toNat)
  case atStart => exact ⟨0, _, Nat.zero_le _, rfl, rfl, rfl, by decide⟩
  case round =>
    obtain ⟨k, S, hk, rfl, rfl, HS, hs⟩ := hrel
    by_cases hlt : k < n
    · have HS2 : Hid (S ++ ⟨#[57]⟩ = n9 (k + 1)) := by show _ = _; rw [HS.out, n9_succ]
      have hs2 : (S ++ ⟨#[57]⟩ : ByteArray).size ≤ 200 := by rw [HS2.out, n9_size]; omega
      go_wp2
      go_round
      case rel => exact ⟨k + 1, _, by omega, by go_num, rfl, HS2.out, hs2⟩
      case measure => simp [intOf]; omega
    · obtain rfl : k = n := by omega
      go_wp2
      go_ret
      exact ⟨by rw [← HS.out]; rfl, rfl⟩
theorem pick_any (c : Int) (w : World) (hc0 : -9223372036854775808 ≤ c ∧ c ≤ 9223372036854775807) :
    Calls Try.prog 35 #[.int .i64 c, .int .i64 200] w fun e w' => ∃ k : Nat, k < 200 ∧ e = .returned (.int .i64 (k : Nat)) ∧ w = w' := by
  obtain ⟨c0, c1⟩ := hc0
  obtain ⟨k, hk⟩ : ∃ k : Nat, (k : Int) = (if c < 0 then -(c + 1) else c) % 200 := ⟨((if c < 0 then -(c + 1) else c) % 200).toNat, by
    have := Int.emod_nonneg (if c < 0 then -(c + 1) else c) (show (200 : Int) ≠ 0 by omega); omega⟩
  have hk2 : k < 200 := by
    have := Int.emod_lt_of_pos (if c < 0 then -(c + 1) else c) (show (0 : Int) < 200 by omega); omega
  have HK2 := Lib.hid hk2
  by_cases h : c < 0
  · rw [if_pos h] at hk
    have h2 : (-(c + 1)).tmod 200 = (k : Int) := by rw [Int.tmod_eq_emod_of_nonneg (by omega), hk]
    have h3 : -((c + 1).tmod 200) = (k : Int) := by rw [← Int.neg_tmod]; exact h2
    have HK := Lib.hid h3
    clear hk hk2 h2 h3
    go_enter Try.func35, Try.ntmps35
    go_wp2
    go_ret
    exact ⟨k, HK2.out, ret_int HK.out, rfl⟩
  · rw [if_neg h] at hk
    have HK := Lib.hid hk
    clear hk hk2
    go_enter Try.func35, Try.ntmps35
    go_wp2
    go_ret
    exact ⟨k, HK2.out, ret_int HK.out.symm, rfl⟩
end Go.Proofs.Ytgpppjfgdbloiaa
