
/- The contracts of the statements' pick and of the reference's. Conditions: ints; bounds. -/
import Derived.Test.YtbcgfohacbapoaaNx6
namespace Go.Proofs.Ytbcgfohacbapoaa
open Go.RowKit Go.Lib Go.Shelf

/-- Which index. -/
def pk (c n : Int) : Int := (if c < 0 then -(c + 1) else c) % n
theorem pk_bd {c n : Int} (h : 0 < n) : 0 ≤ pk c n ∧ pk c n < n := ⟨Int.emod_nonneg _ (by omega), Int.emod_lt_of_pos _ h⟩
set_option maxRecDepth 100000 in
theorem lpick_val (c n : Int) (w : World) (hc0 : -9223372036854775808 ≤ c ∧ c ≤ 9223372036854775807) (hn : 0 < n ∧ n ≤ 9223372036854775807) :
    Calls Try.prog 45 #[.int .i64 c, .int .i64 n] w fun e w' => e = .returned (.int .i64 (pk c n)) ∧ w = w' := by
  obtain ⟨c0, c1⟩ := hc0
  obtain ⟨n0, n1⟩ := hn
  obtain ⟨k, hk⟩ : ∃ k, k = pk c n := ⟨_, rfl⟩
  rw [← hk]
  have hb := pk_bd (c := c) n0
  rw [← hk] at hb
  unfold pk at hk
  have HB := Lib.hid hb
  have hnz : (n == 0) = false := by rw [beq_eq_false_iff_ne]; omega
  have hn1 : (n == -1) = false := by rw [beq_eq_false_iff_ne]; omega
  by_cases h : c < 0
  · rw [if_pos h] at hk
    have h2 : (-(c + 1)).tmod n = k := by rw [Int.tmod_eq_emod_of_nonneg (by omega), hk]
    have h3 : -((c + 1).tmod n) = k := by rw [← Int.neg_tmod]; exact h2
    have HK := Lib.hid h3
    clear hk h2 h3 hb
    go_enter Try.func45, Try.ntmps45
    go_wp2
    go_ret
    exact ⟨ret_int HK.out, rfl⟩
  · rw [if_neg h] at hk
    have HK := Lib.hid hk
    clear hk hb
    go_enter Try.func45, Try.ntmps45
    go_wp2
    go_ret
    exact ⟨ret_int HK.out.symm, rfl⟩
theorem lpick_one (c n : Int) (hc : -9223372036854775808 ≤ c ∧ c ≤ 9223372036854775807) (hn : 0 < n ∧ n ≤ 9223372036854775807) :
    ∃ k : Int, (0 ≤ k ∧ k < n) ∧ ∀ w, Calls Try.prog 45 #[.int .i64 c, .int .i64 n] w fun e w' => e = .returned (.int .i64 k) ∧ Below w.heap.size w w' :=
  ⟨pk c n, pk_bd hn.1, fun w => (lpick_val c n w hc hn).mono fun e w' h => ⟨h.1, by rw [← h.2]; exact Below.refl _ _⟩⟩
set_option maxRecDepth 100000 in
theorem rpick_val (c n : Int) (w : World) (hc0 : -9223372036854775808 ≤ c ∧ c ≤ 9223372036854775807) (hn : 0 < n ∧ n ≤ 9223372036854775807) :
    Calls Try.prog 87 #[.int .i64 c, .int .i64 n] w fun e w' => e = .returned (.int .i64 (pk c n)) ∧ w = w' := by
  obtain ⟨c0, c1⟩ := hc0
  obtain ⟨n0, n1⟩ := hn
  obtain ⟨k, hk⟩ : ∃ k, k = pk c n := ⟨_, rfl⟩
  rw [← hk]
  have hb := pk_bd (c := c) n0
  rw [← hk] at hb
  unfold pk at hk
  have HB := Lib.hid hb
  have hnz : (n == 0) = false := by rw [beq_eq_false_iff_ne]; omega
  have hn1 : (n == -1) = false := by rw [beq_eq_false_iff_ne]; omega
  by_cases h : c < 0
  · rw [if_pos h] at hk
    have h2 : (-(c + 1)).tmod n = k := by rw [Int.tmod_eq_emod_of_nonneg (by omega), hk]
    have h3 : -((c + 1).tmod n) = k := by rw [← Int.neg_tmod]; exact h2
    have HK := Lib.hid h3
    clear hk h2 h3 hb
    go_enter Try.func87, Try.ntmps87
    go_wp2
    go_ret
    exact ⟨ret_int HK.out, rfl⟩
  · rw [if_neg h] at hk
    have HK := Lib.hid hk
    clear hk hb
    go_enter Try.func87, Try.ntmps87
    go_wp2
    go_ret
    exact ⟨ret_int HK.out.symm, rfl⟩
theorem rpick_one (c n : Int) (hc : -9223372036854775808 ≤ c ∧ c ≤ 9223372036854775807) (hn : 0 < n ∧ n ≤ 9223372036854775807) :
    ∃ k : Int, (0 ≤ k ∧ k < n) ∧ ∀ w, Calls Try.prog 87 #[.int .i64 c, .int .i64 n] w fun e w' => e = .returned (.int .i64 k) ∧ Below w.heap.size w w' :=
  ⟨pk c n, pk_bd hn.1, fun w => (rpick_val c n w hc hn).mono fun e w' h => ⟨h.1, by rw [← h.2]; exact Below.refl _ _⟩⟩
end Go.Proofs.Ytbcgfohacbapoaa
