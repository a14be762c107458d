/- The operations on strings of integers, by the integers. Conditions: the integers have at most 200 digits. -/
import Derived.Test.YtgpppjfgdbloiaaSane3
namespace Go.Proofs.Ytgpppjfgdbloiaa
open Go.RowKit Go.Lib

theorem zS_rd {z : Int} (h : z.natAbs < 10 ^ 200) : rd (zS z).data.toList = some z := by rw [zS_list]; exact rd_zL h
theorem zS_small {z : Int} (h : z.natAbs < 10 ^ 200) : (zS z).size ≤ 1000 := by
  have := zS_size z
  have := glen_lim h
  omega
theorem zS_lit {z : Int} {L : List UInt8} (h : rd L = some z) : zS z = bs L := by unfold zS bs; rw [(rd_some h).1]
theorem zS_zero : zS 0 = ⟨#[48]⟩ := rfl
theorem zS_one : zS 1 = ⟨#[49]⟩ := zS_lit (L := [49]) (by decide +kernel)
theorem lim_some {z : Int} (h : z.natAbs < 10 ^ 200) : lim z = some z := by unfold lim; rw [if_pos h]
theorem lim_none {z : Int} (h : ¬ z.natAbs < 10 ^ 200) : lim z = none := by unfold lim; rw [if_neg h]
theorem lt200 {n k : Nat} (h : n < 10 ^ k) (hk : k ≤ 200) : n < 10 ^ 200 := Nat.lt_of_lt_of_le h (Nat.pow_le_pow_right (by omega) hk)
theorem abs_add {x y : Int} {k : Nat} (hx : x.natAbs < 10 ^ k) (hy : y.natAbs < 10 ^ k) : (x + y).natAbs < 10 ^ (k + 1) := by
  rw [Nat.pow_succ]; omega
theorem abs_sub {x y : Int} {k : Nat} (hx : x.natAbs < 10 ^ k) (hy : y.natAbs < 10 ^ k) : (x - y).natAbs < 10 ^ (k + 1) := by
  rw [Nat.pow_succ]; omega
theorem abs_mul {x y : Int} {k l : Nat} (hx : x.natAbs < 10 ^ k) (hy : y.natAbs < 10 ^ l) : (x * y).natAbs < 10 ^ (k + l) := by
  rw [Int.natAbs_mul, Nat.pow_add]; exact Nat.mul_lt_mul'' hx hy
theorem abs_up {x : Int} {k l : Nat} (hx : x.natAbs < 10 ^ k) (h : k ≤ l) : x.natAbs < 10 ^ l := Nat.lt_of_lt_of_le hx (Nat.pow_le_pow_right (by omega) h)
/-- A string has been returned with no error. -/
def OkZ (z : Int) (w : World) (e : Ending) (w' : World) : Prop := e = .returned (.tuple #[.string (zS z), .int .i64 0]) ∧ Below w.heap.size w w'
/-- Nothing but the error has been returned. -/
def NoZ (w : World) (e : Ending) (w' : World) : Prop := e = .returned (.tuple #[.string ⟨#[]⟩, .int .i64 30]) ∧ Below w.heap.size w w'
section
variable (x y : Int) (w : World) (hx : x.natAbs < 10 ^ 200) (hy : y.natAbs < 10 ^ 200)
include hx hy
theorem zs : (zS x).size ≤ 9000000000000000000 ∧ (zS y).size ≤ 9000000000000000000 := by
  have := zS_small hx; have := zS_small hy; omega
theorem add_zz (z : Int) (h : z = x + y) (hz : z.natAbs < 10 ^ 200) : Calls Try.prog 15 #[.string (zS x), .string (zS y)] w (OkZ z w) := by
  refine (add_any (zS x) (zS y) w (zs x y hx hy).1 (zs x y hx hy).2).mono fun e w' ⟨he, hb⟩ => ⟨?_, hb⟩
  rw [opR_yes (zS_rd hx) (zS_rd hy)] at he
  rw [he, h, lim_some (by rw [← h]; exact hz)]; rfl
theorem add_zn (hz : ¬ (x + y).natAbs < 10 ^ 200) : Calls Try.prog 15 #[.string (zS x), .string (zS y)] w (NoZ w) := by
  refine (add_any (zS x) (zS y) w (zs x y hx hy).1 (zs x y hx hy).2).mono fun e w' ⟨he, hb⟩ => ⟨?_, hb⟩
  rw [opR_yes (zS_rd hx) (zS_rd hy)] at he
  rw [he, lim_none hz]; rfl
theorem sub_zz (z : Int) (h : z = x - y) (hz : z.natAbs < 10 ^ 200) : Calls Try.prog 17 #[.string (zS x), .string (zS y)] w (OkZ z w) := by
  refine (sub_any (zS x) (zS y) w (zs x y hx hy).1 (zs x y hx hy).2).mono fun e w' ⟨he, hb⟩ => ⟨?_, hb⟩
  rw [opR_yes (zS_rd hx) (zS_rd hy)] at he
  rw [he, h, lim_some (by rw [← h]; exact hz)]; rfl
theorem sub_zn (hz : ¬ (x - y).natAbs < 10 ^ 200) : Calls Try.prog 17 #[.string (zS x), .string (zS y)] w (NoZ w) := by
  refine (sub_any (zS x) (zS y) w (zs x y hx hy).1 (zs x y hx hy).2).mono fun e w' ⟨he, hb⟩ => ⟨?_, hb⟩
  rw [opR_yes (zS_rd hx) (zS_rd hy)] at he
  rw [he, lim_none hz]; rfl
theorem mul_zz (z : Int) (h : z = x * y) (hz : z.natAbs < 10 ^ 200) : Calls Try.prog 19 #[.string (zS x), .string (zS y)] w (OkZ z w) := by
  refine (mul_any (zS x) (zS y) w (zs x y hx hy).1 (zs x y hx hy).2).mono fun e w' ⟨he, hb⟩ => ⟨?_, hb⟩
  rw [opR_yes (zS_rd hx) (zS_rd hy)] at he
  rw [he, h, lim_some (by rw [← h]; exact hz)]; rfl
theorem mul_zn (hz : ¬ (x * y).natAbs < 10 ^ 200) : Calls Try.prog 19 #[.string (zS x), .string (zS y)] w (NoZ w) := by
  refine (mul_any (zS x) (zS y) w (zs x y hx hy).1 (zs x y hx hy).2).mono fun e w' ⟨he, hb⟩ => ⟨?_, hb⟩
  rw [opR_yes (zS_rd hx) (zS_rd hy)] at he
  rw [he, lim_none hz]; rfl
theorem gcd_zz (z : Int) (h : z = (Nat.gcd x.natAbs y.natAbs : Nat)) (hz : z.natAbs < 10 ^ 200) : Calls Try.prog 23 #[.string (zS x), .string (zS y)] w (OkZ z w) := by
  refine (gcd_any (zS x) (zS y) w (zs x y hx hy).1 (zs x y hx hy).2).mono fun e w' ⟨he, hb⟩ => ⟨?_, hb⟩
  rw [opR_yes (zS_rd hx) (zS_rd hy)] at he
  rw [he, lim_some (by rw [← h]; exact hz), ← h]; rfl
/-- Quotient and remainder. -/
theorem div_zz (q r : Int) (h0 : y ≠ 0) (hq : q = x / y) (hr : r = x % y) : Calls Try.prog 21 #[.string (zS x), .string (zS y)] w fun e w' => e = .returned (.tuple #[.string (zS q), .string (zS r), .int .i64 0]) ∧ Below w.heap.size w w' := by
  refine (div_any (zS x) (zS y) w (zs x y hx hy).1 (zs x y hx hy).2).mono fun e w' ⟨he, hb⟩ => ⟨?_, hb⟩
  rw [divR_yes (zS_rd hx) (zS_rd hy) h0] at he
  rw [he, hq, hr]
theorem div_z0 (h0 : y = 0) : Calls Try.prog 21 #[.string (zS x), .string (zS y)] w fun e w' => e = .returned (.tuple #[.string ⟨#[]⟩, .string ⟨#[]⟩, .int .i64 30]) ∧ Below w.heap.size w w' := by
  refine (div_any (zS x) (zS y) w (zs x y hx hy).1 (zs x y hx hy).2).mono fun e w' ⟨he, hb⟩ => ⟨?_, hb⟩
  rw [divR_zero (by rw [zS_rd hy, h0])] at he
  exact he
theorem cmp_zz (c : Int) (h : c = ordI x y) : Calls Try.prog 31 #[.string (zS x), .string (zS y)] w fun e w' => e = .returned (.int .i64 c) ∧ Below w.heap.size w w' := by
  refine (compare_any (zS x) (zS y) w (zs x y hx hy).1 (zs x y hx hy).2).mono fun e w' ⟨he, hb⟩ => ⟨?_, hb⟩
  rw [he, cmpR_yes (zS_rd hx) (zS_rd hy), h]
end
section
variable (x : Int) (w : World) (hx : x.natAbs < 10 ^ 200)
include hx
theorem root_zz (m : Nat) (h0 : 0 ≤ x) (h : IsRoot x.natAbs m) : Calls Try.prog 25 #[.string (zS x)] w (OkZ m w) := by
  refine (root_any (zS x) w (zs x x hx hx).1).mono fun e w' ⟨r, hr, he, hb⟩ => ⟨?_, hb⟩
  unfold rootR at hr
  rw [zS_rd hx] at hr
  simp only at hr
  rw [if_neg (by omega)] at hr
  obtain ⟨k, hk, rfl⟩ := hr
  rw [he, root_unique hk h]; rfl
theorem root_zn (h0 : x < 0) : Calls Try.prog 25 #[.string (zS x)] w (NoZ w) := by
  refine (root_any (zS x) w (zs x x hx hx).1).mono fun e w' ⟨r, hr, he, hb⟩ => ⟨?_, hb⟩
  unfold rootR at hr
  rw [zS_rd hx] at hr
  simp only at hr
  rw [if_pos h0] at hr
  rw [he, hr]; rfl
theorem valid_zz : Calls Try.prog 29 #[.string (zS x)] w fun e w' => e = .returned (.bool true) ∧ ∃ k, w' = w.drewN k := by
  refine (valid_any (zS x) w (zs x x hx hx).1).mono fun e w' ⟨he, hk⟩ => ⟨?_, hk⟩
  rw [he, zS_list, validB_zL]; simp [hx]
theorem toInt_zz (h1 : -9223372036854775808 ≤ x) (h2 : x ≤ 9223372036854775807) : Calls Try.prog 27 #[.string (zS x)] w fun e w' => e = .returned (.tuple #[.int .i64 x, .int .i64 0]) ∧ Below w.heap.size w w' := by
  refine (toInt_any (zS x) w (zs x x hx hx).1).mono fun e w' ⟨he, hb⟩ => ⟨?_, hb⟩
  rw [show toR (zS x).data.toList = some x from by unfold toR; rw [zS_rd hx]; simp [h1, h2]] at he
  exact he
end
/-- A test on two strings of integers. -/
theorem zS_beq (x y : Int) (b : Bool) (h : b = decide (x = y)) : ((zS x).toList == (zS y).toList) = b := beq_list _ _ _ (by
  rw [zS_list, zS_list, h, decide_eq_decide]; exact ⟨fun h => by rw [h], fun h => zL_inj h⟩)
theorem Made.ok {z : Int} {k : Nat} (h : z.natAbs < 10 ^ k) (hk : k ≤ 200) : z.natAbs < 10 ^ 200 := abs_up h hk
end Go.Proofs.Ytgpppjfgdbloiaa
