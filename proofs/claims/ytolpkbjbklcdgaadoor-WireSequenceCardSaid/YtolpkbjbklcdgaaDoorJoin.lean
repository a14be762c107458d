/- The contract of joinGroups: what the groups of seven bits at an offset of a string join to. Condition: the offset is one. -/
import Derived.Test.YtolpkbjbklcdgaaDoorGroups
namespace Go.Proofs.YtolpkbjbklcdgaaDoor
open Go.RowKit Go.Lib

/-- What joinGroups returns. -/
def joinV (k : Nat) : Option (Nat × Nat × Bool) → Ending
  | some (z, n, ok) => .returned (.tuple #[.int .u64 z, .int .i64 (k + n), .bool ok])
  | none => .returned (.tuple #[.int .u64 0, .int .i64 0, .bool false])

theorem join_step {f i z : Nat} {l : List UInt8} {b : UInt8} (h : l[i]? = some b) :
    join (f + 1) i z (l.drop i) = if b.toNat < 128 then some (z + b.toNat % 128 * 2 ^ (7 * i), i + 1, !(decide (b.toNat = 0) && decide (0 < i))) else join f (i + 1) (z + b.toNat % 128 * 2 ^ (7 * i)) (l.drop (i + 1)) := by
  obtain ⟨hi, rfl⟩ := List.getElem?_eq_some_iff.1 h
  rw [List.drop_eq_getElem_cons hi, join]
theorem join_end {f i z : Nat} {l : List UInt8} (h : l.length ≤ i ∨ f = 0) : join f i z (l.drop i) = none := by
  rcases h with h | h
  · rw [List.drop_eq_nil_of_le h]; cases f <;> rfl
  · subst h; rfl

theorem grow_lt {z i b : Nat} (hz : z < 2 ^ (7 * i)) : z + b % 128 * 2 ^ (7 * i) < 2 ^ (7 * (i + 1)) := by
  rw [show 7 * (i + 1) = 7 * i + 7 from by omega, Nat.pow_add]
  generalize 2 ^ (7 * i) = q at *
  have : b % 128 * q ≤ 127 * q := Nat.mul_le_mul_right _ (by omega)
  omega
theorem wrap_join {z i b : Nat} (hz : z < 2 ^ (7 * i)) (hi : i < 9) :
    IntKind.u64.wrap ((z : Int) + IntKind.u64.wrap ((b : Int) % 128 * 2 ^ (7 * i))) = ((z + b % 128 * 2 ^ (7 * i) : Nat) : Int) := by
  have h1 := grow_lt (b := b) hz
  have h2 : 2 ^ (7 * (i + 1)) ≤ 2 ^ 63 := Nat.pow_le_pow_right (by omega) (by omega)
  have e : (b : Int) % 128 * 2 ^ (7 * i) = ((b % 128 * 2 ^ (7 * i) : Nat) : Int) := by rw [Int.natCast_mul, Int.natCast_pow]; rfl
  rw [e, IntKind.wrap_u64, IntKind.wrap_u64]
  generalize b % 128 * 2 ^ (7 * i) = q at *
  have : (2 : Nat) ^ 63 = 9223372036854775808 := by decide
  omega

theorem ret_join {z z' : Int} {n n' : Int} {b b' : Bool} (h1 : z = z') (h2 : n = n') (h3 : b = b') :
    Ending.returned (.tuple #[.int .u64 z, .int .i64 n, .bool b]) = .returned (.tuple #[.int .u64 z', .int .i64 n', .bool b']) := by rw [h1, h2, h3]

set_option maxRecDepth 100000 in
set_option maxHeartbeats 2000000 in
theorem joinGroups_any (s : ByteArray) (k : Nat) (w : World) (hs : s.size ≤ maxLen) (hk : k ≤ s.size) :
    Calls Tryd.prog 27 #[.string s, .int .i64 k] w fun e w' => e = joinV k (join 9 0 0 (s.data.toList.drop k)) ∧ w = w' := by
  unfold maxLen at hs
  obtain ⟨L, hL⟩ : ∃ L, L = s.data.toList.drop k := ⟨_, rfl⟩
  rw [← hL]
  have hLn : L.length = s.size - k := by rw [hL, List.length_drop]; rfl
  have HL := Lib.hid hL; clear hL
  have HN := Lib.hid hLn; clear hLn
  obtain ⟨m, hm1, hm2, hm3⟩ : ∃ m : Nat, m ≤ 9 ∧ (m : Int) ≤ s.size - k ∧ ((9 : Int) ≤ s.size - k ∧ 9 ≤ m ∨ (s.size : Int) - k < 9 ∧ (s.size : Int) - k ≤ m) := ⟨min 9 (s.size - k), by omega, by omega, by omega⟩
  have at_ : ∀ i, i < m → ∃ (h : k + i < s.size), L[i]? = some s[k + i] := by
    intro i hi
    refine ⟨by omega, ?_⟩
    rw [HL.out, List.getElem?_drop, Array.getElem?_toList]
    exact Array.getElem?_eq_getElem (by show k + i < s.data.size; have : s.data.size = s.size := rfl; omega)
  have AT := Lib.hid at_; clear at_
  rcases hm3 with ⟨hc, hm3⟩ | ⟨hc, hm3⟩
  all_goals
    go_enter Tryd.func27, Tryd.ntmps27
    go_wp2
    go_loop [7, 8, 9, 10, 16] (fun zz _ _ _ ii => ∃ (i z : Nat), ii = .int .i64 i ∧ zz = .int .u64 z ∧ i ≤ m ∧ z < 2 ^ (7 * i) ∧ join 9 0 0 L = join (9 - i) i z (L.drop i)) (fun _ _ _ _ i => 9 - (intOf i).toNat)
    case atStart => exact ⟨0, 0, rfl, rfl, by omega, by omega, rfl⟩
    case round =>
      obtain ⟨i, z, rfl, rfl, hi, hz, hj⟩ := hrel
      have HJ := Lib.hid hj; clear hj
      have HZ := Lib.hid hz; clear hz
      by_cases hlt : i < m
      · obtain ⟨hki, hb⟩ := AT.out i hlt
        have hst := join_step (f := 8 - i) (z := z) hb
        rw [show 8 - i + 1 = 9 - i from by omega] at hst
        have HB := Lib.hid hb; clear hb
        have HS := Lib.hid hst; clear hst
        by_cases hb2 : s[k + i].toNat < 128
        · by_cases hb3 : s[k + i].toNat = 0
          · go_wp2
            have h := HS.out
            rw [if_pos hb2, hb3] at h
            go_ret3
            refine ⟨?_, rfl⟩
            rw [HJ.out, h]
            exact ret_join (by have := wrap_join (b := 0) HZ.out (show i < 9 by omega); simp [IntKind.wrap_u64] at this ⊢; exact this) (by omega) (by simp)
          · go_wp2
            have h := HS.out
            rw [if_pos hb2] at h
            go_ret3
            refine ⟨?_, rfl⟩
            rw [HJ.out, h]
            exact ret_join (wrap_join HZ.out (show i < 9 by omega)) (by omega) (by simp [hb3])
        · go_wp2
          go_round
          case rel =>
            have h := HS.out
            rw [if_neg hb2] at h
            refine ⟨i + 1, z + s[k + i].toNat % 128 * 2 ^ (7 * i), by go_num, ?_, by omega, grow_lt HZ.out, ?_⟩
            · rw [wrap_join HZ.out (show i < 9 by omega)]
            · rw [HJ.out, h, show 8 - i = 9 - (i + 1) from by omega]
          case measure => simp [intOf]; omega
      · have hend := join_end (f := 9 - i) (i := i) (z := z) (l := L) (by have := HN.out; omega)
        have HE := Lib.hid hend; clear hend
        go_wp2
        go_ret3
        exact ⟨by rw [HJ.out, HE.out]; rfl, rfl⟩
end Go.Proofs.YtolpkbjbklcdgaaDoor
