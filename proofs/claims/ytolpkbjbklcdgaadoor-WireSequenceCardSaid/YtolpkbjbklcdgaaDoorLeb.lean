/- Plain mathematics of the integer encoding: groups of seven bits, joined again. No program is spoken of here. -/
import Derived.Lib.Varint
import Derived.Lib.VarintDec
namespace Go.Proofs.YtolpkbjbklcdgaaDoor
open Go.Lib

/-- Joining the groups of seven bits from round 'i' on, at most 'f' of them: the number, the count of bytes, and whether the last group is no superfluous zero. -/
def join : Nat → Nat → Nat → List UInt8 → Option (Nat × Nat × Bool)
  | 0, _, _, _ => none
  | _ + 1, _, _, [] => none
  | f + 1, i, z, b :: l =>
    if b.toNat < 128 then some (z + b.toNat % 128 * 2 ^ (7 * i), i + 1, !(decide (b.toNat = 0) && decide (0 < i)))
    else join f (i + 1) (z + b.toNat % 128 * 2 ^ (7 * i)) l

theorem toNat_byte {x : Nat} (h : x < 256) : (x.toUInt8).toNat = x := by
  simp only [UInt8.toNat_ofNat', Nat.toUInt8]; omega

theorem last_ok {i x : Nat} (h0 : i = 0 ∨ 0 < x) : (!(decide (x = 0) && decide (0 < i))) = true := by
  rcases h0 with h | h
  · simp [h]
  · have : x ≠ 0 := by omega
    simp [this]

theorem join_uvarint : ∀ (f i z x : Nat) (r : List UInt8), x < 128 ^ (f + 1) → (i = 0 ∨ 0 < x) →
    join (f + 1) i z (uvarint x ++ r) = some (z + x * 2 ^ (7 * i), i + (uvarint x).length, true) := by
  intro f
  induction f with
  | zero =>
    intro i z x r hx h0
    have hs : x < 128 := by simpa using hx
    rw [uvarint_small hs]
    simp only [List.cons_append, List.nil_append, join]
    rw [toNat_byte (by omega), if_pos hs, Nat.mod_eq_of_lt hs, last_ok h0]; simp
  | succ f ih =>
    intro i z x r hx h0
    by_cases hs : x < 128
    · rw [uvarint_small hs]
      simp only [List.cons_append, List.nil_append, join]
      rw [toNat_byte (by omega), if_pos hs, Nat.mod_eq_of_lt hs, last_ok h0]; simp
    · rw [uvarint_big (by omega), List.cons_append, join]
      rw [toNat_byte (by omega), if_neg (by omega)]
      rw [ih (i + 1) _ (x / 128) r (by rw [Nat.pow_succ] at hx; exact Nat.div_lt_of_lt_mul (by rw [Nat.mul_comm]; exact hx)) (Or.inr (by omega))]
      have e1 : (x % 128 + 128) % 128 = x % 128 := by omega
      have e2 : 2 ^ (7 * (i + 1)) = 128 * 2 ^ (7 * i) := by rw [show 7 * (i + 1) = 7 * i + 7 from by omega, Nat.pow_add]; omega
      rw [e1, e2]
      have e3 : x % 128 * 2 ^ (7 * i) + x / 128 * (128 * 2 ^ (7 * i)) = x * 2 ^ (7 * i) := by
        rw [← Nat.mul_assoc, ← Nat.add_mul]; congr 1; omega
      simp only [List.length_cons, Option.some.injEq, Prod.mk.injEq, and_true]
      constructor
      · omega
      · omega

theorem join_sound : ∀ (f i z : Nat) (l : List UInt8) (y n : Nat), join f i z l = some (y, n, true) →
    ∃ x r, l = uvarint x ++ r ∧ y = z + x * 2 ^ (7 * i) ∧ n = i + (uvarint x).length ∧ (i = 0 ∨ 0 < x) ∧ x < 128 ^ f
  | 0, i, z, l, y, n, h => by simp [join] at h
  | f + 1, i, z, [], y, n, h => by simp [join] at h
  | f + 1, i, z, b :: l, y, n, h => by
    unfold join at h
    have hb256 : b.toNat < 256 := UInt8.toNat_lt b
    by_cases hb : b.toNat < 128
    · rw [if_pos hb] at h
      simp only [Option.some.injEq, Prod.mk.injEq] at h
      obtain ⟨h1, h2, h3⟩ := h
      refine ⟨b.toNat, l, ?_, ?_, ?_, ?_, ?_⟩
      · rw [uvarint_small hb]; simp
      · rw [← h1, Nat.mod_eq_of_lt hb]
      · rw [uvarint_small hb]; simpa using h2.symm
      · by_cases hi : i = 0
        · exact Or.inl hi
        · refine Or.inr ?_
          by_cases hz : b.toNat = 0
          · simp [hz] at h3; omega
          · omega
      · exact Nat.lt_of_lt_of_le hb (by rw [Nat.pow_succ]; have := Nat.one_le_two_pow (n := 0); have h128 : 1 ≤ 128 ^ f := Nat.one_le_pow _ _ (by omega); omega)
    · rw [if_neg hb] at h
      obtain ⟨x, r, rfl, hy, hn, hx, hlt⟩ := join_sound f (i + 1) _ l y n h
      have hx0 : 0 < x := by rcases hx with h | h <;> omega
      have hbig : 128 ≤ b.toNat % 128 + 128 * x := by omega
      have em : (b.toNat % 128 + 128 * x) % 128 = b.toNat % 128 := by omega
      have ed : (b.toNat % 128 + 128 * x) / 128 = x := by omega
      refine ⟨b.toNat % 128 + 128 * x, r, ?_, ?_, ?_, Or.inr (by omega), ?_⟩
      · rw [uvarint_big hbig, em, ed]
        have : (b.toNat % 128 + 128).toUInt8 = b := by
          apply UInt8.toNat_inj.1; rw [toNat_byte (by omega)]; omega
        rw [this]; rfl
      · have e2 : 2 ^ (7 * (i + 1)) = 128 * 2 ^ (7 * i) := by rw [show 7 * (i + 1) = 7 * i + 7 from by omega, Nat.pow_add]; omega
        have e3 : x * (128 * 2 ^ (7 * i)) = 128 * x * 2 ^ (7 * i) := by rw [← Nat.mul_assoc, Nat.mul_comm x 128]
        rw [hy, e2, Nat.add_mul, e3, Nat.add_assoc]
      · rw [uvarint_big hbig, ed, hn]; simp; omega
      · rw [Nat.pow_succ]; omega

/-- 2^62 - 1. -/
def maxI : Int := 4611686018427387903
/-- An integer that has an encoding. -/
def okI (n : Int) : Prop := -4611686018427387903 ≤ n ∧ n ≤ 4611686018427387903
instance (n : Int) : Decidable (okI n) := by unfold okI; infer_instance

theorem zigzag_eq (n : Int) : zigzag n = if 0 ≤ n then (2 * n).toNat else (-2 * n - 1).toNat := rfl
theorem unzigzag_zigzag (n : Int) : unzigzag (zigzag n) = n := by
  unfold unzigzag zigzag
  split <;> split <;> omega
theorem zigzag_unzigzag (z : Nat) : zigzag (unzigzag z) = z := by
  unfold unzigzag zigzag
  split <;> split <;> omega
theorem zigzag_le {n : Int} (h : okI n) : zigzag n ≤ 9223372036854775806 := by
  unfold okI at h; unfold zigzag; split <;> omega
theorem okI_unzigzag {z : Nat} (h : z ≤ 9223372036854775806) : okI (unzigzag z) := by
  unfold okI unzigzag; split <;> omega
theorem okI_unzigzag_iff {z : Nat} : okI (unzigzag z) ↔ z ≤ 9223372036854775806 := by
  unfold okI unzigzag; split <;> omega

/-- The encoding of an integer: nothing for one that has none. -/
def enc (n : Int) : List UInt8 := uvarint (zigzag n)
theorem pow9 : (128 : Nat) ^ 9 = 9223372036854775808 := by decide
theorem enc_length {n : Int} (h : okI n) : (enc n).length ≤ 9 := uvarint_length 8 _ (by have := zigzag_le h; rw [show (128 : Nat) ^ (8 + 1) = 9223372036854775808 from by decide]; omega)
theorem enc_pos (n : Int) : 1 ≤ (enc n).length := uvarint_pos _

/-- Decoding an integer at the head of the bytes: the integer and the count of its bytes. -/
def dec (l : List UInt8) : Option (Int × Nat) :=
  match join 9 0 0 l with
  | some (z, k, true) => if z ≤ 9223372036854775806 then some (unzigzag z, k) else none
  | _ => none

theorem dec_enc {n : Int} (h : okI n) (r : List UInt8) : dec (enc n ++ r) = some (n, (enc n).length) := by
  unfold dec enc
  have hz := zigzag_le h
  rw [join_uvarint 8 0 0 (zigzag n) r (by rw [show (128 : Nat) ^ (8 + 1) = 9223372036854775808 from by decide]; omega) (Or.inl rfl)]
  simp [unzigzag_zigzag, hz]

theorem dec_sound {l : List UInt8} {n : Int} {k : Nat} (h : dec l = some (n, k)) : okI n ∧ ∃ r, l = enc n ++ r ∧ k = (enc n).length := by
  unfold dec at h
  split at h
  · rename_i z k' he
    split at h
    · rename_i hz
      simp only [Option.some.injEq, Prod.mk.injEq] at h
      obtain ⟨h1, h2⟩ := h
      obtain ⟨x, r, hl, hy, hn, _, _⟩ := join_sound 9 0 0 l z k' he
      have hx : z = x := by simpa using hy
      subst h1; subst h2; subst hx
      refine ⟨okI_unzigzag hz, r, ?_, ?_⟩
      · unfold enc; rw [zigzag_unzigzag]; exact hl
      · unfold enc; rw [zigzag_unzigzag]; omega
    · cases h
  · cases h

theorem enc_prefix {m n : Int} (hm : okI m) (hn : okI n) {r r' : List UInt8} (h : enc m ++ r = enc n ++ r') : m = n := by
  have h1 := dec_enc hm r
  rw [h, dec_enc hn r'] at h1
  simp only [Option.some.injEq, Prod.mk.injEq] at h1
  exact h1.1.symm

/-- No proper prefix of an encoding is accepted. -/
theorem dec_short {n : Int} (hn : okI n) {k : Nat} (hk : k < (enc n).length) : dec ((enc n).take k) = none := by
  rcases h : dec ((enc n).take k) with _ | ⟨m, j⟩
  · rfl
  · exfalso
    obtain ⟨hm, r, hl, _⟩ := dec_sound h
    have : enc m ++ (r ++ (enc n).drop k) = enc n ++ [] := by
      rw [← List.append_assoc, ← hl, List.take_append_drop, List.append_nil]
    have hmn := enc_prefix hm hn this
    subst hmn
    have h2 := congrArg List.length hl
    simp at h2; omega
end Go.Proofs.YtolpkbjbklcdgaaDoor
