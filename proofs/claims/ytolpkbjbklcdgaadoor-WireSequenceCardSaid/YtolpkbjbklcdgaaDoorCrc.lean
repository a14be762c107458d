/- Plain mathematics of the checksum: one step of the register is linear, and distinguishes numbers below 2^32. No program is spoken of here. -/
import Derived.Lib.Varint
namespace Go.Proofs.YtolpkbjbklcdgaaDoor

def poly : Nat := 2197175160
/-- The register shifted by one bit. -/
def step (r : Nat) : Nat := if r % 2 = 1 then r / 2 ^^^ poly else r / 2
/-- The register shifted by 'n' bits. -/
def steps : Nat → Nat → Nat
  | 0, r => r
  | n + 1, r => steps n (step r)

theorem half_xor (a b : Nat) : (a ^^^ b) / 2 = a / 2 ^^^ b / 2 := by
  have := @Nat.shiftRight_xor_distrib 1 a b
  simpa [Nat.shiftRight_eq_div_pow] using this
theorem xor_swap (a b c : Nat) : (a ^^^ c) ^^^ (b ^^^ c) = a ^^^ b := by
  rw [Nat.xor_comm b c, Nat.xor_assoc, ← Nat.xor_assoc c c b, Nat.xor_self, Nat.zero_xor]
theorem xor_zero_eq {a b : Nat} (h : a ^^^ b = 0) : a = b := by
  have h2 : (a ^^^ b) ^^^ b = 0 ^^^ b := by rw [h]
  rw [Nat.xor_assoc, Nat.xor_self, Nat.xor_zero, Nat.zero_xor] at h2
  exact h2
theorem xor_right (a b c : Nat) : (a ^^^ c) ^^^ b = (a ^^^ b) ^^^ c := by
  rw [Nat.xor_assoc, Nat.xor_comm c b, ← Nat.xor_assoc]

theorem step_xor (a b : Nat) : step (a ^^^ b) = step a ^^^ step b := by
  have hm : (a ^^^ b) % 2 = (a + b) % 2 := by
    have h := @Nat.xor_mod_two_eq_one a b
    by_cases ha : a % 2 = 1 <;> by_cases hb : b % 2 = 1 <;> simp only [ha, hb, iff_self, not_true_eq_false, not_false_eq_true, iff_false, iff_true] at h <;> omega
  unfold step
  rw [hm, half_xor]
  by_cases ha : a % 2 = 1 <;> by_cases hb : b % 2 = 1
  · rw [if_neg (by omega), if_pos ha, if_pos hb, xor_swap]
  · rw [if_pos (by omega), if_pos ha, if_neg hb, xor_right]
  · rw [if_pos (by omega), if_neg ha, if_pos hb, Nat.xor_assoc]
  · rw [if_neg (by omega), if_neg ha, if_neg hb]

theorem steps_xor : ∀ (n a b : Nat), steps n (a ^^^ b) = steps n a ^^^ steps n b
  | 0, _, _ => rfl
  | n + 1, a, b => by rw [steps, step_xor, steps_xor n]; rfl
theorem steps_add : ∀ (m n a : Nat), steps (m + n) a = steps n (steps m a)
  | 0, n, a => by simp [steps]
  | m + 1, n, a => by rw [show m + 1 + n = m + n + 1 from by omega, steps, steps_add m n]; rfl
theorem step_double (x : Nat) : step (2 * x) = x := by
  unfold step; rw [if_neg (by omega)]; omega
theorem steps_shift : ∀ (n x : Nat), steps n (x <<< n) = x
  | 0, x => rfl
  | n + 1, x => by
    rw [steps, show x <<< (n + 1) = 2 * (x <<< n) from by rw [Nat.shiftLeft_succ], step_double, steps_shift n]
theorem step_lt {r : Nat} (h : r < 4294967296) : step r < 4294967296 := by
  unfold step
  split
  · exact Nat.xor_lt_two_pow (n := 32) (by omega) (by decide)
  · omega
theorem steps_lt : ∀ (n : Nat) {r : Nat}, r < 4294967296 → steps n r < 4294967296
  | 0, _, h => h
  | n + 1, _, h => steps_lt n (step_lt h)
theorem step_ne {r : Nat} (h : r < 4294967296) (h0 : r ≠ 0) : step r ≠ 0 := by
  unfold step
  split
  · intro e
    have : r / 2 = poly := xor_zero_eq e
    unfold poly at this; omega
  · omega
theorem steps_ne : ∀ (n : Nat) {r : Nat}, r < 4294967296 → r ≠ 0 → steps n r ≠ 0
  | 0, _, _, h0 => h0
  | n + 1, _, h, h0 => steps_ne n (step_lt h) (step_ne h h0)
theorem steps_zero : ∀ n : Nat, steps n 0 = 0
  | 0 => rfl
  | n + 1 => by rw [steps, show step 0 = 0 from by decide, steps_zero n]

/-- The table of four steps. -/
def tab : List Nat := [0, 274646895, 549293790, 820201905, 1098587580, 1361435347, 1640403810, 1905808397, 2197175160, 2460548119, 2722870694, 2987750089, 3280807620, 3553878443, 3811616794, 4084100981]
theorem tab_steps : ∀ k : Fin 16, steps 4 k.val = tab.getD k.val 0 := by decide
theorem split16 (r : Nat) : r = (r / 16) <<< 4 ^^^ r % 16 := by
  apply Nat.eq_of_testBit_eq
  intro i
  rw [Nat.testBit_xor, Nat.testBit_shiftLeft, show (16 : Nat) = 2 ^ 4 from rfl, Nat.testBit_mod_two_pow, Nat.testBit_div_two_pow]
  by_cases h : 4 ≤ i
  · have h2 : ¬ i < 4 := by omega
    simp [h, h2]
  · have h2 : i < 4 := by omega
    simp [h, h2]
/-- One step by the table. -/
theorem steps_four (r : Nat) : steps 4 r = r / 16 ^^^ tab.getD (r % 16) 0 := by
  have h := tab_steps ⟨r % 16, by omega⟩
  simp only at h
  rw [← h]
  conv => lhs; rw [split16 r]
  rw [steps_xor, steps_shift]

/-- A string as a number: its first byte lowest. -/
def num : List UInt8 → Nat
  | [] => 0
  | b :: l => b.toNat ^^^ (num l <<< 8)

/-- The register behind a byte. -/
def upd (r : Nat) (b : UInt8) : Nat := steps 8 (r ^^^ b.toNat)
/-- The register behind a string. -/
def reg (r : Nat) (l : List UInt8) : Nat := l.foldl upd r
/-- The checksum. -/
def crc (l : List UInt8) : Nat := reg 4294967295 l ^^^ 4294967295

theorem reg_num : ∀ (l : List UInt8) (r : Nat), reg r l = steps (8 * l.length) (r ^^^ num l)
  | [], r => by simp [reg, num, steps]
  | b :: l, r => by
    show reg (upd r b) l = _
    rw [reg_num l, List.length_cons, show 8 * (l.length + 1) = 8 + 8 * l.length from by omega, steps_add, num, ← Nat.xor_assoc, steps_xor 8, steps_shift]
    rfl
theorem crc_num (l : List UInt8) : crc l = steps (8 * l.length) (4294967295 ^^^ num l) ^^^ 4294967295 := by rw [crc, reg_num]

theorem upd_lt {r : Nat} (h : r < 4294967296) (b : UInt8) : upd r b < 4294967296 := by
  refine steps_lt 8 (Nat.xor_lt_two_pow (n := 32) h ?_)
  have := UInt8.toNat_lt b; omega
theorem reg_lt : ∀ (l : List UInt8) {r : Nat}, r < 4294967296 → reg r l < 4294967296
  | [], _, h => h
  | b :: l, _, h => reg_lt l (upd_lt h b)
theorem crc_lt (l : List UInt8) : crc l < 4294967296 := Nat.xor_lt_two_pow (n := 32) (reg_lt l (by decide)) (by decide)
theorem reg_snoc (r : Nat) (l : List UInt8) (b : UInt8) : reg r (l ++ [b]) = upd (reg r l) b := by simp [reg]

/-- Three strings of the same length. -/
theorem num_xor3 : ∀ (a b c : List UInt8), a.length = b.length → a.length = c.length →
    num (List.zipWith (· ^^^ ·) (List.zipWith (· ^^^ ·) a b) c) = (num a ^^^ num b) ^^^ num c
  | [], [], [], _, _ => by simp [num]
  | x :: a, y :: b, z :: c, h1, h2 => by
    simp only [List.zipWith_cons_cons, num, UInt8.toNat_xor]
    rw [num_xor3 a b c (by simpa using h1) (by simpa using h2), Nat.shiftLeft_xor_distrib, Nat.shiftLeft_xor_distrib]
    generalize num a <<< 8 = A; generalize num b <<< 8 = B; generalize num c <<< 8 = C
    generalize x.toNat = x; generalize y.toNat = y; generalize z.toNat = z
    apply Nat.eq_of_testBit_eq
    intro i
    simp only [Nat.testBit_xor]
    cases x.testBit i <;> cases y.testBit i <;> cases z.testBit i <;> cases A.testBit i <;> cases B.testBit i <;> cases C.testBit i <;> rfl
  | [], _ :: _, _, h1, _ => by simp at h1
  | _ :: _, [], _, h1, _ => by simp at h1
  | [], [], _ :: _, _, h2 => by simp at h2
  | _ :: _, _ :: _, [], _, h2 => by simp at h2

theorem crc_affine (a b c : List UInt8) (h1 : a.length = b.length) (h2 : a.length = c.length) :
    crc (List.zipWith (· ^^^ ·) (List.zipWith (· ^^^ ·) a b) c) = (crc a ^^^ crc b) ^^^ crc c := by
  have hl : (List.zipWith (· ^^^ ·) (List.zipWith (· ^^^ ·) a b) c).length = a.length := by simp; omega
  rw [crc_num, crc_num a, crc_num b, crc_num c, hl, num_xor3 a b c h1 h2, ← h1, ← h2]
  rw [steps_xor, steps_xor _ _ (num a), steps_xor _ _ (num b), steps_xor _ _ (num c), steps_xor, steps_xor]
  generalize steps (8 * a.length) 4294967295 = S
  generalize steps (8 * a.length) (num a) = A; generalize steps (8 * a.length) (num b) = B; generalize steps (8 * a.length) (num c) = C
  generalize (4294967295 : Nat) = M
  apply Nat.eq_of_testBit_eq
  intro i
  simp only [Nat.testBit_xor]
  cases S.testBit i <;> cases M.testBit i <;> cases A.testBit i <;> cases B.testBit i <;> cases C.testBit i <;> rfl


theorem num_set : ∀ (l : List UInt8) (i : Nat) (x : UInt8), i < l.length → num (l.set i (l.getD i 0 ^^^ x)) = num l ^^^ (x.toNat <<< (8 * i))
  | [], i, x, h => by simp at h
  | b :: l, 0, x, _ => by
    simp only [List.set_cons_zero, List.getD_cons_zero, num, UInt8.toNat_xor, Nat.mul_zero, Nat.shiftLeft_zero]
    rw [xor_right]
  | b :: l, i + 1, x, h => by
    simp only [List.set_cons_succ, List.getD_cons_succ, num]
    rw [num_set l i x (by simpa using h), Nat.shiftLeft_xor_distrib, ← Nat.xor_assoc, ← Nat.shiftLeft_add]
    rw [show 8 * i + 8 = 8 * (i + 1) from by omega]

/-- Strings whose numbers differ by a pattern of at most 32 bits, anywhere, have different checksums. -/
theorem crc_burst (l l' : List UInt8) (from_ p : Nat) (hl : l'.length = l.length) (hf : from_ ≤ 8 * l.length) (hp : p < 4294967296) (h : num l' = num l ^^^ (p <<< from_)) :
    crc l' = crc l ↔ p = 0 := by
  have e : crc l' ^^^ crc l = steps (8 * l.length - from_) p := by
    rw [crc_num, crc_num l, hl, xor_swap, ← steps_xor, h]
    have e1 : (4294967295 ^^^ (num l ^^^ p <<< from_)) ^^^ (4294967295 ^^^ num l) = p <<< from_ := by
      generalize num l = A; generalize p <<< from_ = B; generalize (4294967295 : Nat) = M
      apply Nat.eq_of_testBit_eq
      intro i
      simp only [Nat.testBit_xor]
      cases A.testBit i <;> cases B.testBit i <;> cases M.testBit i <;> rfl
    rw [e1]
    conv => lhs; rw [show 8 * l.length = from_ + (8 * l.length - from_) from by omega]
    rw [steps_add, steps_shift]
  constructor
  · intro he
    rw [he, Nat.xor_self] at e
    by_cases h0 : p = 0
    · exact h0
    · exact absurd e.symm (steps_ne _ hp h0)
  · rintro rfl
    rw [steps_zero] at e
    exact xor_zero_eq e
end Go.Proofs.YtolpkbjbklcdgaaDoor
