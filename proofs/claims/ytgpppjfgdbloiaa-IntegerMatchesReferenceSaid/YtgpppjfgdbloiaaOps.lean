/- The contracts of combined, Add, Sub, Mul and Gcd. Condition: the strings' lengths are ints. -/
import Derived.Test.YtgpppjfgdbloiaaApi
namespace Go.Proofs.Ytgpppjfgdbloiaa
open Go.RowKit Go.Lib

/-- What an operation on numbers does. -/
def DoesOp (F : FuncId) (f : Int → Int → Int) : Prop :=
  ∀ (s t : Bool) (A A' : Option Addr) (c c' X Y : Nat) (w : World), Am w A (glen X) c X → Am w A' (glen Y) c' Y → X < 10 ^ 200 → Y < 10 ^ 200 → Calls Try.prog F #[.agg #[.bool s, .slice A (glen X) c], .agg #[.bool t, .slice A' (glen Y) c']] w (OutZ (f (sg s X) (sg t Y)) w)
theorem glen_lim {X : Nat} (h : X < 10 ^ 200) : glen X ≤ 50 := glen_le.2 (by rw [show (10000 : Nat) = 10 ^ 4 from rfl, ← Nat.pow_mul]; exact h)
theorem glen_big {X : Nat} (h : X < 10 ^ 200 * 10 ^ 200) : glen X ≤ 100 := glen_le.2 (by
  rw [show (100 : Nat) = 50 + 50 from rfl, Nat.pow_add, show (10000 : Nat) = 10 ^ 4 from rfl, ← Nat.pow_mul]; exact h)
theorem opR_no1 {f : Int → Int → Int} {a b : List UInt8} (h : rd a = none) : opR f a b = none := by unfold opR; rw [h]; rfl
theorem opR_no2 {f : Int → Int → Int} {a b : List UInt8} {x : Int} (h : rd a = some x) (h2 : rd b = none) : opR f a b = none := by unfold opR; rw [h, h2]; rfl
theorem opR_yes {f : Int → Int → Int} {a b : List UInt8} {x y : Int} (h : rd a = some x) (h2 : rd b = some y) : opR f a b = lim (f x y) := by unfold opR; rw [h, h2]; rfl

theorem does_add : DoesOp 39 (· + ·) := fun s t A A' c c' X Y w hA hB hX hY => nplus_any s t A A' c c' X Y w hA hB (Nat.le_trans (glen_lim hX) (by omega)) (Nat.le_trans (glen_lim hY) (by omega))
theorem big_add (x y : Int) (hx : x.natAbs < 10 ^ 200) (hy : y.natAbs < 10 ^ 200) : ((· + ·) x y : Int).natAbs < 10 ^ 200 * 10 ^ 200 := by
  show (x + y).natAbs < _
  have h1 : (x + y).natAbs ≤ x.natAbs + y.natAbs := Int.natAbs_add_le x y
  have h2 : (2 : Nat) ≤ 10 ^ 200 := by omega
  have h3 := Nat.mul_le_mul_right (10 ^ 200) h2
  omega
set_option maxRecDepth 100000 in
set_option maxHeartbeats 1000000 in
theorem combined_add 
    (a b : ByteArray) (w : World) (ha : a.size ≤ 9000000000000000000) (hb : b.size ≤ 9000000000000000000) :
    Calls Try.prog 38 #[.string a, .string b, .func (.func 39) #[] #[]] w (OutO (opR (· + ·) a.data.toList b.data.toList) w) := by
  cases hx : rd a.data.toList with
  | none =>
    rw [opR_no1 hx]
    have HC := Lib.hid (pboth_no1 a b w ha hx)
    clear hx
    go_enter Try.func38, Try.ntmps38
    go_wp2_with fail
    refine HC.out.mono ?_
    rintro e w1 ⟨rfl, hb1⟩
    go_wp2_with fail
    go_ret2
    exact ⟨rfl, (hb1.alloc hb1.size _).alloc (by have := hb1.size; simp; omega) _⟩
  | some x =>
    cases hy : rd b.data.toList with
    | none =>
      rw [opR_no2 hx hy]
      have HC := Lib.hid (pboth_no2 a b w x ha hb hx hy)
      clear hx hy
      go_enter Try.func38, Try.ntmps38
      go_wp2_with fail
      refine HC.out.mono ?_
      rintro e w1 ⟨rfl, hb1⟩
      go_wp2_with fail
      go_ret2
      exact ⟨rfl, (hb1.alloc hb1.size _).alloc (by have := hb1.size; simp; omega) _⟩
    | some y =>
      rw [opR_yes hx hy]
      have HC := Lib.hid (pboth_yes a b w x y ha hb hx hy)
      have hx9 := (rd_some hx).2.1
      have hy9 := (rd_some hy).2.1
      have HF := Lib.hid does_add
      have HFF := Lib.hid (big_add x y hx9 hy9)
      clear hx hy hx9 hy9
      go_enter Try.func38, Try.ntmps38
      go_wp2_with fail
      refine HC.out.mono ?_
      rintro e w1 ⟨s, X, A, c, t, Y, A', c', rfl, hs, ht, -, -, hX, hY, hA, hB, hb1⟩
      have hn1 := (Blk.new w1 53 #[.bool s, .slice A (glen X) c]).alloc (.cells #[.bool t, .slice A' (glen Y) c'] 53)
      have hn2 := Blk.new (w1.alloc (.cells #[.bool s, .slice A (glen X) c] 53)) 53 #[.bool t, .slice A' (glen Y) c']
      rw [show (w1.alloc (.cells #[.bool s, .slice A (glen X) c] 53)).heap.size = w1.heap.size + 1 from by simp] at hn2
      have x0 := hn1.cell (i := 0) rfl; have x1 := hn1.cell (i := 1) rfl
      have y0 := hn2.cell (i := 0) rfl; have y1 := hn2.cell (i := 1) rfl
      have hb2 : Below w1.heap.size w1 ((w1.alloc (.cells #[.bool s, .slice A (glen X) c] 53)).alloc (.cells #[.bool t, .slice A' (glen Y) c'] 53)) := ((Below.refl _ _).alloc (Nat.le_refl _) _).alloc (by simp) _
      have hop := HF.out s t A A' c c' X Y _ (hA.below hb2) (hB.below hb2) hX hY
      rw [hs, ht] at hop
      have HOP := Lib.hid hop
      have HB2 := Lib.hid (hb1.trans (hb2.mono hb1.size))
      clear hn1 hn2 hb2 hop hb1 hA hB hX hY hs ht
      go_wp2_with fail
      refine HOP.out.mono ?_
      rintro e w3 ⟨s3, V, A3, c3, rfl, hz3, -, hA3, hb3⟩
      have hV : glen V ≤ 1000 := by
        have h1 := HFF.out
        rw [← hz3, sg_abs] at h1
        exact Nat.le_trans (glen_big h1) (by omega)
      have hpr := printed_any s3 A3 c3 V w3 hA3 hV
      rw [hz3] at hpr
      have HPR := Lib.hid hpr
      have HB3 := Lib.hid (HB2.out.trans (hb3.mono HB2.out.size))
      clear hpr hz3 hA3 hb3
      go_wp2_with fail
      refine HPR.out.mono ?_
      rintro e w4 ⟨rfl, hb4⟩
      go_wp2_with fail
      go_ret2
      exact ⟨rfl, HB3.out.trans (hb4.mono HB3.out.size)⟩
set_option maxRecDepth 100000 in
theorem add_any (a b : ByteArray) (w : World) (ha : a.size ≤ 9000000000000000000) (hb : b.size ≤ 9000000000000000000) :
    Calls Try.prog 15 #[.string a, .string b] w (OutO (opR (· + ·) a.data.toList b.data.toList) w) := by
  have HC := Lib.hid (combined_add a b w ha hb)
  obtain ⟨r, hr⟩ : ∃ r, r = opR (· + ·) a.data.toList b.data.toList := ⟨_, rfl⟩
  rw [← hr] at HC ⊢
  have hmf : ∀ (fn : Fn) (first cap : Array Value) (w : World), (Instr.makeFunc fn first cap).run Try.prog w = .ok (.func fn first cap) w := fun _ _ _ _ => rfl
  clear hr
  go_enter Try.func15, Try.ntmps15
  go_wp2_with fail
  refine HC.out.mono ?_
  rintro e w1 ⟨rfl, hb1⟩
  go_wp2_with fail
  go_ret2
  exact ⟨rfl, hb1⟩

theorem does_sub : DoesOp 42 (· - ·) := fun s t A A' c c' X Y w hA hB hX hY => nminus_any s t A A' c c' X Y w hA hB (Nat.le_trans (glen_lim hX) (by omega)) (Nat.le_trans (glen_lim hY) (by omega))
theorem big_sub (x y : Int) (hx : x.natAbs < 10 ^ 200) (hy : y.natAbs < 10 ^ 200) : ((· - ·) x y : Int).natAbs < 10 ^ 200 * 10 ^ 200 := by
  show (x - y).natAbs < _
  have h1 : (x - y).natAbs ≤ x.natAbs + y.natAbs := by omega
  have h2 : (2 : Nat) ≤ 10 ^ 200 := by omega
  have h3 := Nat.mul_le_mul_right (10 ^ 200) h2
  omega
set_option maxRecDepth 100000 in
set_option maxHeartbeats 1000000 in
theorem combined_sub 
    (a b : ByteArray) (w : World) (ha : a.size ≤ 9000000000000000000) (hb : b.size ≤ 9000000000000000000) :
    Calls Try.prog 38 #[.string a, .string b, .func (.func 42) #[] #[]] w (OutO (opR (· - ·) a.data.toList b.data.toList) w) := by
  cases hx : rd a.data.toList with
  | none =>
    rw [opR_no1 hx]
    have HC := Lib.hid (pboth_no1 a b w ha hx)
    clear hx
    go_enter Try.func38, Try.ntmps38
    go_wp2_with fail
    refine HC.out.mono ?_
    rintro e w1 ⟨rfl, hb1⟩
    go_wp2_with fail
    go_ret2
    exact ⟨rfl, (hb1.alloc hb1.size _).alloc (by have := hb1.size; simp; omega) _⟩
  | some x =>
    cases hy : rd b.data.toList with
    | none =>
      rw [opR_no2 hx hy]
      have HC := Lib.hid (pboth_no2 a b w x ha hb hx hy)
      clear hx hy
      go_enter Try.func38, Try.ntmps38
      go_wp2_with fail
      refine HC.out.mono ?_
      rintro e w1 ⟨rfl, hb1⟩
      go_wp2_with fail
      go_ret2
      exact ⟨rfl, (hb1.alloc hb1.size _).alloc (by have := hb1.size; simp; omega) _⟩
    | some y =>
      rw [opR_yes hx hy]
      have HC := Lib.hid (pboth_yes a b w x y ha hb hx hy)
      have hx9 := (rd_some hx).2.1
      have hy9 := (rd_some hy).2.1
      have HF := Lib.hid does_sub
      have HFF := Lib.hid (big_sub x y hx9 hy9)
      clear hx hy hx9 hy9
      go_enter Try.func38, Try.ntmps38
      go_wp2_with fail
      refine HC.out.mono ?_
      rintro e w1 ⟨s, X, A, c, t, Y, A', c', rfl, hs, ht, -, -, hX, hY, hA, hB, hb1⟩
      have hn1 := (Blk.new w1 53 #[.bool s, .slice A (glen X) c]).alloc (.cells #[.bool t, .slice A' (glen Y) c'] 53)
      have hn2 := Blk.new (w1.alloc (.cells #[.bool s, .slice A (glen X) c] 53)) 53 #[.bool t, .slice A' (glen Y) c']
      rw [show (w1.alloc (.cells #[.bool s, .slice A (glen X) c] 53)).heap.size = w1.heap.size + 1 from by simp] at hn2
      have x0 := hn1.cell (i := 0) rfl; have x1 := hn1.cell (i := 1) rfl
      have y0 := hn2.cell (i := 0) rfl; have y1 := hn2.cell (i := 1) rfl
      have hb2 : Below w1.heap.size w1 ((w1.alloc (.cells #[.bool s, .slice A (glen X) c] 53)).alloc (.cells #[.bool t, .slice A' (glen Y) c'] 53)) := ((Below.refl _ _).alloc (Nat.le_refl _) _).alloc (by simp) _
      have hop := HF.out s t A A' c c' X Y _ (hA.below hb2) (hB.below hb2) hX hY
      rw [hs, ht] at hop
      have HOP := Lib.hid hop
      have HB2 := Lib.hid (hb1.trans (hb2.mono hb1.size))
      clear hn1 hn2 hb2 hop hb1 hA hB hX hY hs ht
      go_wp2_with fail
      refine HOP.out.mono ?_
      rintro e w3 ⟨s3, V, A3, c3, rfl, hz3, -, hA3, hb3⟩
      have hV : glen V ≤ 1000 := by
        have h1 := HFF.out
        rw [← hz3, sg_abs] at h1
        exact Nat.le_trans (glen_big h1) (by omega)
      have hpr := printed_any s3 A3 c3 V w3 hA3 hV
      rw [hz3] at hpr
      have HPR := Lib.hid hpr
      have HB3 := Lib.hid (HB2.out.trans (hb3.mono HB2.out.size))
      clear hpr hz3 hA3 hb3
      go_wp2_with fail
      refine HPR.out.mono ?_
      rintro e w4 ⟨rfl, hb4⟩
      go_wp2_with fail
      go_ret2
      exact ⟨rfl, HB3.out.trans (hb4.mono HB3.out.size)⟩
set_option maxRecDepth 100000 in
theorem sub_any (a b : ByteArray) (w : World) (ha : a.size ≤ 9000000000000000000) (hb : b.size ≤ 9000000000000000000) :
    Calls Try.prog 17 #[.string a, .string b] w (OutO (opR (· - ·) a.data.toList b.data.toList) w) := by
  have HC := Lib.hid (combined_sub a b w ha hb)
  obtain ⟨r, hr⟩ : ∃ r, r = opR (· - ·) a.data.toList b.data.toList := ⟨_, rfl⟩
  rw [← hr] at HC ⊢
  have hmf : ∀ (fn : Fn) (first cap : Array Value) (w : World), (Instr.makeFunc fn first cap).run Try.prog w = .ok (.func fn first cap) w := fun _ _ _ _ => rfl
  clear hr
  go_enter Try.func17, Try.ntmps17
  go_wp2_with fail
  refine HC.out.mono ?_
  rintro e w1 ⟨rfl, hb1⟩
  go_wp2_with fail
  go_ret2
  exact ⟨rfl, hb1⟩

theorem does_mul : DoesOp 43 (· * ·) := fun s t A A' c c' X Y w hA hB hX hY => ntimes_z s t A A' c c' X Y w hA hB (Nat.le_trans (glen_lim hX) (by omega)) (Nat.le_trans (glen_lim hY) (by omega))
theorem big_mul (x y : Int) (hx : x.natAbs < 10 ^ 200) (hy : y.natAbs < 10 ^ 200) : ((· * ·) x y : Int).natAbs < 10 ^ 200 * 10 ^ 200 := by
  show (x * y).natAbs < _
  rw [Int.natAbs_mul]
  exact Nat.mul_lt_mul'' hx hy
set_option maxRecDepth 100000 in
set_option maxHeartbeats 1000000 in
theorem combined_mul 
    (a b : ByteArray) (w : World) (ha : a.size ≤ 9000000000000000000) (hb : b.size ≤ 9000000000000000000) :
    Calls Try.prog 38 #[.string a, .string b, .func (.func 43) #[] #[]] w (OutO (opR (· * ·) a.data.toList b.data.toList) w) := by
  cases hx : rd a.data.toList with
  | none =>
    rw [opR_no1 hx]
    have HC := Lib.hid (pboth_no1 a b w ha hx)
    clear hx
    go_enter Try.func38, Try.ntmps38
    go_wp2_with fail
    refine HC.out.mono ?_
    rintro e w1 ⟨rfl, hb1⟩
    go_wp2_with fail
    go_ret2
    exact ⟨rfl, (hb1.alloc hb1.size _).alloc (by have := hb1.size; simp; omega) _⟩
  | some x =>
    cases hy : rd b.data.toList with
    | none =>
      rw [opR_no2 hx hy]
      have HC := Lib.hid (pboth_no2 a b w x ha hb hx hy)
      clear hx hy
      go_enter Try.func38, Try.ntmps38
      go_wp2_with fail
      refine HC.out.mono ?_
      rintro e w1 ⟨rfl, hb1⟩
      go_wp2_with fail
      go_ret2
      exact ⟨rfl, (hb1.alloc hb1.size _).alloc (by have := hb1.size; simp; omega) _⟩
    | some y =>
      rw [opR_yes hx hy]
      have HC := Lib.hid (pboth_yes a b w x y ha hb hx hy)
      have hx9 := (rd_some hx).2.1
      have hy9 := (rd_some hy).2.1
      have HF := Lib.hid does_mul
      have HFF := Lib.hid (big_mul x y hx9 hy9)
      clear hx hy hx9 hy9
      go_enter Try.func38, Try.ntmps38
      go_wp2_with fail
      refine HC.out.mono ?_
      rintro e w1 ⟨s, X, A, c, t, Y, A', c', rfl, hs, ht, -, -, hX, hY, hA, hB, hb1⟩
      have hn1 := (Blk.new w1 53 #[.bool s, .slice A (glen X) c]).alloc (.cells #[.bool t, .slice A' (glen Y) c'] 53)
      have hn2 := Blk.new (w1.alloc (.cells #[.bool s, .slice A (glen X) c] 53)) 53 #[.bool t, .slice A' (glen Y) c']
      rw [show (w1.alloc (.cells #[.bool s, .slice A (glen X) c] 53)).heap.size = w1.heap.size + 1 from by simp] at hn2
      have x0 := hn1.cell (i := 0) rfl; have x1 := hn1.cell (i := 1) rfl
      have y0 := hn2.cell (i := 0) rfl; have y1 := hn2.cell (i := 1) rfl
      have hb2 : Below w1.heap.size w1 ((w1.alloc (.cells #[.bool s, .slice A (glen X) c] 53)).alloc (.cells #[.bool t, .slice A' (glen Y) c'] 53)) := ((Below.refl _ _).alloc (Nat.le_refl _) _).alloc (by simp) _
      have hop := HF.out s t A A' c c' X Y _ (hA.below hb2) (hB.below hb2) hX hY
      rw [hs, ht] at hop
      have HOP := Lib.hid hop
      have HB2 := Lib.hid (hb1.trans (hb2.mono hb1.size))
      clear hn1 hn2 hb2 hop hb1 hA hB hX hY hs ht
      go_wp2_with fail
      refine HOP.out.mono ?_
      rintro e w3 ⟨s3, V, A3, c3, rfl, hz3, -, hA3, hb3⟩
      have hV : glen V ≤ 1000 := by
        have h1 := HFF.out
        rw [← hz3, sg_abs] at h1
        exact Nat.le_trans (glen_big h1) (by omega)
      have hpr := printed_any s3 A3 c3 V w3 hA3 hV
      rw [hz3] at hpr
      have HPR := Lib.hid hpr
      have HB3 := Lib.hid (HB2.out.trans (hb3.mono HB2.out.size))
      clear hpr hz3 hA3 hb3
      go_wp2_with fail
      refine HPR.out.mono ?_
      rintro e w4 ⟨rfl, hb4⟩
      go_wp2_with fail
      go_ret2
      exact ⟨rfl, HB3.out.trans (hb4.mono HB3.out.size)⟩
set_option maxRecDepth 100000 in
theorem mul_any (a b : ByteArray) (w : World) (ha : a.size ≤ 9000000000000000000) (hb : b.size ≤ 9000000000000000000) :
    Calls Try.prog 19 #[.string a, .string b] w (OutO (opR (· * ·) a.data.toList b.data.toList) w) := by
  have HC := Lib.hid (combined_mul a b w ha hb)
  obtain ⟨r, hr⟩ : ∃ r, r = opR (· * ·) a.data.toList b.data.toList := ⟨_, rfl⟩
  rw [← hr] at HC ⊢
  have hmf : ∀ (fn : Fn) (first cap : Array Value) (w : World), (Instr.makeFunc fn first cap).run Try.prog w = .ok (.func fn first cap) w := fun _ _ _ _ => rfl
  clear hr
  go_enter Try.func19, Try.ntmps19
  go_wp2_with fail
  refine HC.out.mono ?_
  rintro e w1 ⟨rfl, hb1⟩
  go_wp2_with fail
  go_ret2
  exact ⟨rfl, hb1⟩

theorem does_gcd : DoesOp 54 (fun x y => ((Nat.gcd x.natAbs y.natAbs : Nat) : Int)) := fun s t A A' c c' X Y w hA hB hX hY => (ngcd_any s t A A' c c' X Y w hA hB (Nat.le_trans (glen_lim hX) (by omega)) (Nat.le_trans (glen_lim hY) (by omega))).mono fun e w' h => by show OutZ ((Nat.gcd (sg s X).natAbs (sg t Y).natAbs : Nat) : Int) w e w'; rw [sg_abs, sg_abs]; exact h
theorem big_gcd (x y : Int) (hx : x.natAbs < 10 ^ 200) (hy : y.natAbs < 10 ^ 200) : ((fun x y => ((Nat.gcd x.natAbs y.natAbs : Nat) : Int)) x y : Int).natAbs < 10 ^ 200 * 10 ^ 200 := by
  show (((Nat.gcd x.natAbs y.natAbs : Nat) : Int)).natAbs < _
  rw [Int.natAbs_natCast]
  have h2 : (10 : Nat) ^ 200 ≤ 10 ^ 200 * 10 ^ 200 := Nat.le_mul_of_pos_left _ (Nat.pow_pos (by omega))
  rcases Nat.eq_zero_or_pos x.natAbs with h | h
  · rw [h, Nat.gcd_zero_left]; omega
  · have := Nat.gcd_le_left y.natAbs h; omega
set_option maxRecDepth 100000 in
set_option maxHeartbeats 1000000 in
theorem combined_gcd 
    (a b : ByteArray) (w : World) (ha : a.size ≤ 9000000000000000000) (hb : b.size ≤ 9000000000000000000) :
    Calls Try.prog 38 #[.string a, .string b, .func (.func 54) #[] #[]] w (OutO (opR (fun x y => ((Nat.gcd x.natAbs y.natAbs : Nat) : Int)) a.data.toList b.data.toList) w) := by
  cases hx : rd a.data.toList with
  | none =>
    rw [opR_no1 hx]
    have HC := Lib.hid (pboth_no1 a b w ha hx)
    clear hx
    go_enter Try.func38, Try.ntmps38
    go_wp2_with fail
    refine HC.out.mono ?_
    rintro e w1 ⟨rfl, hb1⟩
    go_wp2_with fail
    go_ret2
    exact ⟨rfl, (hb1.alloc hb1.size _).alloc (by have := hb1.size; simp; omega) _⟩
  | some x =>
    cases hy : rd b.data.toList with
    | none =>
      rw [opR_no2 hx hy]
      have HC := Lib.hid (pboth_no2 a b w x ha hb hx hy)
      clear hx hy
      go_enter Try.func38, Try.ntmps38
      go_wp2_with fail
      refine HC.out.mono ?_
      rintro e w1 ⟨rfl, hb1⟩
      go_wp2_with fail
      go_ret2
      exact ⟨rfl, (hb1.alloc hb1.size _).alloc (by have := hb1.size; simp; omega) _⟩
    | some y =>
      rw [opR_yes hx hy]
      have HC := Lib.hid (pboth_yes a b w x y ha hb hx hy)
      have hx9 := (rd_some hx).2.1
      have hy9 := (rd_some hy).2.1
      have HF := Lib.hid does_gcd
      have HFF := Lib.hid (big_gcd x y hx9 hy9)
      clear hx hy hx9 hy9
      go_enter Try.func38, Try.ntmps38
      go_wp2_with fail
      refine HC.out.mono ?_
      rintro e w1 ⟨s, X, A, c, t, Y, A', c', rfl, hs, ht, -, -, hX, hY, hA, hB, hb1⟩
      have hn1 := (Blk.new w1 53 #[.bool s, .slice A (glen X) c]).alloc (.cells #[.bool t, .slice A' (glen Y) c'] 53)
      have hn2 := Blk.new (w1.alloc (.cells #[.bool s, .slice A (glen X) c] 53)) 53 #[.bool t, .slice A' (glen Y) c']
      rw [show (w1.alloc (.cells #[.bool s, .slice A (glen X) c] 53)).heap.size = w1.heap.size + 1 from by simp] at hn2
      have x0 := hn1.cell (i := 0) rfl; have x1 := hn1.cell (i := 1) rfl
      have y0 := hn2.cell (i := 0) rfl; have y1 := hn2.cell (i := 1) rfl
      have hb2 : Below w1.heap.size w1 ((w1.alloc (.cells #[.bool s, .slice A (glen X) c] 53)).alloc (.cells #[.bool t, .slice A' (glen Y) c'] 53)) := ((Below.refl _ _).alloc (Nat.le_refl _) _).alloc (by simp) _
      have hop := HF.out s t A A' c c' X Y _ (hA.below hb2) (hB.below hb2) hX hY
      rw [hs, ht] at hop
      have HOP := Lib.hid hop
      have HB2 := Lib.hid (hb1.trans (hb2.mono hb1.size))
      clear hn1 hn2 hb2 hop hb1 hA hB hX hY hs ht
      go_wp2_with fail
      refine HOP.out.mono ?_
      rintro e w3 ⟨s3, V, A3, c3, rfl, hz3, -, hA3, hb3⟩
      have hV : glen V ≤ 1000 := by
        have h1 := HFF.out
        rw [← hz3, sg_abs] at h1
        exact Nat.le_trans (glen_big h1) (by omega)
      have hpr := printed_any s3 A3 c3 V w3 hA3 hV
      rw [hz3] at hpr
      have HPR := Lib.hid hpr
      have HB3 := Lib.hid (HB2.out.trans (hb3.mono HB2.out.size))
      clear hpr hz3 hA3 hb3
      go_wp2_with fail
      refine HPR.out.mono ?_
      rintro e w4 ⟨rfl, hb4⟩
      go_wp2_with fail
      go_ret2
      exact ⟨rfl, HB3.out.trans (hb4.mono HB3.out.size)⟩
set_option maxRecDepth 100000 in
theorem gcd_any (a b : ByteArray) (w : World) (ha : a.size ≤ 9000000000000000000) (hb : b.size ≤ 9000000000000000000) :
    Calls Try.prog 23 #[.string a, .string b] w (OutO (opR (fun x y => ((Nat.gcd x.natAbs y.natAbs : Nat) : Int)) a.data.toList b.data.toList) w) := by
  have HC := Lib.hid (combined_gcd a b w ha hb)
  obtain ⟨r, hr⟩ : ∃ r, r = opR (fun x y => ((Nat.gcd x.natAbs y.natAbs : Nat) : Int)) a.data.toList b.data.toList := ⟨_, rfl⟩
  rw [← hr] at HC ⊢
  have hmf : ∀ (fn : Fn) (first cap : Array Value) (w : World), (Instr.makeFunc fn first cap).run Try.prog w = .ok (.func fn first cap) w := fun _ _ _ _ => rfl
  clear hr
  go_enter Try.func23, Try.ntmps23
  go_wp2_with fail
  refine HC.out.mono ?_
  rintro e w1 ⟨rfl, hb1⟩
  go_wp2_with fail
  go_ret2
  exact ⟨rfl, hb1⟩

end Go.Proofs.Ytgpppjfgdbloiaa
