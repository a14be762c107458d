/- RationalField: the law's walk. Conditions: ints. -/
import Derived.Deep.CutRange
import Derived.Test.YtnacgdkihkfjkaaGO
import Derived.Test.YtnacgdkihkfjkaaGP
namespace Go.Proofs.Ytnacgdkihkfjkaa
open Go.RowKit Go.Lib

theorem qE_cases (r : Option (Int × Int)) : qE r = 0 ∨ qE r = 40 := by cases r with
  | none => exact .inr rfl
  | some q => exact .inl rfl
theorem qE_some {r : Option (Int × Int)} (h : qE r = 0) : ∃ q, r = some q := by cases r with
  | none => cases h
  | some q => exact ⟨q, rfl⟩
/-- A fraction that is there. -/
def Is (r : Option (Int × Int)) : Prop := ∃ q, r = some q ∧ Good q
theorem Is.gd {r : Option (Int × Int)} (h : Is r) : GdO r := by obtain ⟨q, rfl, hq⟩ := h; exact gdO_some hq
theorem four_O {p q : Option (Int × Int)} (hp : GdO p) (hq : GdO q) (w : World) : Calls Try.prog 20 #[.agg #[.string (qN p), .string (qD p)], .agg #[.string (qN q), .string (qD q)]] w fun e w' =>
    e = .returned (.tuple #[.agg #[.string (qN (sumQ (· + ·) p q)), .string (qD (sumQ (· + ·) p q)), .string (qN (sumQ (· - ·) p q)), .string (qD (sumQ (· - ·) p q)), .string (qN (mulQ p q)), .string (qD (mulQ p q)), .string (qN (divQ p q)), .string (qD (divQ p q))], .agg #[.int .i64 (qE (sumQ (· + ·) p q)), .int .i64 (qE (sumQ (· - ·) p q)), .int .i64 (qE (mulQ p q)), .int .i64 (qE (divQ p q))]]) ∧ Below w.heap.size w w' :=
  four_run _ _ _ _ _ _ _ _ _ _ _ _ _ _ _ _ w (fun W => addO_any hp hq W) (fun W => subO_any hp hq W) (fun W => mulO_any hp hq W) (fun W => divO_any hp hq W)
section
variable {a b c ab bc x y : Option (Int × Int)} (ha : Is a) (hb : Is b) (hc : Is c)
include ha hb hc
theorem assoc_O (h1 : ab = sumQ (· + ·) a b) (h2 : bc = sumQ (· + ·) b c) (h3 : x = sumQ (· + ·) ab c) (h4 : y = sumQ (· + ·) a bc) (e1 : qE ab = 0) (e2 : qE bc = 0) (e3 : qE x = 0) (e4 : qE y = 0) : x = y := by
  obtain ⟨a, rfl, ga⟩ := ha; obtain ⟨b, rfl, gb⟩ := hb; obtain ⟨c, rfl, gc⟩ := hc
  obtain ⟨ab, rfl⟩ := qE_some e1; obtain ⟨bc, rfl⟩ := qE_some e2; obtain ⟨x, rfl⟩ := qE_some e3; obtain ⟨y, rfl⟩ := qE_some e4
  rw [add_assoc_q ga.1.1 gb.1.1 gc.1.1 h1.symm h2.symm h3.symm h4.symm]
theorem massoc_O (h1 : ab = mulQ a b) (h2 : bc = mulQ b c) (h3 : x = mulQ a bc) (h4 : y = mulQ ab c) (e1 : qE ab = 0) (e2 : qE bc = 0) (e3 : qE x = 0) (e4 : qE y = 0) : x = y := by
  obtain ⟨a, rfl, ga⟩ := ha; obtain ⟨b, rfl, gb⟩ := hb; obtain ⟨c, rfl, gc⟩ := hc
  obtain ⟨ab, rfl⟩ := qE_some e1; obtain ⟨bc, rfl⟩ := qE_some e2; obtain ⟨x, rfl⟩ := qE_some e3; obtain ⟨y, rfl⟩ := qE_some e4
  rw [mul_assoc_q ga.1.1 gb.1.1 gc.1.1 h1.symm h2.symm h3.symm h4.symm]
theorem dist_O {ac : Option (Int × Int)} (h1 : ab = sumQ (· + ·) a b) (h2 : ac = mulQ a c) (h3 : bc = mulQ b c) (h4 : x = sumQ (· + ·) ac bc) (h5 : y = mulQ ab c) (e1 : qE ab = 0) (e2 : qE ac = 0) (e3 : qE bc = 0) (e4 : qE x = 0) (e5 : qE y = 0) : x = y := by
  obtain ⟨a, rfl, ga⟩ := ha; obtain ⟨b, rfl, gb⟩ := hb; obtain ⟨c, rfl, gc⟩ := hc
  obtain ⟨ab, rfl⟩ := qE_some e1; obtain ⟨ac, rfl⟩ := qE_some e2; obtain ⟨bc, rfl⟩ := qE_some e3; obtain ⟨x, rfl⟩ := qE_some e4; obtain ⟨y, rfl⟩ := qE_some e5
  rw [dist_q ga.1.1 gb.1.1 gc.1.1 h1.symm h2.symm h3.symm h4.symm h5.symm]
end
section
variable {a b ab x : Option (Int × Int)} (ha : Is a) (hb : Is b)
include ha hb
theorem back_O (h1 : ab = sumQ (· + ·) a b) (h2 : x = sumQ (· - ·) ab b) (e1 : qE ab = 0) (e2 : qE x = 0) : x = a := by
  obtain ⟨a, rfl, ga⟩ := ha; obtain ⟨b, rfl, gb⟩ := hb
  obtain ⟨ab, rfl⟩ := qE_some e1; obtain ⟨x, rfl⟩ := qE_some e2
  rw [back_q ga.1 gb.1.1 h1.symm h2.symm]
theorem again_O (h1 : ab = divQ a b) (h2 : x = mulQ ab b) (e1 : qE ab = 0) (e2 : qE x = 0) : x = a := by
  obtain ⟨a, rfl, ga⟩ := ha; obtain ⟨b, rfl, gb⟩ := hb
  obtain ⟨ab, rfl⟩ := qE_some e1; obtain ⟨x, rfl⟩ := qE_some e2
  rw [again_q ga.1 gb.1.1 h1.symm h2.symm]
end
theorem small_ok {n d m c : Int} (h1 : 0 < d) (h2 : 0 < c) (a1 : n.natAbs < 10 ^ 3) (a2 : d.natAbs < 10 ^ 3) (a3 : m.natAbs < 10 ^ 3) (a4 : c.natAbs < 10 ^ 3) :
    qE (sumQ (· + ·) (some (n, d)) (some (m, c))) = 0 ∧ qE (mulQ (some (n, d)) (some (m, c))) = 0 := by
  have p1 := abs_mul a1 a4; have p2 := abs_mul a3 a2; have p3 := abs_mul a2 a4; have p4 := abs_mul a1 a3
  have h0 : d * c ≠ 0 := by have := Int.mul_pos h1 h2; omega
  constructor
  · rw [sum_ok (f := (· + ·)) (p := (n, d)) (q := (m, c)) (lt200 p1 (by omega)) (lt200 p2 (by omega)) ?_ (lt200 p3 (by omega)) h0]; · rfl
    show (n * c + m * d).natAbs < _
    have : (n * c + m * d).natAbs < 10 ^ 7 := by have := Int.natAbs_add_le (n * c) (m * d); omega
    exact lt200 this (by omega)
  · rw [mul_ok (p := (n, d)) (q := (m, c)) (lt200 p4 (by omega)) (lt200 p3 (by omega)) h0]; rfl
set_option maxRecDepth 100000 in
set_option maxHeartbeats 40000000 in
theorem field_law (i0 i1 i2 i3 j0 j1 j2 j3 k0 k1 : Int) (lg : Bool) (w : World) (hi0 : -9223372036854775808 ≤ i0 ∧ i0 ≤ 9223372036854775807) (hi1 : -9223372036854775808 ≤ i1 ∧ i1 ≤ 9223372036854775807) (hi2 : -9223372036854775808 ≤ i2 ∧ i2 ≤ 9223372036854775807) (hi3 : -9223372036854775808 ≤ i3 ∧ i3 ≤ 9223372036854775807) (hj0 : -9223372036854775808 ≤ j0 ∧ j0 ≤ 9223372036854775807) (hj1 : -9223372036854775808 ≤ j1 ∧ j1 ≤ 9223372036854775807) (hj2 : -9223372036854775808 ≤ j2 ∧ j2 ≤ 9223372036854775807) (hj3 : -9223372036854775808 ≤ j3 ∧ j3 ≤ 9223372036854775807) (hk0 : -9223372036854775808 ≤ k0 ∧ k0 ≤ 9223372036854775807) (hk1 : -9223372036854775808 ≤ k1 ∧ k1 ≤ 9223372036854775807) :
    Calls Try.prog 5 #[.agg #[.int .i64 i0, .int .i64 i1, .int .i64 i2, .int .i64 i3], .agg #[.int .i64 j0, .int .i64 j1, .int .i64 j2, .int .i64 j3], .agg #[.int .i64 k0, .int .i64 k1], .bool lg] w fun e w' => e = .returned (.bool true) ∧ Below w.heap.size w w' := by
  have HSA := Lib.hid (fun W => sane_any W)
  have HS1 := Lib.hid (fun W => rsmall_any i0 i1 W hi0 hi1); have HS2 := Lib.hid (fun W => rsmall_any j0 j1 W hj0 hj1); have HS3 := Lib.hid (fun W => rsmall_any k0 k1 W hk0 hk1)
  have HL1 := Lib.hid (fun W => rlong_any i0 i1 i2 i3 W hi0 hi1 hi2 hi3); have HL2 := Lib.hid (fun W => rlong_any j0 j1 j2 j3 W hj0 hj1 hj2 hj3)
  have X_0 : Hid (Blk (((w.alloc (.cells #[.int .i64 i0, .int .i64 i1, .int .i64 i2, .int .i64 i3] 24)).alloc (.cells #[.int .i64 j0, .int .i64 j1, .int .i64 j2, .int .i64 j3] 24)).alloc (.cells #[.int .i64 k0, .int .i64 k1] 43)) w.heap.size 24 #[.int .i64 i0, .int .i64 i1, .int .i64 i2, .int .i64 i3]) := allocs_blk [(#[.int .i64 i0, .int .i64 i1, .int .i64 i2, .int .i64 i3], 24), (#[.int .i64 j0, .int .i64 j1, .int .i64 j2, .int .i64 j3], 24), (#[.int .i64 k0, .int .i64 k1], 43)] w 0 _ rfl
  have Y_0 : Hid (Blk (((w.alloc (.cells #[.int .i64 i0, .int .i64 i1, .int .i64 i2, .int .i64 i3] 24)).alloc (.cells #[.int .i64 j0, .int .i64 j1, .int .i64 j2, .int .i64 j3] 24)).alloc (.cells #[.int .i64 k0, .int .i64 k1] 43)) (w.heap.size + 1) 24 #[.int .i64 j0, .int .i64 j1, .int .i64 j2, .int .i64 j3]) := allocs_blk [(#[.int .i64 i0, .int .i64 i1, .int .i64 i2, .int .i64 i3], 24), (#[.int .i64 j0, .int .i64 j1, .int .i64 j2, .int .i64 j3], 24), (#[.int .i64 k0, .int .i64 k1], 43)] w 1 _ rfl
  have Z_0 : Hid (Blk (((w.alloc (.cells #[.int .i64 i0, .int .i64 i1, .int .i64 i2, .int .i64 i3] 24)).alloc (.cells #[.int .i64 j0, .int .i64 j1, .int .i64 j2, .int .i64 j3] 24)).alloc (.cells #[.int .i64 k0, .int .i64 k1] 43)) (w.heap.size + 2) 43 #[.int .i64 k0, .int .i64 k1]) := allocs_blk [(#[.int .i64 i0, .int .i64 i1, .int .i64 i2, .int .i64 i3], 24), (#[.int .i64 j0, .int .i64 j1, .int .i64 j2, .int .i64 j3], 24), (#[.int .i64 k0, .int .i64 k1], 43)] w 2 _ rfl
  have HB_0 : Hid (Below w.heap.size w (((w.alloc (.cells #[.int .i64 i0, .int .i64 i1, .int .i64 i2, .int .i64 i3] 24)).alloc (.cells #[.int .i64 j0, .int .i64 j1, .int .i64 j2, .int .i64 j3] 24)).alloc (.cells #[.int .i64 k0, .int .i64 k1] 43))) := allocs_below [(#[.int .i64 i0, .int .i64 i1, .int .i64 i2, .int .i64 i3], 24), (#[.int .i64 j0, .int .i64 j1, .int .i64 j2, .int .i64 j3], 24), (#[.int .i64 k0, .int .i64 k1], 43)] w (Below.refl w.heap.size w) (Nat.le_refl _)
  clear hi0 hi1 hi2 hi3 hj0 hj1 hj2 hj3 hk0 hk1
  go_enter Try.func5, Try.ntmps5
  go_wp2_with fail
  refine (HSA.out _).mono ?_
  rintro e v0 ⟨rfl, hb⟩
  have X_1 : Hid (Blk v0 w.heap.size 24 #[.int .i64 i0, .int .i64 i1, .int .i64 i2, .int .i64 i3]) := Lib.hid (X_0.out.below hb X_0.out.lt)
  have Y_1 : Hid (Blk v0 (w.heap.size + 1) 24 #[.int .i64 j0, .int .i64 j1, .int .i64 j2, .int .i64 j3]) := Lib.hid (Y_0.out.below hb Y_0.out.lt)
  have Z_1 : Hid (Blk v0 (w.heap.size + 2) 43 #[.int .i64 k0, .int .i64 k1]) := Lib.hid (Z_0.out.below hb Z_0.out.lt)
  have HB_1 : Hid (Below w.heap.size w v0) := Lib.hid (HB_0.out.trans (hb.mono HB_0.out.size))
  clear hb X_0 Y_0 Z_0 HB_0
  have y0 := X_1.out.cell (i := 0) (v := .int .i64 i0) rfl; have y1 := X_1.out.cell (i := 1) (v := .int .i64 i1) rfl
  go_wp2_with fail
  refine (HS1.out _).mono ?_
  rintro e v1 ⟨n1, d1, l, ln, ld, rfl, hb⟩
  have SM1 : Hid (n1.natAbs < 10 ^ 3 ∧ d1.natAbs < 10 ^ 3) := ⟨ln, ld⟩; have SG1 : Hid (Good (n1, d1)) := ⟨l, lt200 ln (by omega), lt200 ld (by omega)⟩
  clear l ln ld
  clear y0 y1
  have NE_X_A := Lib.hid (Nat.ne_of_lt (X_1.out.below hb X_1.out.lt).lt)
  have NE_Y_A := Lib.hid (Nat.ne_of_lt (Y_1.out.below hb Y_1.out.lt).lt)
  have NE_Z_A := Lib.hid (Nat.ne_of_lt (Z_1.out.below hb Z_1.out.lt).lt)
  have SZ_A := Lib.hid (HB_1.out.trans (hb.mono HB_1.out.size)).size
  have X_2 : Hid (Blk (v1.alloc (.cells #[.string (zS n1), .string (zS d1)] 23)) w.heap.size 24 #[.int .i64 i0, .int .i64 i1, .int .i64 i2, .int .i64 i3]) := Lib.hid (allocs_keep [(#[.string (zS n1), .string (zS d1)], 23)] _ (X_1.out.below hb X_1.out.lt))
  have Y_2 : Hid (Blk (v1.alloc (.cells #[.string (zS n1), .string (zS d1)] 23)) (w.heap.size + 1) 24 #[.int .i64 j0, .int .i64 j1, .int .i64 j2, .int .i64 j3]) := Lib.hid (allocs_keep [(#[.string (zS n1), .string (zS d1)], 23)] _ (Y_1.out.below hb Y_1.out.lt))
  have Z_2 : Hid (Blk (v1.alloc (.cells #[.string (zS n1), .string (zS d1)] 23)) (w.heap.size + 2) 43 #[.int .i64 k0, .int .i64 k1]) := Lib.hid (allocs_keep [(#[.string (zS n1), .string (zS d1)], 23)] _ (Z_1.out.below hb Z_1.out.lt))
  have HB_2 : Hid (Below w.heap.size w (v1.alloc (.cells #[.string (zS n1), .string (zS d1)] 23))) := Lib.hid (allocs_below [(#[.string (zS n1), .string (zS d1)], 23)] _ (HB_1.out.trans (hb.mono HB_1.out.size)) (HB_1.out.trans (hb.mono HB_1.out.size)).size)
  have A_2 : Hid (Blk (v1.alloc (.cells #[.string (zS n1), .string (zS d1)] 23)) v1.heap.size 23 #[.string (zS n1), .string (zS d1)]) := Lib.hid (allocs_blk [(#[.string (zS n1), .string (zS d1)], 23)] v1 0 _ rfl)
  clear hb X_1 Y_1 Z_1 HB_1
  have y0 := Y_2.out.cell (i := 0) (v := .int .i64 j0) rfl; have y1 := Y_2.out.cell (i := 1) (v := .int .i64 j1) rfl
  go_wp2_with fail
  refine (HS2.out _).mono ?_
  rintro e v2 ⟨n2, d2, l, ln, ld, rfl, hb⟩
  have SM2 : Hid (n2.natAbs < 10 ^ 3 ∧ d2.natAbs < 10 ^ 3) := ⟨ln, ld⟩; have SG2 : Hid (Good (n2, d2)) := ⟨l, lt200 ln (by omega), lt200 ld (by omega)⟩
  clear l ln ld
  clear y0 y1
  have NE_X_B := Lib.hid (Nat.ne_of_lt (X_2.out.below hb X_2.out.lt).lt)
  have NE_Y_B := Lib.hid (Nat.ne_of_lt (Y_2.out.below hb Y_2.out.lt).lt)
  have NE_Z_B := Lib.hid (Nat.ne_of_lt (Z_2.out.below hb Z_2.out.lt).lt)
  have NE_A_B := Lib.hid (Nat.ne_of_lt (A_2.out.below hb A_2.out.lt).lt)
  have SZ_B := Lib.hid (HB_2.out.trans (hb.mono HB_2.out.size)).size
  have X_3 : Hid (Blk (v2.alloc (.cells #[.string (zS n2), .string (zS d2)] 23)) w.heap.size 24 #[.int .i64 i0, .int .i64 i1, .int .i64 i2, .int .i64 i3]) := Lib.hid (allocs_keep [(#[.string (zS n2), .string (zS d2)], 23)] _ (X_2.out.below hb X_2.out.lt))
  have Y_3 : Hid (Blk (v2.alloc (.cells #[.string (zS n2), .string (zS d2)] 23)) (w.heap.size + 1) 24 #[.int .i64 j0, .int .i64 j1, .int .i64 j2, .int .i64 j3]) := Lib.hid (allocs_keep [(#[.string (zS n2), .string (zS d2)], 23)] _ (Y_2.out.below hb Y_2.out.lt))
  have Z_3 : Hid (Blk (v2.alloc (.cells #[.string (zS n2), .string (zS d2)] 23)) (w.heap.size + 2) 43 #[.int .i64 k0, .int .i64 k1]) := Lib.hid (allocs_keep [(#[.string (zS n2), .string (zS d2)], 23)] _ (Z_2.out.below hb Z_2.out.lt))
  have A_3 : Hid (Blk (v2.alloc (.cells #[.string (zS n2), .string (zS d2)] 23)) v1.heap.size 23 #[.string (zS n1), .string (zS d1)]) := Lib.hid (allocs_keep [(#[.string (zS n2), .string (zS d2)], 23)] _ (A_2.out.below hb A_2.out.lt))
  have HB_3 : Hid (Below w.heap.size w (v2.alloc (.cells #[.string (zS n2), .string (zS d2)] 23))) := Lib.hid (allocs_below [(#[.string (zS n2), .string (zS d2)], 23)] _ (HB_2.out.trans (hb.mono HB_2.out.size)) (HB_2.out.trans (hb.mono HB_2.out.size)).size)
  have B_3 : Hid (Blk (v2.alloc (.cells #[.string (zS n2), .string (zS d2)] 23)) v2.heap.size 23 #[.string (zS n2), .string (zS d2)]) := Lib.hid (allocs_blk [(#[.string (zS n2), .string (zS d2)], 23)] v2 0 _ rfl)
  clear hb X_2 Y_2 Z_2 A_2 HB_2
  have y0 := Z_3.out.cell (i := 0) (v := .int .i64 k0) rfl; have y1 := Z_3.out.cell (i := 1) (v := .int .i64 k1) rfl
  go_wp2_with fail
  refine (HS3.out _).mono ?_
  rintro e v3 ⟨n3, d3, l, ln, ld, rfl, hb⟩
  have SM3 : Hid (n3.natAbs < 10 ^ 3 ∧ d3.natAbs < 10 ^ 3) := ⟨ln, ld⟩; have SG3 : Hid (Good (n3, d3)) := ⟨l, lt200 ln (by omega), lt200 ld (by omega)⟩
  clear l ln ld
  clear y0 y1
  have NE_X_C := Lib.hid (Nat.ne_of_lt (X_3.out.below hb X_3.out.lt).lt)
  have NE_Y_C := Lib.hid (Nat.ne_of_lt (Y_3.out.below hb Y_3.out.lt).lt)
  have NE_Z_C := Lib.hid (Nat.ne_of_lt (Z_3.out.below hb Z_3.out.lt).lt)
  have NE_A_C := Lib.hid (Nat.ne_of_lt (A_3.out.below hb A_3.out.lt).lt)
  have NE_B_C := Lib.hid (Nat.ne_of_lt (B_3.out.below hb B_3.out.lt).lt)
  have SZ_C := Lib.hid (HB_3.out.trans (hb.mono HB_3.out.size)).size
  have X_4 : Hid (Blk (v3.alloc (.cells #[.string (zS n3), .string (zS d3)] 23)) w.heap.size 24 #[.int .i64 i0, .int .i64 i1, .int .i64 i2, .int .i64 i3]) := Lib.hid (allocs_keep [(#[.string (zS n3), .string (zS d3)], 23)] _ (X_3.out.below hb X_3.out.lt))
  have Y_4 : Hid (Blk (v3.alloc (.cells #[.string (zS n3), .string (zS d3)] 23)) (w.heap.size + 1) 24 #[.int .i64 j0, .int .i64 j1, .int .i64 j2, .int .i64 j3]) := Lib.hid (allocs_keep [(#[.string (zS n3), .string (zS d3)], 23)] _ (Y_3.out.below hb Y_3.out.lt))
  have Z_4 : Hid (Blk (v3.alloc (.cells #[.string (zS n3), .string (zS d3)] 23)) (w.heap.size + 2) 43 #[.int .i64 k0, .int .i64 k1]) := Lib.hid (allocs_keep [(#[.string (zS n3), .string (zS d3)], 23)] _ (Z_3.out.below hb Z_3.out.lt))
  have A_4 : Hid (Blk (v3.alloc (.cells #[.string (zS n3), .string (zS d3)] 23)) v1.heap.size 23 #[.string (zS n1), .string (zS d1)]) := Lib.hid (allocs_keep [(#[.string (zS n3), .string (zS d3)], 23)] _ (A_3.out.below hb A_3.out.lt))
  have B_4 : Hid (Blk (v3.alloc (.cells #[.string (zS n3), .string (zS d3)] 23)) v2.heap.size 23 #[.string (zS n2), .string (zS d2)]) := Lib.hid (allocs_keep [(#[.string (zS n3), .string (zS d3)], 23)] _ (B_3.out.below hb B_3.out.lt))
  have HB_4 : Hid (Below w.heap.size w (v3.alloc (.cells #[.string (zS n3), .string (zS d3)] 23))) := Lib.hid (allocs_below [(#[.string (zS n3), .string (zS d3)], 23)] _ (HB_3.out.trans (hb.mono HB_3.out.size)) (HB_3.out.trans (hb.mono HB_3.out.size)).size)
  have C_4 : Hid (Blk (v3.alloc (.cells #[.string (zS n3), .string (zS d3)] 23)) v3.heap.size 23 #[.string (zS n3), .string (zS d3)]) := Lib.hid (allocs_blk [(#[.string (zS n3), .string (zS d3)], 23)] v3 0 _ rfl)
  clear hb X_3 Y_3 Z_3 A_3 B_3 HB_3
  go_upto_if 52 with (fail)
  go_cut [] from 53 to 56 (fun wx => ∃ pa pb pc : Option (Int × Int), Is pa ∧ Is pb ∧ Is pc ∧ (lg = false → qE (sumQ (· + ·) pa pb) = 0 ∧ qE (mulQ pa pb) = 0) ∧ Below w.heap.size w wx ∧ Blk wx v1.heap.size 23 #[.string (qN pa), .string (qD pa)] ∧ Blk wx v2.heap.size 23 #[.string (qN pb), .string (qD pb)] ∧ Blk wx v3.heap.size 23 #[.string (qN pc), .string (qD pc)])
  case first =>
    cases lg
    · go_wp2_with fail
      go_meet
      exact ⟨some (n1, d1), some (n2, d2), some (n3, d3), ⟨_, rfl, SG1.out⟩, ⟨_, rfl, SG2.out⟩, ⟨_, rfl, SG3.out⟩, fun _ => small_ok SG1.out.1.1 SG2.out.1.1 SM1.out.1 SM1.out.2 SM2.out.1 SM2.out.2, HB_4.out, A_4.out, B_4.out, C_4.out⟩
    · skip
      have y0 := X_4.out.cell (i := 0) (v := .int .i64 i0) rfl; have y1 := X_4.out.cell (i := 1) (v := .int .i64 i1) rfl; have y2 := X_4.out.cell (i := 2) (v := .int .i64 i2) rfl; have y3 := X_4.out.cell (i := 3) (v := .int .i64 i3) rfl
      go_wp2_with fail
      refine (HL1.out _).mono ?_
      rintro e v4 ⟨m1, c1, l, ln, ld, rfl, hb⟩
      have LG1 : Hid (Good (m1, c1)) := ⟨l, lt200 ln (by omega), lt200 ld (by omega)⟩
      clear l ln ld
      clear y0 y1 y2 y3
      have X_5 : Hid (Blk v4 w.heap.size 24 #[.int .i64 i0, .int .i64 i1, .int .i64 i2, .int .i64 i3]) := Lib.hid (X_4.out.below hb X_4.out.lt)
      have Y_5 : Hid (Blk v4 (w.heap.size + 1) 24 #[.int .i64 j0, .int .i64 j1, .int .i64 j2, .int .i64 j3]) := Lib.hid (Y_4.out.below hb Y_4.out.lt)
      have Z_5 : Hid (Blk v4 (w.heap.size + 2) 43 #[.int .i64 k0, .int .i64 k1]) := Lib.hid (Z_4.out.below hb Z_4.out.lt)
      have A_5 : Hid (Blk v4 v1.heap.size 23 #[.string (zS n1), .string (zS d1)]) := Lib.hid (A_4.out.below hb A_4.out.lt)
      have B_5 : Hid (Blk v4 v2.heap.size 23 #[.string (zS n2), .string (zS d2)]) := Lib.hid (B_4.out.below hb B_4.out.lt)
      have C_5 : Hid (Blk v4 v3.heap.size 23 #[.string (zS n3), .string (zS d3)]) := Lib.hid (C_4.out.below hb C_4.out.lt)
      have HB_5 : Hid (Below w.heap.size w v4) := Lib.hid (HB_4.out.trans (hb.mono HB_4.out.size))
      clear hb X_4 Y_4 Z_4 A_4 B_4 C_4 HB_4
      have y0 := A_5.out.cell (i := 0) (v := .string (zS n1)) rfl
      have y1 := A_5.out.frozen 0
      have y2 := A_5.out.cell (i := 1) (v := .string (zS d1)) rfl
      have y3 := A_5.out.frozen 1
      have X_6 : Hid (Blk ((v4.setCell ⟨v1.heap.size, 0, none⟩ (.string (zS m1))).setCell ⟨v1.heap.size, 1, none⟩ (.string (zS c1))) w.heap.size 24 #[.int .i64 i0, .int .i64 i1, .int .i64 i2, .int .i64 i3]) := Lib.hid (X_5.out.far_two NE_X_A.out (.string (zS m1)) (.string (zS c1)))
      have Y_6 : Hid (Blk ((v4.setCell ⟨v1.heap.size, 0, none⟩ (.string (zS m1))).setCell ⟨v1.heap.size, 1, none⟩ (.string (zS c1))) (w.heap.size + 1) 24 #[.int .i64 j0, .int .i64 j1, .int .i64 j2, .int .i64 j3]) := Lib.hid (Y_5.out.far_two NE_Y_A.out (.string (zS m1)) (.string (zS c1)))
      have Z_6 : Hid (Blk ((v4.setCell ⟨v1.heap.size, 0, none⟩ (.string (zS m1))).setCell ⟨v1.heap.size, 1, none⟩ (.string (zS c1))) (w.heap.size + 2) 43 #[.int .i64 k0, .int .i64 k1]) := Lib.hid (Z_5.out.far_two NE_Z_A.out (.string (zS m1)) (.string (zS c1)))
      have B_6 : Hid (Blk ((v4.setCell ⟨v1.heap.size, 0, none⟩ (.string (zS m1))).setCell ⟨v1.heap.size, 1, none⟩ (.string (zS c1))) v2.heap.size 23 #[.string (zS n2), .string (zS d2)]) := Lib.hid (B_5.out.far_two (Ne.symm NE_A_B.out) (.string (zS m1)) (.string (zS c1)))
      have C_6 : Hid (Blk ((v4.setCell ⟨v1.heap.size, 0, none⟩ (.string (zS m1))).setCell ⟨v1.heap.size, 1, none⟩ (.string (zS c1))) v3.heap.size 23 #[.string (zS n3), .string (zS d3)]) := Lib.hid (C_5.out.far_two (Ne.symm NE_A_C.out) (.string (zS m1)) (.string (zS c1)))
      have A_6 : Hid (Blk ((v4.setCell ⟨v1.heap.size, 0, none⟩ (.string (zS m1))).setCell ⟨v1.heap.size, 1, none⟩ (.string (zS c1))) v1.heap.size 23 #[.string (zS m1), .string (zS c1)]) := Lib.hid ((A_5.out.set 0 (.string (zS m1))).set 1 (.string (zS c1)))
      have HB_6 : Hid (Below w.heap.size w ((v4.setCell ⟨v1.heap.size, 0, none⟩ (.string (zS m1))).setCell ⟨v1.heap.size, 1, none⟩ (.string (zS c1)))) := Lib.hid ((HB_5.out.setCell (p := ⟨v1.heap.size, 0, none⟩) SZ_A.out (.string (zS m1))).setCell (p := ⟨v1.heap.size, 1, none⟩) SZ_A.out (.string (zS c1)))
      clear HB_5 X_5 Y_5 Z_5 A_5 B_5 C_5
      have y4 := Y_6.out.cell (i := 0) (v := .int .i64 j0) rfl; have y5 := Y_6.out.cell (i := 1) (v := .int .i64 j1) rfl; have y6 := Y_6.out.cell (i := 2) (v := .int .i64 j2) rfl; have y7 := Y_6.out.cell (i := 3) (v := .int .i64 j3) rfl
      go_wp2_with fail
      refine (HL2.out _).mono ?_
      rintro e v6 ⟨m2, c2, l, ln, ld, rfl, hb⟩
      have LG2 : Hid (Good (m2, c2)) := ⟨l, lt200 ln (by omega), lt200 ld (by omega)⟩
      clear l ln ld
      clear y0 y1 y2 y3 y4 y5 y6 y7
      have X_7 : Hid (Blk v6 w.heap.size 24 #[.int .i64 i0, .int .i64 i1, .int .i64 i2, .int .i64 i3]) := Lib.hid (X_6.out.below hb X_6.out.lt)
      have Y_7 : Hid (Blk v6 (w.heap.size + 1) 24 #[.int .i64 j0, .int .i64 j1, .int .i64 j2, .int .i64 j3]) := Lib.hid (Y_6.out.below hb Y_6.out.lt)
      have Z_7 : Hid (Blk v6 (w.heap.size + 2) 43 #[.int .i64 k0, .int .i64 k1]) := Lib.hid (Z_6.out.below hb Z_6.out.lt)
      have A_7 : Hid (Blk v6 v1.heap.size 23 #[.string (zS m1), .string (zS c1)]) := Lib.hid (A_6.out.below hb A_6.out.lt)
      have B_7 : Hid (Blk v6 v2.heap.size 23 #[.string (zS n2), .string (zS d2)]) := Lib.hid (B_6.out.below hb B_6.out.lt)
      have C_7 : Hid (Blk v6 v3.heap.size 23 #[.string (zS n3), .string (zS d3)]) := Lib.hid (C_6.out.below hb C_6.out.lt)
      have HB_7 : Hid (Below w.heap.size w v6) := Lib.hid (HB_6.out.trans (hb.mono HB_6.out.size))
      clear hb X_6 Y_6 Z_6 A_6 B_6 C_6 HB_6
      have y0 := B_7.out.cell (i := 0) (v := .string (zS n2)) rfl
      have y1 := B_7.out.frozen 0
      have y2 := B_7.out.cell (i := 1) (v := .string (zS d2)) rfl
      have y3 := B_7.out.frozen 1
      have X_8 : Hid (Blk ((v6.setCell ⟨v2.heap.size, 0, none⟩ (.string (zS m2))).setCell ⟨v2.heap.size, 1, none⟩ (.string (zS c2))) w.heap.size 24 #[.int .i64 i0, .int .i64 i1, .int .i64 i2, .int .i64 i3]) := Lib.hid (X_7.out.far_two NE_X_B.out (.string (zS m2)) (.string (zS c2)))
      have Y_8 : Hid (Blk ((v6.setCell ⟨v2.heap.size, 0, none⟩ (.string (zS m2))).setCell ⟨v2.heap.size, 1, none⟩ (.string (zS c2))) (w.heap.size + 1) 24 #[.int .i64 j0, .int .i64 j1, .int .i64 j2, .int .i64 j3]) := Lib.hid (Y_7.out.far_two NE_Y_B.out (.string (zS m2)) (.string (zS c2)))
      have Z_8 : Hid (Blk ((v6.setCell ⟨v2.heap.size, 0, none⟩ (.string (zS m2))).setCell ⟨v2.heap.size, 1, none⟩ (.string (zS c2))) (w.heap.size + 2) 43 #[.int .i64 k0, .int .i64 k1]) := Lib.hid (Z_7.out.far_two NE_Z_B.out (.string (zS m2)) (.string (zS c2)))
      have A_8 : Hid (Blk ((v6.setCell ⟨v2.heap.size, 0, none⟩ (.string (zS m2))).setCell ⟨v2.heap.size, 1, none⟩ (.string (zS c2))) v1.heap.size 23 #[.string (zS m1), .string (zS c1)]) := Lib.hid (A_7.out.far_two NE_A_B.out (.string (zS m2)) (.string (zS c2)))
      have C_8 : Hid (Blk ((v6.setCell ⟨v2.heap.size, 0, none⟩ (.string (zS m2))).setCell ⟨v2.heap.size, 1, none⟩ (.string (zS c2))) v3.heap.size 23 #[.string (zS n3), .string (zS d3)]) := Lib.hid (C_7.out.far_two (Ne.symm NE_B_C.out) (.string (zS m2)) (.string (zS c2)))
      have B_8 : Hid (Blk ((v6.setCell ⟨v2.heap.size, 0, none⟩ (.string (zS m2))).setCell ⟨v2.heap.size, 1, none⟩ (.string (zS c2))) v2.heap.size 23 #[.string (zS m2), .string (zS c2)]) := Lib.hid ((B_7.out.set 0 (.string (zS m2))).set 1 (.string (zS c2)))
      have HB_8 : Hid (Below w.heap.size w ((v6.setCell ⟨v2.heap.size, 0, none⟩ (.string (zS m2))).setCell ⟨v2.heap.size, 1, none⟩ (.string (zS c2)))) := Lib.hid ((HB_7.out.setCell (p := ⟨v2.heap.size, 0, none⟩) SZ_B.out (.string (zS m2))).setCell (p := ⟨v2.heap.size, 1, none⟩) SZ_B.out (.string (zS c2)))
      clear HB_7 X_7 Y_7 Z_7 A_7 B_7 C_7
      go_wp2_with fail
      go_meet
      exact ⟨some (m1, c1), some (m2, c2), some (n3, d3), ⟨_, rfl, LG1.out⟩, ⟨_, rfl, LG2.out⟩, ⟨_, rfl, SG3.out⟩, fun h => (by cases h), HB_8.out, A_8.out, B_8.out, C_8.out⟩
  case rest =>
    obtain ⟨pa, pb, pc, hpa, hpb, hpc, hsm, hbb, hA, hB, hC⟩ := hcut
    clear HS1 HS2 HS3 HL1 HL2 SM1 SM2 SM3 SG1 SG2 SG3 X_4 Y_4 Z_4 A_4 B_4 C_4 HB_4
    have A_5 := Lib.hid hA
    have B_5 := Lib.hid hB
    have C_5 := Lib.hid hC
    have HB_5 := Lib.hid hbb
    have PA := Lib.hid hpa; have PB := Lib.hid hpb; have PC := Lib.hid hpc; have SM := Lib.hid hsm
    clear hpa hpb hpc hsm hbb hA hB hC
    have hf := fun W => four_O (p := pa) (q := pb) PA.out.gd PB.out.gd W
    obtain ⟨r0, hr0⟩ : ∃ r, r = (sumQ (· + ·) pa pb) := ⟨_, rfl⟩
    rw [← hr0] at hf
    have E_r0 := Lib.hid hr0
    clear hr0
    obtain ⟨r1, hr1⟩ : ∃ r, r = (sumQ (· - ·) pa pb) := ⟨_, rfl⟩
    rw [← hr1] at hf
    have E_r1 := Lib.hid hr1
    clear hr1
    obtain ⟨r2, hr2⟩ : ∃ r, r = (mulQ pa pb) := ⟨_, rfl⟩
    rw [← hr2] at hf
    have E_r2 := Lib.hid hr2
    clear hr2
    obtain ⟨r3, hr3⟩ : ∃ r, r = (divQ pa pb) := ⟨_, rfl⟩
    rw [← hr3] at hf
    have E_r3 := Lib.hid hr3
    clear hr3
    obtain ⟨z_r0, hz⟩ : ∃ z, z = qE r0 := ⟨_, rfl⟩
    have Z_r0 := Lib.hid hz
    clear hz
    obtain ⟨z_r1, hz⟩ : ∃ z, z = qE r1 := ⟨_, rfl⟩
    have Z_r1 := Lib.hid hz
    clear hz
    obtain ⟨z_r2, hz⟩ : ∃ z, z = qE r2 := ⟨_, rfl⟩
    have Z_r2 := Lib.hid hz
    clear hz
    obtain ⟨z_r3, hz⟩ : ∃ z, z = qE r3 := ⟨_, rfl⟩
    have Z_r3 := Lib.hid hz
    clear hz
    rw [← Z_r0.out] at hf
    rw [← Z_r1.out] at hf
    rw [← Z_r2.out] at hf
    rw [← Z_r3.out] at hf
    have FO1 : Hid (∀ W, Calls Try.prog 20 #[.agg #[.string (qN pa), .string (qD pa)], .agg #[.string (qN pb), .string (qD pb)]] W fun e w' => e = .returned (.tuple #[.agg #[.string (qN r0), .string (qD r0), .string (qN r1), .string (qD r1), .string (qN r2), .string (qD r2), .string (qN r3), .string (qD r3)], .agg #[.int .i64 z_r0, .int .i64 z_r1, .int .i64 z_r2, .int .i64 z_r3]]) ∧ Below W.heap.size W w') := hf
    clear hf
    have y0 := A_5.out.cell (i := 0) (v := .string (qN pa)) rfl; have y1 := A_5.out.cell (i := 1) (v := .string (qD pa)) rfl
    have y2 := B_5.out.cell (i := 0) (v := .string (qN pb)) rfl; have y3 := B_5.out.cell (i := 1) (v := .string (qD pb)) rfl
    go_wp2_with fail
    refine (FO1.out _).mono ?_
    rintro e v5 ⟨rfl, hb⟩
    clear y0 y1 y2 y3
    have A_6 : Hid (Blk ((v5.alloc (.cells #[.string (qN r0), .string (qD r0), .string (qN r1), .string (qD r1), .string (qN r2), .string (qD r2), .string (qN r3), .string (qD r3)] 39)).alloc (.cells #[.int .i64 z_r0, .int .i64 z_r1, .int .i64 z_r2, .int .i64 z_r3] 40)) v1.heap.size 23 #[.string (qN pa), .string (qD pa)]) := Lib.hid (allocs_keep [(#[.string (qN r0), .string (qD r0), .string (qN r1), .string (qD r1), .string (qN r2), .string (qD r2), .string (qN r3), .string (qD r3)], 39), (#[.int .i64 z_r0, .int .i64 z_r1, .int .i64 z_r2, .int .i64 z_r3], 40)] _ (A_5.out.below hb A_5.out.lt))
    have B_6 : Hid (Blk ((v5.alloc (.cells #[.string (qN r0), .string (qD r0), .string (qN r1), .string (qD r1), .string (qN r2), .string (qD r2), .string (qN r3), .string (qD r3)] 39)).alloc (.cells #[.int .i64 z_r0, .int .i64 z_r1, .int .i64 z_r2, .int .i64 z_r3] 40)) v2.heap.size 23 #[.string (qN pb), .string (qD pb)]) := Lib.hid (allocs_keep [(#[.string (qN r0), .string (qD r0), .string (qN r1), .string (qD r1), .string (qN r2), .string (qD r2), .string (qN r3), .string (qD r3)], 39), (#[.int .i64 z_r0, .int .i64 z_r1, .int .i64 z_r2, .int .i64 z_r3], 40)] _ (B_5.out.below hb B_5.out.lt))
    have C_6 : Hid (Blk ((v5.alloc (.cells #[.string (qN r0), .string (qD r0), .string (qN r1), .string (qD r1), .string (qN r2), .string (qD r2), .string (qN r3), .string (qD r3)] 39)).alloc (.cells #[.int .i64 z_r0, .int .i64 z_r1, .int .i64 z_r2, .int .i64 z_r3] 40)) v3.heap.size 23 #[.string (qN pc), .string (qD pc)]) := Lib.hid (allocs_keep [(#[.string (qN r0), .string (qD r0), .string (qN r1), .string (qD r1), .string (qN r2), .string (qD r2), .string (qN r3), .string (qD r3)], 39), (#[.int .i64 z_r0, .int .i64 z_r1, .int .i64 z_r2, .int .i64 z_r3], 40)] _ (C_5.out.below hb C_5.out.lt))
    have HB_6 : Hid (Below w.heap.size w ((v5.alloc (.cells #[.string (qN r0), .string (qD r0), .string (qN r1), .string (qD r1), .string (qN r2), .string (qD r2), .string (qN r3), .string (qD r3)] 39)).alloc (.cells #[.int .i64 z_r0, .int .i64 z_r1, .int .i64 z_r2, .int .i64 z_r3] 40))) := Lib.hid (allocs_below [(#[.string (qN r0), .string (qD r0), .string (qN r1), .string (qD r1), .string (qN r2), .string (qD r2), .string (qN r3), .string (qD r3)], 39), (#[.int .i64 z_r0, .int .i64 z_r1, .int .i64 z_r2, .int .i64 z_r3], 40)] _ (HB_5.out.trans (hb.mono HB_5.out.size)) (HB_5.out.trans (hb.mono HB_5.out.size)).size)
    have R_6 : Hid (Blk ((v5.alloc (.cells #[.string (qN r0), .string (qD r0), .string (qN r1), .string (qD r1), .string (qN r2), .string (qD r2), .string (qN r3), .string (qD r3)] 39)).alloc (.cells #[.int .i64 z_r0, .int .i64 z_r1, .int .i64 z_r2, .int .i64 z_r3] 40)) v5.heap.size 39 #[.string (qN r0), .string (qD r0), .string (qN r1), .string (qD r1), .string (qN r2), .string (qD r2), .string (qN r3), .string (qD r3)]) := Lib.hid (allocs_blk [(#[.string (qN r0), .string (qD r0), .string (qN r1), .string (qD r1), .string (qN r2), .string (qD r2), .string (qN r3), .string (qD r3)], 39), (#[.int .i64 z_r0, .int .i64 z_r1, .int .i64 z_r2, .int .i64 z_r3], 40)] v5 0 _ rfl)
    have E_6 : Hid (Blk ((v5.alloc (.cells #[.string (qN r0), .string (qD r0), .string (qN r1), .string (qD r1), .string (qN r2), .string (qD r2), .string (qN r3), .string (qD r3)] 39)).alloc (.cells #[.int .i64 z_r0, .int .i64 z_r1, .int .i64 z_r2, .int .i64 z_r3] 40)) (v5.heap.size + 1) 40 #[.int .i64 z_r0, .int .i64 z_r1, .int .i64 z_r2, .int .i64 z_r3]) := Lib.hid (allocs_blk [(#[.string (qN r0), .string (qD r0), .string (qN r1), .string (qD r1), .string (qN r2), .string (qD r2), .string (qN r3), .string (qD r3)], 39), (#[.int .i64 z_r0, .int .i64 z_r1, .int .i64 z_r2, .int .i64 z_r3], 40)] v5 1 _ rfl)
    clear hb A_5 B_5 C_5 HB_5
    have hf := fun W => four_O (p := pb) (q := pa) PB.out.gd PA.out.gd W
    rw [show (sumQ (· + ·) pb pa) = r0 from (sumQ_comm _ _).trans E_r0.out.symm] at hf
    obtain ⟨s1, hs1⟩ : ∃ r, r = (sumQ (· - ·) pb pa) := ⟨_, rfl⟩
    rw [← hs1] at hf
    have E_s1 := Lib.hid hs1
    clear hs1
    rw [show (mulQ pb pa) = r2 from (mulQ_comm _ _).trans E_r2.out.symm] at hf
    obtain ⟨s3, hs3⟩ : ∃ r, r = (divQ pb pa) := ⟨_, rfl⟩
    rw [← hs3] at hf
    have E_s3 := Lib.hid hs3
    clear hs3
    obtain ⟨z_s1, hz⟩ : ∃ z, z = qE s1 := ⟨_, rfl⟩
    have Z_s1 := Lib.hid hz
    clear hz
    obtain ⟨z_s3, hz⟩ : ∃ z, z = qE s3 := ⟨_, rfl⟩
    have Z_s3 := Lib.hid hz
    clear hz
    rw [← Z_r0.out] at hf
    rw [← Z_s1.out] at hf
    rw [← Z_r2.out] at hf
    rw [← Z_s3.out] at hf
    have FO2 : Hid (∀ W, Calls Try.prog 20 #[.agg #[.string (qN pb), .string (qD pb)], .agg #[.string (qN pa), .string (qD pa)]] W fun e w' => e = .returned (.tuple #[.agg #[.string (qN r0), .string (qD r0), .string (qN s1), .string (qD s1), .string (qN r2), .string (qD r2), .string (qN s3), .string (qD s3)], .agg #[.int .i64 z_r0, .int .i64 z_s1, .int .i64 z_r2, .int .i64 z_s3]]) ∧ Below W.heap.size W w') := hf
    clear hf
    have y0 := B_6.out.cell (i := 0) (v := .string (qN pb)) rfl; have y1 := B_6.out.cell (i := 1) (v := .string (qD pb)) rfl
    have y2 := A_6.out.cell (i := 0) (v := .string (qN pa)) rfl; have y3 := A_6.out.cell (i := 1) (v := .string (qD pa)) rfl
    go_wp2_with fail
    refine (FO2.out _).mono ?_
    rintro e v6 ⟨rfl, hb⟩
    clear y0 y1 y2 y3
    have A_7 : Hid (Blk ((v6.alloc (.cells #[.string (qN r0), .string (qD r0), .string (qN s1), .string (qD s1), .string (qN r2), .string (qD r2), .string (qN s3), .string (qD s3)] 39)).alloc (.cells #[.int .i64 z_r0, .int .i64 z_s1, .int .i64 z_r2, .int .i64 z_s3] 40)) v1.heap.size 23 #[.string (qN pa), .string (qD pa)]) := Lib.hid (allocs_keep [(#[.string (qN r0), .string (qD r0), .string (qN s1), .string (qD s1), .string (qN r2), .string (qD r2), .string (qN s3), .string (qD s3)], 39), (#[.int .i64 z_r0, .int .i64 z_s1, .int .i64 z_r2, .int .i64 z_s3], 40)] _ (A_6.out.below hb A_6.out.lt))
    have B_7 : Hid (Blk ((v6.alloc (.cells #[.string (qN r0), .string (qD r0), .string (qN s1), .string (qD s1), .string (qN r2), .string (qD r2), .string (qN s3), .string (qD s3)] 39)).alloc (.cells #[.int .i64 z_r0, .int .i64 z_s1, .int .i64 z_r2, .int .i64 z_s3] 40)) v2.heap.size 23 #[.string (qN pb), .string (qD pb)]) := Lib.hid (allocs_keep [(#[.string (qN r0), .string (qD r0), .string (qN s1), .string (qD s1), .string (qN r2), .string (qD r2), .string (qN s3), .string (qD s3)], 39), (#[.int .i64 z_r0, .int .i64 z_s1, .int .i64 z_r2, .int .i64 z_s3], 40)] _ (B_6.out.below hb B_6.out.lt))
    have C_7 : Hid (Blk ((v6.alloc (.cells #[.string (qN r0), .string (qD r0), .string (qN s1), .string (qD s1), .string (qN r2), .string (qD r2), .string (qN s3), .string (qD s3)] 39)).alloc (.cells #[.int .i64 z_r0, .int .i64 z_s1, .int .i64 z_r2, .int .i64 z_s3] 40)) v3.heap.size 23 #[.string (qN pc), .string (qD pc)]) := Lib.hid (allocs_keep [(#[.string (qN r0), .string (qD r0), .string (qN s1), .string (qD s1), .string (qN r2), .string (qD r2), .string (qN s3), .string (qD s3)], 39), (#[.int .i64 z_r0, .int .i64 z_s1, .int .i64 z_r2, .int .i64 z_s3], 40)] _ (C_6.out.below hb C_6.out.lt))
    have R_7 : Hid (Blk ((v6.alloc (.cells #[.string (qN r0), .string (qD r0), .string (qN s1), .string (qD s1), .string (qN r2), .string (qD r2), .string (qN s3), .string (qD s3)] 39)).alloc (.cells #[.int .i64 z_r0, .int .i64 z_s1, .int .i64 z_r2, .int .i64 z_s3] 40)) v5.heap.size 39 #[.string (qN r0), .string (qD r0), .string (qN r1), .string (qD r1), .string (qN r2), .string (qD r2), .string (qN r3), .string (qD r3)]) := Lib.hid (allocs_keep [(#[.string (qN r0), .string (qD r0), .string (qN s1), .string (qD s1), .string (qN r2), .string (qD r2), .string (qN s3), .string (qD s3)], 39), (#[.int .i64 z_r0, .int .i64 z_s1, .int .i64 z_r2, .int .i64 z_s3], 40)] _ (R_6.out.below hb R_6.out.lt))
    have E_7 : Hid (Blk ((v6.alloc (.cells #[.string (qN r0), .string (qD r0), .string (qN s1), .string (qD s1), .string (qN r2), .string (qD r2), .string (qN s3), .string (qD s3)] 39)).alloc (.cells #[.int .i64 z_r0, .int .i64 z_s1, .int .i64 z_r2, .int .i64 z_s3] 40)) (v5.heap.size + 1) 40 #[.int .i64 z_r0, .int .i64 z_r1, .int .i64 z_r2, .int .i64 z_r3]) := Lib.hid (allocs_keep [(#[.string (qN r0), .string (qD r0), .string (qN s1), .string (qD s1), .string (qN r2), .string (qD r2), .string (qN s3), .string (qD s3)], 39), (#[.int .i64 z_r0, .int .i64 z_s1, .int .i64 z_r2, .int .i64 z_s3], 40)] _ (E_6.out.below hb E_6.out.lt))
    have HB_7 : Hid (Below w.heap.size w ((v6.alloc (.cells #[.string (qN r0), .string (qD r0), .string (qN s1), .string (qD s1), .string (qN r2), .string (qD r2), .string (qN s3), .string (qD s3)] 39)).alloc (.cells #[.int .i64 z_r0, .int .i64 z_s1, .int .i64 z_r2, .int .i64 z_s3] 40))) := Lib.hid (allocs_below [(#[.string (qN r0), .string (qD r0), .string (qN s1), .string (qD s1), .string (qN r2), .string (qD r2), .string (qN s3), .string (qD s3)], 39), (#[.int .i64 z_r0, .int .i64 z_s1, .int .i64 z_r2, .int .i64 z_s3], 40)] _ (HB_6.out.trans (hb.mono HB_6.out.size)) (HB_6.out.trans (hb.mono HB_6.out.size)).size)
    have S_7 : Hid (Blk ((v6.alloc (.cells #[.string (qN r0), .string (qD r0), .string (qN s1), .string (qD s1), .string (qN r2), .string (qD r2), .string (qN s3), .string (qD s3)] 39)).alloc (.cells #[.int .i64 z_r0, .int .i64 z_s1, .int .i64 z_r2, .int .i64 z_s3] 40)) v6.heap.size 39 #[.string (qN r0), .string (qD r0), .string (qN s1), .string (qD s1), .string (qN r2), .string (qD r2), .string (qN s3), .string (qD s3)]) := Lib.hid (allocs_blk [(#[.string (qN r0), .string (qD r0), .string (qN s1), .string (qD s1), .string (qN r2), .string (qD r2), .string (qN s3), .string (qD s3)], 39), (#[.int .i64 z_r0, .int .i64 z_s1, .int .i64 z_r2, .int .i64 z_s3], 40)] v6 0 _ rfl)
    have F_7 : Hid (Blk ((v6.alloc (.cells #[.string (qN r0), .string (qD r0), .string (qN s1), .string (qD s1), .string (qN r2), .string (qD r2), .string (qN s3), .string (qD s3)] 39)).alloc (.cells #[.int .i64 z_r0, .int .i64 z_s1, .int .i64 z_r2, .int .i64 z_s3] 40)) (v6.heap.size + 1) 40 #[.int .i64 z_r0, .int .i64 z_s1, .int .i64 z_r2, .int .i64 z_s3]) := Lib.hid (allocs_blk [(#[.string (qN r0), .string (qD r0), .string (qN s1), .string (qD s1), .string (qN r2), .string (qD r2), .string (qN s3), .string (qD s3)], 39), (#[.int .i64 z_r0, .int .i64 z_s1, .int .i64 z_r2, .int .i64 z_s3], 40)] v6 1 _ rfl)
    clear hb A_6 B_6 C_6 R_6 E_6 HB_6
    go_upto_region 10 with fail
    go_cut [108] from 69 to 108 (fun b wx => b = .bool false ∧ ((v6.alloc (.cells #[.string (qN r0), .string (qD r0), .string (qN s1), .string (qD s1), .string (qN r2), .string (qD r2), .string (qN s3), .string (qD s3)] 39)).alloc (.cells #[.int .i64 z_r0, .int .i64 z_s1, .int .i64 z_r2, .int .i64 z_s3] 40)) = wx)
    case first =>
      have y0 := R_7.out.cell (i := 0) (v := .string (qN r0)) rfl; have y1 := R_7.out.cell (i := 1) (v := .string (qD r0)) rfl; have y2 := R_7.out.cell (i := 2) (v := .string (qN r1)) rfl; have y3 := R_7.out.cell (i := 3) (v := .string (qD r1)) rfl; have y4 := R_7.out.cell (i := 4) (v := .string (qN r2)) rfl; have y5 := R_7.out.cell (i := 5) (v := .string (qD r2)) rfl; have y6 := R_7.out.cell (i := 6) (v := .string (qN r3)) rfl; have y7 := R_7.out.cell (i := 7) (v := .string (qD r3)) rfl
      have y8 := S_7.out.cell (i := 0) (v := .string (qN r0)) rfl; have y9 := S_7.out.cell (i := 1) (v := .string (qD r0)) rfl; have y10 := S_7.out.cell (i := 2) (v := .string (qN s1)) rfl; have y11 := S_7.out.cell (i := 3) (v := .string (qD s1)) rfl; have y12 := S_7.out.cell (i := 4) (v := .string (qN r2)) rfl; have y13 := S_7.out.cell (i := 5) (v := .string (qD r2)) rfl; have y14 := S_7.out.cell (i := 6) (v := .string (qN s3)) rfl; have y15 := S_7.out.cell (i := 7) (v := .string (qD s3)) rfl
      have y16 := E_7.out.cell (i := 0) (v := .int .i64 z_r0) rfl; have y17 := E_7.out.cell (i := 1) (v := .int .i64 z_r1) rfl; have y18 := E_7.out.cell (i := 2) (v := .int .i64 z_r2) rfl; have y19 := E_7.out.cell (i := 3) (v := .int .i64 z_r3) rfl
      have y20 := F_7.out.cell (i := 0) (v := .int .i64 z_r0) rfl; have y21 := F_7.out.cell (i := 1) (v := .int .i64 z_s1) rfl; have y22 := F_7.out.cell (i := 2) (v := .int .i64 z_r2) rfl; have y23 := F_7.out.cell (i := 3) (v := .int .i64 z_s3) rfl
      cases lg
      · have e1 : z_r0 = 0 := by rw [Z_r0.out, E_r0.out]; exact (SM.out rfl).1
        have e2 : z_r2 = 0 := by rw [Z_r2.out, E_r2.out]; exact (SM.out rfl).2
        subst e1 e2
        go_wp2_with fail
        go_meet
        exact ⟨rfl, rfl⟩
      · go_wp2_with fail
        go_meet
        exact ⟨rfl, rfl⟩
    case rest =>
      obtain ⟨rfl, rfl⟩ := hcut
      clear SM
      have hf := fun W => four_O (p := pb) (q := pc) PB.out.gd PC.out.gd W
      obtain ⟨t0, ht0⟩ : ∃ r, r = (sumQ (· + ·) pb pc) := ⟨_, rfl⟩
      rw [← ht0] at hf
      have E_t0 := Lib.hid ht0
      clear ht0
      obtain ⟨t1, ht1⟩ : ∃ r, r = (sumQ (· - ·) pb pc) := ⟨_, rfl⟩
      rw [← ht1] at hf
      have E_t1 := Lib.hid ht1
      clear ht1
      obtain ⟨t2, ht2⟩ : ∃ r, r = (mulQ pb pc) := ⟨_, rfl⟩
      rw [← ht2] at hf
      have E_t2 := Lib.hid ht2
      clear ht2
      obtain ⟨t3, ht3⟩ : ∃ r, r = (divQ pb pc) := ⟨_, rfl⟩
      rw [← ht3] at hf
      have E_t3 := Lib.hid ht3
      clear ht3
      obtain ⟨z_t0, hz⟩ : ∃ z, z = qE t0 := ⟨_, rfl⟩
      have Z_t0 := Lib.hid hz
      clear hz
      obtain ⟨z_t1, hz⟩ : ∃ z, z = qE t1 := ⟨_, rfl⟩
      have Z_t1 := Lib.hid hz
      clear hz
      obtain ⟨z_t2, hz⟩ : ∃ z, z = qE t2 := ⟨_, rfl⟩
      have Z_t2 := Lib.hid hz
      clear hz
      obtain ⟨z_t3, hz⟩ : ∃ z, z = qE t3 := ⟨_, rfl⟩
      have Z_t3 := Lib.hid hz
      clear hz
      rw [← Z_t0.out] at hf
      rw [← Z_t1.out] at hf
      rw [← Z_t2.out] at hf
      rw [← Z_t3.out] at hf
      have FO3 : Hid (∀ W, Calls Try.prog 20 #[.agg #[.string (qN pb), .string (qD pb)], .agg #[.string (qN pc), .string (qD pc)]] W fun e w' => e = .returned (.tuple #[.agg #[.string (qN t0), .string (qD t0), .string (qN t1), .string (qD t1), .string (qN t2), .string (qD t2), .string (qN t3), .string (qD t3)], .agg #[.int .i64 z_t0, .int .i64 z_t1, .int .i64 z_t2, .int .i64 z_t3]]) ∧ Below W.heap.size W w') := hf
      clear hf
      have y0 := B_7.out.cell (i := 0) (v := .string (qN pb)) rfl; have y1 := B_7.out.cell (i := 1) (v := .string (qD pb)) rfl
      have y2 := C_7.out.cell (i := 0) (v := .string (qN pc)) rfl; have y3 := C_7.out.cell (i := 1) (v := .string (qD pc)) rfl
      go_wp2_with fail
      refine (FO3.out _).mono ?_
      rintro e v7 ⟨rfl, hb⟩
      clear y0 y1 y2 y3
      have A_8 : Hid (Blk ((v7.alloc (.cells #[.string (qN t0), .string (qD t0), .string (qN t1), .string (qD t1), .string (qN t2), .string (qD t2), .string (qN t3), .string (qD t3)] 39)).alloc (.cells #[.int .i64 z_t0, .int .i64 z_t1, .int .i64 z_t2, .int .i64 z_t3] 40)) v1.heap.size 23 #[.string (qN pa), .string (qD pa)]) := Lib.hid (allocs_keep [(#[.string (qN t0), .string (qD t0), .string (qN t1), .string (qD t1), .string (qN t2), .string (qD t2), .string (qN t3), .string (qD t3)], 39), (#[.int .i64 z_t0, .int .i64 z_t1, .int .i64 z_t2, .int .i64 z_t3], 40)] _ (A_7.out.below hb A_7.out.lt))
      have B_8 : Hid (Blk ((v7.alloc (.cells #[.string (qN t0), .string (qD t0), .string (qN t1), .string (qD t1), .string (qN t2), .string (qD t2), .string (qN t3), .string (qD t3)] 39)).alloc (.cells #[.int .i64 z_t0, .int .i64 z_t1, .int .i64 z_t2, .int .i64 z_t3] 40)) v2.heap.size 23 #[.string (qN pb), .string (qD pb)]) := Lib.hid (allocs_keep [(#[.string (qN t0), .string (qD t0), .string (qN t1), .string (qD t1), .string (qN t2), .string (qD t2), .string (qN t3), .string (qD t3)], 39), (#[.int .i64 z_t0, .int .i64 z_t1, .int .i64 z_t2, .int .i64 z_t3], 40)] _ (B_7.out.below hb B_7.out.lt))
      have C_8 : Hid (Blk ((v7.alloc (.cells #[.string (qN t0), .string (qD t0), .string (qN t1), .string (qD t1), .string (qN t2), .string (qD t2), .string (qN t3), .string (qD t3)] 39)).alloc (.cells #[.int .i64 z_t0, .int .i64 z_t1, .int .i64 z_t2, .int .i64 z_t3] 40)) v3.heap.size 23 #[.string (qN pc), .string (qD pc)]) := Lib.hid (allocs_keep [(#[.string (qN t0), .string (qD t0), .string (qN t1), .string (qD t1), .string (qN t2), .string (qD t2), .string (qN t3), .string (qD t3)], 39), (#[.int .i64 z_t0, .int .i64 z_t1, .int .i64 z_t2, .int .i64 z_t3], 40)] _ (C_7.out.below hb C_7.out.lt))
      have R_8 : Hid (Blk ((v7.alloc (.cells #[.string (qN t0), .string (qD t0), .string (qN t1), .string (qD t1), .string (qN t2), .string (qD t2), .string (qN t3), .string (qD t3)] 39)).alloc (.cells #[.int .i64 z_t0, .int .i64 z_t1, .int .i64 z_t2, .int .i64 z_t3] 40)) v5.heap.size 39 #[.string (qN r0), .string (qD r0), .string (qN r1), .string (qD r1), .string (qN r2), .string (qD r2), .string (qN r3), .string (qD r3)]) := Lib.hid (allocs_keep [(#[.string (qN t0), .string (qD t0), .string (qN t1), .string (qD t1), .string (qN t2), .string (qD t2), .string (qN t3), .string (qD t3)], 39), (#[.int .i64 z_t0, .int .i64 z_t1, .int .i64 z_t2, .int .i64 z_t3], 40)] _ (R_7.out.below hb R_7.out.lt))
      have E_8 : Hid (Blk ((v7.alloc (.cells #[.string (qN t0), .string (qD t0), .string (qN t1), .string (qD t1), .string (qN t2), .string (qD t2), .string (qN t3), .string (qD t3)] 39)).alloc (.cells #[.int .i64 z_t0, .int .i64 z_t1, .int .i64 z_t2, .int .i64 z_t3] 40)) (v5.heap.size + 1) 40 #[.int .i64 z_r0, .int .i64 z_r1, .int .i64 z_r2, .int .i64 z_r3]) := Lib.hid (allocs_keep [(#[.string (qN t0), .string (qD t0), .string (qN t1), .string (qD t1), .string (qN t2), .string (qD t2), .string (qN t3), .string (qD t3)], 39), (#[.int .i64 z_t0, .int .i64 z_t1, .int .i64 z_t2, .int .i64 z_t3], 40)] _ (E_7.out.below hb E_7.out.lt))
      have HB_8 : Hid (Below w.heap.size w ((v7.alloc (.cells #[.string (qN t0), .string (qD t0), .string (qN t1), .string (qD t1), .string (qN t2), .string (qD t2), .string (qN t3), .string (qD t3)] 39)).alloc (.cells #[.int .i64 z_t0, .int .i64 z_t1, .int .i64 z_t2, .int .i64 z_t3] 40))) := Lib.hid (allocs_below [(#[.string (qN t0), .string (qD t0), .string (qN t1), .string (qD t1), .string (qN t2), .string (qD t2), .string (qN t3), .string (qD t3)], 39), (#[.int .i64 z_t0, .int .i64 z_t1, .int .i64 z_t2, .int .i64 z_t3], 40)] _ (HB_7.out.trans (hb.mono HB_7.out.size)) (HB_7.out.trans (hb.mono HB_7.out.size)).size)
      have G_8 : Hid (Blk ((v7.alloc (.cells #[.string (qN t0), .string (qD t0), .string (qN t1), .string (qD t1), .string (qN t2), .string (qD t2), .string (qN t3), .string (qD t3)] 39)).alloc (.cells #[.int .i64 z_t0, .int .i64 z_t1, .int .i64 z_t2, .int .i64 z_t3] 40)) v7.heap.size 39 #[.string (qN t0), .string (qD t0), .string (qN t1), .string (qD t1), .string (qN t2), .string (qD t2), .string (qN t3), .string (qD t3)]) := Lib.hid (allocs_blk [(#[.string (qN t0), .string (qD t0), .string (qN t1), .string (qD t1), .string (qN t2), .string (qD t2), .string (qN t3), .string (qD t3)], 39), (#[.int .i64 z_t0, .int .i64 z_t1, .int .i64 z_t2, .int .i64 z_t3], 40)] v7 0 _ rfl)
      have H_8 : Hid (Blk ((v7.alloc (.cells #[.string (qN t0), .string (qD t0), .string (qN t1), .string (qD t1), .string (qN t2), .string (qD t2), .string (qN t3), .string (qD t3)] 39)).alloc (.cells #[.int .i64 z_t0, .int .i64 z_t1, .int .i64 z_t2, .int .i64 z_t3] 40)) (v7.heap.size + 1) 40 #[.int .i64 z_t0, .int .i64 z_t1, .int .i64 z_t2, .int .i64 z_t3]) := Lib.hid (allocs_blk [(#[.string (qN t0), .string (qD t0), .string (qN t1), .string (qD t1), .string (qN t2), .string (qD t2), .string (qN t3), .string (qD t3)], 39), (#[.int .i64 z_t0, .int .i64 z_t1, .int .i64 z_t2, .int .i64 z_t3], 40)] v7 1 _ rfl)
      clear hb A_7 B_7 C_7 R_7 E_7 S_7 F_7 HB_7
      have g0 : GdO r0 := by rw [E_r0.out]; exact gdO_sum
      have g2 : GdO r2 := by rw [E_r2.out]; exact gdO_mul
      have g3 : GdO r3 := by rw [E_r3.out]; exact gdO_div
      have g4 : GdO t0 := by rw [E_t0.out]; exact gdO_sum
      have g5 : GdO t2 := by rw [E_t2.out]; exact gdO_mul
      have G0 := Lib.hid g0; have G2 := Lib.hid g2; have G3 := Lib.hid g3; have G4 := Lib.hid g4; have G5 := Lib.hid g5
      clear g0 g2 g3 g4 g5
      have hf := fun W => four_O (p := r0) (q := pc) G0.out PC.out.gd W
      obtain ⟨u0, hu0⟩ : ∃ r, r = (sumQ (· + ·) r0 pc) := ⟨_, rfl⟩
      rw [← hu0] at hf
      have E_u0 := Lib.hid hu0
      clear hu0
      obtain ⟨u1, hu1⟩ : ∃ r, r = (sumQ (· - ·) r0 pc) := ⟨_, rfl⟩
      rw [← hu1] at hf
      have E_u1 := Lib.hid hu1
      clear hu1
      obtain ⟨u2, hu2⟩ : ∃ r, r = (mulQ r0 pc) := ⟨_, rfl⟩
      rw [← hu2] at hf
      have E_u2 := Lib.hid hu2
      clear hu2
      obtain ⟨u3, hu3⟩ : ∃ r, r = (divQ r0 pc) := ⟨_, rfl⟩
      rw [← hu3] at hf
      have E_u3 := Lib.hid hu3
      clear hu3
      obtain ⟨z_u0, hz⟩ : ∃ z, z = qE u0 := ⟨_, rfl⟩
      have Z_u0 := Lib.hid hz
      clear hz
      obtain ⟨z_u1, hz⟩ : ∃ z, z = qE u1 := ⟨_, rfl⟩
      have Z_u1 := Lib.hid hz
      clear hz
      obtain ⟨z_u2, hz⟩ : ∃ z, z = qE u2 := ⟨_, rfl⟩
      have Z_u2 := Lib.hid hz
      clear hz
      obtain ⟨z_u3, hz⟩ : ∃ z, z = qE u3 := ⟨_, rfl⟩
      have Z_u3 := Lib.hid hz
      clear hz
      rw [← Z_u0.out] at hf
      rw [← Z_u1.out] at hf
      rw [← Z_u2.out] at hf
      rw [← Z_u3.out] at hf
      have FO4 : Hid (∀ W, Calls Try.prog 20 #[.agg #[.string (qN r0), .string (qD r0)], .agg #[.string (qN pc), .string (qD pc)]] W fun e w' => e = .returned (.tuple #[.agg #[.string (qN u0), .string (qD u0), .string (qN u1), .string (qD u1), .string (qN u2), .string (qD u2), .string (qN u3), .string (qD u3)], .agg #[.int .i64 z_u0, .int .i64 z_u1, .int .i64 z_u2, .int .i64 z_u3]]) ∧ Below W.heap.size W w') := hf
      clear hf
      have y0 := R_8.out.cell (i := 0) (v := .string (qN r0)) rfl; have y1 := R_8.out.cell (i := 1) (v := .string (qD r0)) rfl
      have y2 := C_8.out.cell (i := 0) (v := .string (qN pc)) rfl; have y3 := C_8.out.cell (i := 1) (v := .string (qD pc)) rfl
      go_wp2_with fail
      refine (FO4.out _).mono ?_
      rintro e v8 ⟨rfl, hb⟩
      clear y0 y1 y2 y3
      have A_9 : Hid (Blk ((v8.alloc (.cells #[.string (qN u0), .string (qD u0), .string (qN u1), .string (qD u1), .string (qN u2), .string (qD u2), .string (qN u3), .string (qD u3)] 39)).alloc (.cells #[.int .i64 z_u0, .int .i64 z_u1, .int .i64 z_u2, .int .i64 z_u3] 40)) v1.heap.size 23 #[.string (qN pa), .string (qD pa)]) := Lib.hid (allocs_keep [(#[.string (qN u0), .string (qD u0), .string (qN u1), .string (qD u1), .string (qN u2), .string (qD u2), .string (qN u3), .string (qD u3)], 39), (#[.int .i64 z_u0, .int .i64 z_u1, .int .i64 z_u2, .int .i64 z_u3], 40)] _ (A_8.out.below hb A_8.out.lt))
      have B_9 : Hid (Blk ((v8.alloc (.cells #[.string (qN u0), .string (qD u0), .string (qN u1), .string (qD u1), .string (qN u2), .string (qD u2), .string (qN u3), .string (qD u3)] 39)).alloc (.cells #[.int .i64 z_u0, .int .i64 z_u1, .int .i64 z_u2, .int .i64 z_u3] 40)) v2.heap.size 23 #[.string (qN pb), .string (qD pb)]) := Lib.hid (allocs_keep [(#[.string (qN u0), .string (qD u0), .string (qN u1), .string (qD u1), .string (qN u2), .string (qD u2), .string (qN u3), .string (qD u3)], 39), (#[.int .i64 z_u0, .int .i64 z_u1, .int .i64 z_u2, .int .i64 z_u3], 40)] _ (B_8.out.below hb B_8.out.lt))
      have C_9 : Hid (Blk ((v8.alloc (.cells #[.string (qN u0), .string (qD u0), .string (qN u1), .string (qD u1), .string (qN u2), .string (qD u2), .string (qN u3), .string (qD u3)] 39)).alloc (.cells #[.int .i64 z_u0, .int .i64 z_u1, .int .i64 z_u2, .int .i64 z_u3] 40)) v3.heap.size 23 #[.string (qN pc), .string (qD pc)]) := Lib.hid (allocs_keep [(#[.string (qN u0), .string (qD u0), .string (qN u1), .string (qD u1), .string (qN u2), .string (qD u2), .string (qN u3), .string (qD u3)], 39), (#[.int .i64 z_u0, .int .i64 z_u1, .int .i64 z_u2, .int .i64 z_u3], 40)] _ (C_8.out.below hb C_8.out.lt))
      have R_9 : Hid (Blk ((v8.alloc (.cells #[.string (qN u0), .string (qD u0), .string (qN u1), .string (qD u1), .string (qN u2), .string (qD u2), .string (qN u3), .string (qD u3)] 39)).alloc (.cells #[.int .i64 z_u0, .int .i64 z_u1, .int .i64 z_u2, .int .i64 z_u3] 40)) v5.heap.size 39 #[.string (qN r0), .string (qD r0), .string (qN r1), .string (qD r1), .string (qN r2), .string (qD r2), .string (qN r3), .string (qD r3)]) := Lib.hid (allocs_keep [(#[.string (qN u0), .string (qD u0), .string (qN u1), .string (qD u1), .string (qN u2), .string (qD u2), .string (qN u3), .string (qD u3)], 39), (#[.int .i64 z_u0, .int .i64 z_u1, .int .i64 z_u2, .int .i64 z_u3], 40)] _ (R_8.out.below hb R_8.out.lt))
      have E_9 : Hid (Blk ((v8.alloc (.cells #[.string (qN u0), .string (qD u0), .string (qN u1), .string (qD u1), .string (qN u2), .string (qD u2), .string (qN u3), .string (qD u3)] 39)).alloc (.cells #[.int .i64 z_u0, .int .i64 z_u1, .int .i64 z_u2, .int .i64 z_u3] 40)) (v5.heap.size + 1) 40 #[.int .i64 z_r0, .int .i64 z_r1, .int .i64 z_r2, .int .i64 z_r3]) := Lib.hid (allocs_keep [(#[.string (qN u0), .string (qD u0), .string (qN u1), .string (qD u1), .string (qN u2), .string (qD u2), .string (qN u3), .string (qD u3)], 39), (#[.int .i64 z_u0, .int .i64 z_u1, .int .i64 z_u2, .int .i64 z_u3], 40)] _ (E_8.out.below hb E_8.out.lt))
      have G_9 : Hid (Blk ((v8.alloc (.cells #[.string (qN u0), .string (qD u0), .string (qN u1), .string (qD u1), .string (qN u2), .string (qD u2), .string (qN u3), .string (qD u3)] 39)).alloc (.cells #[.int .i64 z_u0, .int .i64 z_u1, .int .i64 z_u2, .int .i64 z_u3] 40)) v7.heap.size 39 #[.string (qN t0), .string (qD t0), .string (qN t1), .string (qD t1), .string (qN t2), .string (qD t2), .string (qN t3), .string (qD t3)]) := Lib.hid (allocs_keep [(#[.string (qN u0), .string (qD u0), .string (qN u1), .string (qD u1), .string (qN u2), .string (qD u2), .string (qN u3), .string (qD u3)], 39), (#[.int .i64 z_u0, .int .i64 z_u1, .int .i64 z_u2, .int .i64 z_u3], 40)] _ (G_8.out.below hb G_8.out.lt))
      have H_9 : Hid (Blk ((v8.alloc (.cells #[.string (qN u0), .string (qD u0), .string (qN u1), .string (qD u1), .string (qN u2), .string (qD u2), .string (qN u3), .string (qD u3)] 39)).alloc (.cells #[.int .i64 z_u0, .int .i64 z_u1, .int .i64 z_u2, .int .i64 z_u3] 40)) (v7.heap.size + 1) 40 #[.int .i64 z_t0, .int .i64 z_t1, .int .i64 z_t2, .int .i64 z_t3]) := Lib.hid (allocs_keep [(#[.string (qN u0), .string (qD u0), .string (qN u1), .string (qD u1), .string (qN u2), .string (qD u2), .string (qN u3), .string (qD u3)], 39), (#[.int .i64 z_u0, .int .i64 z_u1, .int .i64 z_u2, .int .i64 z_u3], 40)] _ (H_8.out.below hb H_8.out.lt))
      have HB_9 : Hid (Below w.heap.size w ((v8.alloc (.cells #[.string (qN u0), .string (qD u0), .string (qN u1), .string (qD u1), .string (qN u2), .string (qD u2), .string (qN u3), .string (qD u3)] 39)).alloc (.cells #[.int .i64 z_u0, .int .i64 z_u1, .int .i64 z_u2, .int .i64 z_u3] 40))) := Lib.hid (allocs_below [(#[.string (qN u0), .string (qD u0), .string (qN u1), .string (qD u1), .string (qN u2), .string (qD u2), .string (qN u3), .string (qD u3)], 39), (#[.int .i64 z_u0, .int .i64 z_u1, .int .i64 z_u2, .int .i64 z_u3], 40)] _ (HB_8.out.trans (hb.mono HB_8.out.size)) (HB_8.out.trans (hb.mono HB_8.out.size)).size)
      have I_9 : Hid (Blk ((v8.alloc (.cells #[.string (qN u0), .string (qD u0), .string (qN u1), .string (qD u1), .string (qN u2), .string (qD u2), .string (qN u3), .string (qD u3)] 39)).alloc (.cells #[.int .i64 z_u0, .int .i64 z_u1, .int .i64 z_u2, .int .i64 z_u3] 40)) v8.heap.size 39 #[.string (qN u0), .string (qD u0), .string (qN u1), .string (qD u1), .string (qN u2), .string (qD u2), .string (qN u3), .string (qD u3)]) := Lib.hid (allocs_blk [(#[.string (qN u0), .string (qD u0), .string (qN u1), .string (qD u1), .string (qN u2), .string (qD u2), .string (qN u3), .string (qD u3)], 39), (#[.int .i64 z_u0, .int .i64 z_u1, .int .i64 z_u2, .int .i64 z_u3], 40)] v8 0 _ rfl)
      have J_9 : Hid (Blk ((v8.alloc (.cells #[.string (qN u0), .string (qD u0), .string (qN u1), .string (qD u1), .string (qN u2), .string (qD u2), .string (qN u3), .string (qD u3)] 39)).alloc (.cells #[.int .i64 z_u0, .int .i64 z_u1, .int .i64 z_u2, .int .i64 z_u3] 40)) (v8.heap.size + 1) 40 #[.int .i64 z_u0, .int .i64 z_u1, .int .i64 z_u2, .int .i64 z_u3]) := Lib.hid (allocs_blk [(#[.string (qN u0), .string (qD u0), .string (qN u1), .string (qD u1), .string (qN u2), .string (qD u2), .string (qN u3), .string (qD u3)], 39), (#[.int .i64 z_u0, .int .i64 z_u1, .int .i64 z_u2, .int .i64 z_u3], 40)] v8 1 _ rfl)
      clear hb A_8 B_8 C_8 R_8 E_8 G_8 H_8 HB_8
      obtain ⟨x1, hx⟩ : ∃ r, r = sumQ (· + ·) pa t0 := ⟨_, rfl⟩
      have ho := fun W => addO_any (p := pa) (q := t0) PA.out.gd G4.out W
      rw [← hx] at ho
      have E_x1 := Lib.hid hx
      unfold OpO at ho
      obtain ⟨z_x1, hz⟩ : ∃ z, z = qE x1 := ⟨_, rfl⟩
      rw [← hz] at ho
      have Z_x1 := Lib.hid hz
      clear hz
      have OP_x1 : Hid (∀ W, Calls Try.prog 24 #[.agg #[.string (qN pa), .string (qD pa)], .agg #[.string (qN t0), .string (qD t0)]] W fun e w' => e = .returned (.tuple #[.agg #[.string (qN x1), .string (qD x1)], .int .i64 z_x1]) ∧ Below W.heap.size W w') := ho
      clear hx ho
      have y0 := A_9.out.cell (i := 0) (v := .string (qN pa)) rfl; have y1 := A_9.out.cell (i := 1) (v := .string (qD pa)) rfl
      have y2 := G_9.out.cell (i := 0) (v := .string (qN t0)) rfl; have y3 := G_9.out.cell (i := 1) (v := .string (qD t0)) rfl
      go_wp2_with fail
      refine (OP_x1.out _).mono ?_
      rintro e v9 ⟨rfl, hb⟩
      clear y0 y1 y2 y3
      have A_10 : Hid (Blk (v9.alloc (.cells #[.string (qN x1), .string (qD x1)] 23)) v1.heap.size 23 #[.string (qN pa), .string (qD pa)]) := Lib.hid (allocs_keep [(#[.string (qN x1), .string (qD x1)], 23)] _ (A_9.out.below hb A_9.out.lt))
      have B_10 : Hid (Blk (v9.alloc (.cells #[.string (qN x1), .string (qD x1)] 23)) v2.heap.size 23 #[.string (qN pb), .string (qD pb)]) := Lib.hid (allocs_keep [(#[.string (qN x1), .string (qD x1)], 23)] _ (B_9.out.below hb B_9.out.lt))
      have C_10 : Hid (Blk (v9.alloc (.cells #[.string (qN x1), .string (qD x1)] 23)) v3.heap.size 23 #[.string (qN pc), .string (qD pc)]) := Lib.hid (allocs_keep [(#[.string (qN x1), .string (qD x1)], 23)] _ (C_9.out.below hb C_9.out.lt))
      have R_10 : Hid (Blk (v9.alloc (.cells #[.string (qN x1), .string (qD x1)] 23)) v5.heap.size 39 #[.string (qN r0), .string (qD r0), .string (qN r1), .string (qD r1), .string (qN r2), .string (qD r2), .string (qN r3), .string (qD r3)]) := Lib.hid (allocs_keep [(#[.string (qN x1), .string (qD x1)], 23)] _ (R_9.out.below hb R_9.out.lt))
      have E_10 : Hid (Blk (v9.alloc (.cells #[.string (qN x1), .string (qD x1)] 23)) (v5.heap.size + 1) 40 #[.int .i64 z_r0, .int .i64 z_r1, .int .i64 z_r2, .int .i64 z_r3]) := Lib.hid (allocs_keep [(#[.string (qN x1), .string (qD x1)], 23)] _ (E_9.out.below hb E_9.out.lt))
      have G_10 : Hid (Blk (v9.alloc (.cells #[.string (qN x1), .string (qD x1)] 23)) v7.heap.size 39 #[.string (qN t0), .string (qD t0), .string (qN t1), .string (qD t1), .string (qN t2), .string (qD t2), .string (qN t3), .string (qD t3)]) := Lib.hid (allocs_keep [(#[.string (qN x1), .string (qD x1)], 23)] _ (G_9.out.below hb G_9.out.lt))
      have H_10 : Hid (Blk (v9.alloc (.cells #[.string (qN x1), .string (qD x1)] 23)) (v7.heap.size + 1) 40 #[.int .i64 z_t0, .int .i64 z_t1, .int .i64 z_t2, .int .i64 z_t3]) := Lib.hid (allocs_keep [(#[.string (qN x1), .string (qD x1)], 23)] _ (H_9.out.below hb H_9.out.lt))
      have I_10 : Hid (Blk (v9.alloc (.cells #[.string (qN x1), .string (qD x1)] 23)) v8.heap.size 39 #[.string (qN u0), .string (qD u0), .string (qN u1), .string (qD u1), .string (qN u2), .string (qD u2), .string (qN u3), .string (qD u3)]) := Lib.hid (allocs_keep [(#[.string (qN x1), .string (qD x1)], 23)] _ (I_9.out.below hb I_9.out.lt))
      have J_10 : Hid (Blk (v9.alloc (.cells #[.string (qN x1), .string (qD x1)] 23)) (v8.heap.size + 1) 40 #[.int .i64 z_u0, .int .i64 z_u1, .int .i64 z_u2, .int .i64 z_u3]) := Lib.hid (allocs_keep [(#[.string (qN x1), .string (qD x1)], 23)] _ (J_9.out.below hb J_9.out.lt))
      have HB_10 : Hid (Below w.heap.size w (v9.alloc (.cells #[.string (qN x1), .string (qD x1)] 23))) := Lib.hid (allocs_below [(#[.string (qN x1), .string (qD x1)], 23)] _ (HB_9.out.trans (hb.mono HB_9.out.size)) (HB_9.out.trans (hb.mono HB_9.out.size)).size)
      have K_10 : Hid (Blk (v9.alloc (.cells #[.string (qN x1), .string (qD x1)] 23)) v9.heap.size 23 #[.string (qN x1), .string (qD x1)]) := Lib.hid (allocs_blk [(#[.string (qN x1), .string (qD x1)], 23)] v9 0 _ rfl)
      clear hb A_9 B_9 C_9 R_9 E_9 G_9 H_9 I_9 J_9 HB_9
      go_upto_region 15 with fail
      go_cut [151] from 129 to 151 (fun b wx => b = .bool false ∧ (v9.alloc (.cells #[.string (qN x1), .string (qD x1)] 23)) = wx)
      case first =>
        have y0 := E_10.out.cell (i := 0) (v := .int .i64 z_r0) rfl
        have y1 := H_10.out.cell (i := 0) (v := .int .i64 z_t0) rfl
        have y2 := J_10.out.cell (i := 0) (v := .int .i64 z_u0) rfl
        have y3 := I_10.out.cell (i := 0) (v := .string (qN u0)) rfl; have y4 := I_10.out.cell (i := 1) (v := .string (qD u0)) rfl
        have y5 := K_10.out.cell (i := 0) (v := .string (qN x1)) rfl; have y6 := K_10.out.cell (i := 1) (v := .string (qD x1)) rfl
        rcases (show z_r0 = 0 ∨ z_r0 = 40 by rw [Z_r0.out]; exact qE_cases _) with e0 | e0
        case inr =>
          subst e0
          go_wp2_with fail
          go_meet
          exact ⟨rfl, rfl⟩
        subst e0
        rcases (show z_t0 = 0 ∨ z_t0 = 40 by rw [Z_t0.out]; exact qE_cases _) with e1 | e1
        case inr =>
          subst e1
          go_wp2_with fail
          go_meet
          exact ⟨rfl, rfl⟩
        subst e1
        rcases (show z_u0 = 0 ∨ z_u0 = 40 by rw [Z_u0.out]; exact qE_cases _) with e2 | e2
        case inr =>
          subst e2
          go_wp2_with fail
          go_meet
          exact ⟨rfl, rfl⟩
        subst e2
        rcases (show z_x1 = 0 ∨ z_x1 = 40 by rw [Z_x1.out]; exact qE_cases _) with e3 | e3
        case inr =>
          subst e3
          go_wp2_with fail
          go_meet
          exact ⟨rfl, rfl⟩
        subst e3
        have heq : u0 = x1 := assoc_O PA.out PB.out PC.out E_r0.out E_t0.out E_u0.out E_x1.out Z_r0.out.symm Z_t0.out.symm Z_u0.out.symm Z_x1.out.symm
        subst heq
        go_wp2_with fail
        go_meet
        exact ⟨rfl, rfl⟩
      case rest =>
        obtain ⟨rfl, rfl⟩ := hcut
        obtain ⟨x2, hx⟩ : ∃ r, r = mulQ pa t2 := ⟨_, rfl⟩
        have ho := fun W => mulO_any (p := pa) (q := t2) PA.out.gd G5.out W
        rw [← hx] at ho
        have E_x2 := Lib.hid hx
        unfold OpO at ho
        obtain ⟨z_x2, hz⟩ : ∃ z, z = qE x2 := ⟨_, rfl⟩
        rw [← hz] at ho
        have Z_x2 := Lib.hid hz
        clear hz
        have OP_x2 : Hid (∀ W, Calls Try.prog 25 #[.agg #[.string (qN pa), .string (qD pa)], .agg #[.string (qN t2), .string (qD t2)]] W fun e w' => e = .returned (.tuple #[.agg #[.string (qN x2), .string (qD x2)], .int .i64 z_x2]) ∧ Below W.heap.size W w') := ho
        clear hx ho
        have y0 := A_10.out.cell (i := 0) (v := .string (qN pa)) rfl; have y1 := A_10.out.cell (i := 1) (v := .string (qD pa)) rfl
        have y2 := G_10.out.cell (i := 4) (v := .string (qN t2)) rfl; have y3 := G_10.out.cell (i := 5) (v := .string (qD t2)) rfl
        go_wp2_with fail
        refine (OP_x2.out _).mono ?_
        rintro e v10 ⟨rfl, hb⟩
        clear y0 y1 y2 y3
        have A_11 : Hid (Blk (v10.alloc (.cells #[.string (qN x2), .string (qD x2)] 23)) v1.heap.size 23 #[.string (qN pa), .string (qD pa)]) := Lib.hid (allocs_keep [(#[.string (qN x2), .string (qD x2)], 23)] _ (A_10.out.below hb A_10.out.lt))
        have B_11 : Hid (Blk (v10.alloc (.cells #[.string (qN x2), .string (qD x2)] 23)) v2.heap.size 23 #[.string (qN pb), .string (qD pb)]) := Lib.hid (allocs_keep [(#[.string (qN x2), .string (qD x2)], 23)] _ (B_10.out.below hb B_10.out.lt))
        have C_11 : Hid (Blk (v10.alloc (.cells #[.string (qN x2), .string (qD x2)] 23)) v3.heap.size 23 #[.string (qN pc), .string (qD pc)]) := Lib.hid (allocs_keep [(#[.string (qN x2), .string (qD x2)], 23)] _ (C_10.out.below hb C_10.out.lt))
        have R_11 : Hid (Blk (v10.alloc (.cells #[.string (qN x2), .string (qD x2)] 23)) v5.heap.size 39 #[.string (qN r0), .string (qD r0), .string (qN r1), .string (qD r1), .string (qN r2), .string (qD r2), .string (qN r3), .string (qD r3)]) := Lib.hid (allocs_keep [(#[.string (qN x2), .string (qD x2)], 23)] _ (R_10.out.below hb R_10.out.lt))
        have E_11 : Hid (Blk (v10.alloc (.cells #[.string (qN x2), .string (qD x2)] 23)) (v5.heap.size + 1) 40 #[.int .i64 z_r0, .int .i64 z_r1, .int .i64 z_r2, .int .i64 z_r3]) := Lib.hid (allocs_keep [(#[.string (qN x2), .string (qD x2)], 23)] _ (E_10.out.below hb E_10.out.lt))
        have G_11 : Hid (Blk (v10.alloc (.cells #[.string (qN x2), .string (qD x2)] 23)) v7.heap.size 39 #[.string (qN t0), .string (qD t0), .string (qN t1), .string (qD t1), .string (qN t2), .string (qD t2), .string (qN t3), .string (qD t3)]) := Lib.hid (allocs_keep [(#[.string (qN x2), .string (qD x2)], 23)] _ (G_10.out.below hb G_10.out.lt))
        have H_11 : Hid (Blk (v10.alloc (.cells #[.string (qN x2), .string (qD x2)] 23)) (v7.heap.size + 1) 40 #[.int .i64 z_t0, .int .i64 z_t1, .int .i64 z_t2, .int .i64 z_t3]) := Lib.hid (allocs_keep [(#[.string (qN x2), .string (qD x2)], 23)] _ (H_10.out.below hb H_10.out.lt))
        have HB_11 : Hid (Below w.heap.size w (v10.alloc (.cells #[.string (qN x2), .string (qD x2)] 23))) := Lib.hid (allocs_below [(#[.string (qN x2), .string (qD x2)], 23)] _ (HB_10.out.trans (hb.mono HB_10.out.size)) (HB_10.out.trans (hb.mono HB_10.out.size)).size)
        have L_11 : Hid (Blk (v10.alloc (.cells #[.string (qN x2), .string (qD x2)] 23)) v10.heap.size 23 #[.string (qN x2), .string (qD x2)]) := Lib.hid (allocs_blk [(#[.string (qN x2), .string (qD x2)], 23)] v10 0 _ rfl)
        clear hb A_10 B_10 C_10 R_10 E_10 G_10 H_10 I_10 J_10 K_10 HB_10
        obtain ⟨x3, hx⟩ : ∃ r, r = mulQ r2 pc := ⟨_, rfl⟩
        have ho := fun W => mulO_any (p := r2) (q := pc) G2.out PC.out.gd W
        rw [← hx] at ho
        have E_x3 := Lib.hid hx
        unfold OpO at ho
        obtain ⟨z_x3, hz⟩ : ∃ z, z = qE x3 := ⟨_, rfl⟩
        rw [← hz] at ho
        have Z_x3 := Lib.hid hz
        clear hz
        have OP_x3 : Hid (∀ W, Calls Try.prog 25 #[.agg #[.string (qN r2), .string (qD r2)], .agg #[.string (qN pc), .string (qD pc)]] W fun e w' => e = .returned (.tuple #[.agg #[.string (qN x3), .string (qD x3)], .int .i64 z_x3]) ∧ Below W.heap.size W w') := ho
        clear hx ho
        have y0 := R_11.out.cell (i := 4) (v := .string (qN r2)) rfl; have y1 := R_11.out.cell (i := 5) (v := .string (qD r2)) rfl
        have y2 := C_11.out.cell (i := 0) (v := .string (qN pc)) rfl; have y3 := C_11.out.cell (i := 1) (v := .string (qD pc)) rfl
        go_wp2_with fail
        refine (OP_x3.out _).mono ?_
        rintro e v11 ⟨rfl, hb⟩
        clear y0 y1 y2 y3
        have A_12 : Hid (Blk (v11.alloc (.cells #[.string (qN x3), .string (qD x3)] 23)) v1.heap.size 23 #[.string (qN pa), .string (qD pa)]) := Lib.hid (allocs_keep [(#[.string (qN x3), .string (qD x3)], 23)] _ (A_11.out.below hb A_11.out.lt))
        have B_12 : Hid (Blk (v11.alloc (.cells #[.string (qN x3), .string (qD x3)] 23)) v2.heap.size 23 #[.string (qN pb), .string (qD pb)]) := Lib.hid (allocs_keep [(#[.string (qN x3), .string (qD x3)], 23)] _ (B_11.out.below hb B_11.out.lt))
        have C_12 : Hid (Blk (v11.alloc (.cells #[.string (qN x3), .string (qD x3)] 23)) v3.heap.size 23 #[.string (qN pc), .string (qD pc)]) := Lib.hid (allocs_keep [(#[.string (qN x3), .string (qD x3)], 23)] _ (C_11.out.below hb C_11.out.lt))
        have R_12 : Hid (Blk (v11.alloc (.cells #[.string (qN x3), .string (qD x3)] 23)) v5.heap.size 39 #[.string (qN r0), .string (qD r0), .string (qN r1), .string (qD r1), .string (qN r2), .string (qD r2), .string (qN r3), .string (qD r3)]) := Lib.hid (allocs_keep [(#[.string (qN x3), .string (qD x3)], 23)] _ (R_11.out.below hb R_11.out.lt))
        have E_12 : Hid (Blk (v11.alloc (.cells #[.string (qN x3), .string (qD x3)] 23)) (v5.heap.size + 1) 40 #[.int .i64 z_r0, .int .i64 z_r1, .int .i64 z_r2, .int .i64 z_r3]) := Lib.hid (allocs_keep [(#[.string (qN x3), .string (qD x3)], 23)] _ (E_11.out.below hb E_11.out.lt))
        have G_12 : Hid (Blk (v11.alloc (.cells #[.string (qN x3), .string (qD x3)] 23)) v7.heap.size 39 #[.string (qN t0), .string (qD t0), .string (qN t1), .string (qD t1), .string (qN t2), .string (qD t2), .string (qN t3), .string (qD t3)]) := Lib.hid (allocs_keep [(#[.string (qN x3), .string (qD x3)], 23)] _ (G_11.out.below hb G_11.out.lt))
        have H_12 : Hid (Blk (v11.alloc (.cells #[.string (qN x3), .string (qD x3)] 23)) (v7.heap.size + 1) 40 #[.int .i64 z_t0, .int .i64 z_t1, .int .i64 z_t2, .int .i64 z_t3]) := Lib.hid (allocs_keep [(#[.string (qN x3), .string (qD x3)], 23)] _ (H_11.out.below hb H_11.out.lt))
        have L_12 : Hid (Blk (v11.alloc (.cells #[.string (qN x3), .string (qD x3)] 23)) v10.heap.size 23 #[.string (qN x2), .string (qD x2)]) := Lib.hid (allocs_keep [(#[.string (qN x3), .string (qD x3)], 23)] _ (L_11.out.below hb L_11.out.lt))
        have HB_12 : Hid (Below w.heap.size w (v11.alloc (.cells #[.string (qN x3), .string (qD x3)] 23))) := Lib.hid (allocs_below [(#[.string (qN x3), .string (qD x3)], 23)] _ (HB_11.out.trans (hb.mono HB_11.out.size)) (HB_11.out.trans (hb.mono HB_11.out.size)).size)
        have M_12 : Hid (Blk (v11.alloc (.cells #[.string (qN x3), .string (qD x3)] 23)) v11.heap.size 23 #[.string (qN x3), .string (qD x3)]) := Lib.hid (allocs_blk [(#[.string (qN x3), .string (qD x3)], 23)] v11 0 _ rfl)
        clear hb A_11 B_11 C_11 R_11 E_11 G_11 H_11 L_11 HB_11
        go_upto_region 19 with fail
        go_cut [186] from 166 to 186 (fun b wx => b = .bool false ∧ (v11.alloc (.cells #[.string (qN x3), .string (qD x3)] 23)) = wx)
        case first =>
          have y0 := E_12.out.cell (i := 2) (v := .int .i64 z_r2) rfl
          have y1 := H_12.out.cell (i := 2) (v := .int .i64 z_t2) rfl
          have y2 := L_12.out.cell (i := 0) (v := .string (qN x2)) rfl; have y3 := L_12.out.cell (i := 1) (v := .string (qD x2)) rfl
          have y4 := M_12.out.cell (i := 0) (v := .string (qN x3)) rfl; have y5 := M_12.out.cell (i := 1) (v := .string (qD x3)) rfl
          rcases (show z_r2 = 0 ∨ z_r2 = 40 by rw [Z_r2.out]; exact qE_cases _) with e0 | e0
          case inr =>
            subst e0
            go_wp2_with fail
            go_meet
            exact ⟨rfl, rfl⟩
          subst e0
          rcases (show z_t2 = 0 ∨ z_t2 = 40 by rw [Z_t2.out]; exact qE_cases _) with e1 | e1
          case inr =>
            subst e1
            go_wp2_with fail
            go_meet
            exact ⟨rfl, rfl⟩
          subst e1
          rcases (show z_x2 = 0 ∨ z_x2 = 40 by rw [Z_x2.out]; exact qE_cases _) with e2 | e2
          case inr =>
            subst e2
            go_wp2_with fail
            go_meet
            exact ⟨rfl, rfl⟩
          subst e2
          rcases (show z_x3 = 0 ∨ z_x3 = 40 by rw [Z_x3.out]; exact qE_cases _) with e3 | e3
          case inr =>
            subst e3
            go_wp2_with fail
            go_meet
            exact ⟨rfl, rfl⟩
          subst e3
          have heq : x2 = x3 := massoc_O PA.out PB.out PC.out E_r2.out E_t2.out E_x2.out E_x3.out Z_r2.out.symm Z_t2.out.symm Z_x2.out.symm Z_x3.out.symm
          subst heq
          go_wp2_with fail
          go_meet
          exact ⟨rfl, rfl⟩
        case rest =>
          obtain ⟨rfl, rfl⟩ := hcut
          obtain ⟨x4, hx⟩ : ∃ r, r = mulQ pa pc := ⟨_, rfl⟩
          have ho := fun W => mulO_any (p := pa) (q := pc) PA.out.gd PC.out.gd W
          rw [← hx] at ho
          have E_x4 := Lib.hid hx
          unfold OpO at ho
          obtain ⟨z_x4, hz⟩ : ∃ z, z = qE x4 := ⟨_, rfl⟩
          rw [← hz] at ho
          have Z_x4 := Lib.hid hz
          clear hz
          have OP_x4 : Hid (∀ W, Calls Try.prog 25 #[.agg #[.string (qN pa), .string (qD pa)], .agg #[.string (qN pc), .string (qD pc)]] W fun e w' => e = .returned (.tuple #[.agg #[.string (qN x4), .string (qD x4)], .int .i64 z_x4]) ∧ Below W.heap.size W w') := ho
          clear hx ho
          have y0 := A_12.out.cell (i := 0) (v := .string (qN pa)) rfl; have y1 := A_12.out.cell (i := 1) (v := .string (qD pa)) rfl
          have y2 := C_12.out.cell (i := 0) (v := .string (qN pc)) rfl; have y3 := C_12.out.cell (i := 1) (v := .string (qD pc)) rfl
          go_wp2_with fail
          refine (OP_x4.out _).mono ?_
          rintro e v12 ⟨rfl, hb⟩
          clear y0 y1 y2 y3
          have A_13 : Hid (Blk (v12.alloc (.cells #[.string (qN x4), .string (qD x4)] 23)) v1.heap.size 23 #[.string (qN pa), .string (qD pa)]) := Lib.hid (allocs_keep [(#[.string (qN x4), .string (qD x4)], 23)] _ (A_12.out.below hb A_12.out.lt))
          have B_13 : Hid (Blk (v12.alloc (.cells #[.string (qN x4), .string (qD x4)] 23)) v2.heap.size 23 #[.string (qN pb), .string (qD pb)]) := Lib.hid (allocs_keep [(#[.string (qN x4), .string (qD x4)], 23)] _ (B_12.out.below hb B_12.out.lt))
          have C_13 : Hid (Blk (v12.alloc (.cells #[.string (qN x4), .string (qD x4)] 23)) v3.heap.size 23 #[.string (qN pc), .string (qD pc)]) := Lib.hid (allocs_keep [(#[.string (qN x4), .string (qD x4)], 23)] _ (C_12.out.below hb C_12.out.lt))
          have R_13 : Hid (Blk (v12.alloc (.cells #[.string (qN x4), .string (qD x4)] 23)) v5.heap.size 39 #[.string (qN r0), .string (qD r0), .string (qN r1), .string (qD r1), .string (qN r2), .string (qD r2), .string (qN r3), .string (qD r3)]) := Lib.hid (allocs_keep [(#[.string (qN x4), .string (qD x4)], 23)] _ (R_12.out.below hb R_12.out.lt))
          have E_13 : Hid (Blk (v12.alloc (.cells #[.string (qN x4), .string (qD x4)] 23)) (v5.heap.size + 1) 40 #[.int .i64 z_r0, .int .i64 z_r1, .int .i64 z_r2, .int .i64 z_r3]) := Lib.hid (allocs_keep [(#[.string (qN x4), .string (qD x4)], 23)] _ (E_12.out.below hb E_12.out.lt))
          have G_13 : Hid (Blk (v12.alloc (.cells #[.string (qN x4), .string (qD x4)] 23)) v7.heap.size 39 #[.string (qN t0), .string (qD t0), .string (qN t1), .string (qD t1), .string (qN t2), .string (qD t2), .string (qN t3), .string (qD t3)]) := Lib.hid (allocs_keep [(#[.string (qN x4), .string (qD x4)], 23)] _ (G_12.out.below hb G_12.out.lt))
          have H_13 : Hid (Blk (v12.alloc (.cells #[.string (qN x4), .string (qD x4)] 23)) (v7.heap.size + 1) 40 #[.int .i64 z_t0, .int .i64 z_t1, .int .i64 z_t2, .int .i64 z_t3]) := Lib.hid (allocs_keep [(#[.string (qN x4), .string (qD x4)], 23)] _ (H_12.out.below hb H_12.out.lt))
          have HB_13 : Hid (Below w.heap.size w (v12.alloc (.cells #[.string (qN x4), .string (qD x4)] 23))) := Lib.hid (allocs_below [(#[.string (qN x4), .string (qD x4)], 23)] _ (HB_12.out.trans (hb.mono HB_12.out.size)) (HB_12.out.trans (hb.mono HB_12.out.size)).size)
          have N_13 : Hid (Blk (v12.alloc (.cells #[.string (qN x4), .string (qD x4)] 23)) v12.heap.size 23 #[.string (qN x4), .string (qD x4)]) := Lib.hid (allocs_blk [(#[.string (qN x4), .string (qD x4)], 23)] v12 0 _ rfl)
          clear hb A_12 B_12 C_12 R_12 E_12 G_12 H_12 L_12 M_12 HB_12
          have g4 : GdO x4 := by rw [E_x4.out]; exact gdO_mul
          have G6 := Lib.hid g4; clear g4
          obtain ⟨x5, hx⟩ : ∃ r, r = sumQ (· + ·) x4 t2 := ⟨_, rfl⟩
          have ho := fun W => addO_any (p := x4) (q := t2) G6.out G5.out W
          rw [← hx] at ho
          have E_x5 := Lib.hid hx
          unfold OpO at ho
          obtain ⟨z_x5, hz⟩ : ∃ z, z = qE x5 := ⟨_, rfl⟩
          rw [← hz] at ho
          have Z_x5 := Lib.hid hz
          clear hz
          have OP_x5 : Hid (∀ W, Calls Try.prog 24 #[.agg #[.string (qN x4), .string (qD x4)], .agg #[.string (qN t2), .string (qD t2)]] W fun e w' => e = .returned (.tuple #[.agg #[.string (qN x5), .string (qD x5)], .int .i64 z_x5]) ∧ Below W.heap.size W w') := ho
          clear hx ho
          have y0 := N_13.out.cell (i := 0) (v := .string (qN x4)) rfl; have y1 := N_13.out.cell (i := 1) (v := .string (qD x4)) rfl
          have y2 := G_13.out.cell (i := 4) (v := .string (qN t2)) rfl; have y3 := G_13.out.cell (i := 5) (v := .string (qD t2)) rfl
          go_wp2_with fail
          refine (OP_x5.out _).mono ?_
          rintro e v13 ⟨rfl, hb⟩
          clear y0 y1 y2 y3
          have A_14 : Hid (Blk (v13.alloc (.cells #[.string (qN x5), .string (qD x5)] 23)) v1.heap.size 23 #[.string (qN pa), .string (qD pa)]) := Lib.hid (allocs_keep [(#[.string (qN x5), .string (qD x5)], 23)] _ (A_13.out.below hb A_13.out.lt))
          have B_14 : Hid (Blk (v13.alloc (.cells #[.string (qN x5), .string (qD x5)] 23)) v2.heap.size 23 #[.string (qN pb), .string (qD pb)]) := Lib.hid (allocs_keep [(#[.string (qN x5), .string (qD x5)], 23)] _ (B_13.out.below hb B_13.out.lt))
          have C_14 : Hid (Blk (v13.alloc (.cells #[.string (qN x5), .string (qD x5)] 23)) v3.heap.size 23 #[.string (qN pc), .string (qD pc)]) := Lib.hid (allocs_keep [(#[.string (qN x5), .string (qD x5)], 23)] _ (C_13.out.below hb C_13.out.lt))
          have R_14 : Hid (Blk (v13.alloc (.cells #[.string (qN x5), .string (qD x5)] 23)) v5.heap.size 39 #[.string (qN r0), .string (qD r0), .string (qN r1), .string (qD r1), .string (qN r2), .string (qD r2), .string (qN r3), .string (qD r3)]) := Lib.hid (allocs_keep [(#[.string (qN x5), .string (qD x5)], 23)] _ (R_13.out.below hb R_13.out.lt))
          have E_14 : Hid (Blk (v13.alloc (.cells #[.string (qN x5), .string (qD x5)] 23)) (v5.heap.size + 1) 40 #[.int .i64 z_r0, .int .i64 z_r1, .int .i64 z_r2, .int .i64 z_r3]) := Lib.hid (allocs_keep [(#[.string (qN x5), .string (qD x5)], 23)] _ (E_13.out.below hb E_13.out.lt))
          have G_14 : Hid (Blk (v13.alloc (.cells #[.string (qN x5), .string (qD x5)] 23)) v7.heap.size 39 #[.string (qN t0), .string (qD t0), .string (qN t1), .string (qD t1), .string (qN t2), .string (qD t2), .string (qN t3), .string (qD t3)]) := Lib.hid (allocs_keep [(#[.string (qN x5), .string (qD x5)], 23)] _ (G_13.out.below hb G_13.out.lt))
          have H_14 : Hid (Blk (v13.alloc (.cells #[.string (qN x5), .string (qD x5)] 23)) (v7.heap.size + 1) 40 #[.int .i64 z_t0, .int .i64 z_t1, .int .i64 z_t2, .int .i64 z_t3]) := Lib.hid (allocs_keep [(#[.string (qN x5), .string (qD x5)], 23)] _ (H_13.out.below hb H_13.out.lt))
          have N_14 : Hid (Blk (v13.alloc (.cells #[.string (qN x5), .string (qD x5)] 23)) v12.heap.size 23 #[.string (qN x4), .string (qD x4)]) := Lib.hid (allocs_keep [(#[.string (qN x5), .string (qD x5)], 23)] _ (N_13.out.below hb N_13.out.lt))
          have HB_14 : Hid (Below w.heap.size w (v13.alloc (.cells #[.string (qN x5), .string (qD x5)] 23))) := Lib.hid (allocs_below [(#[.string (qN x5), .string (qD x5)], 23)] _ (HB_13.out.trans (hb.mono HB_13.out.size)) (HB_13.out.trans (hb.mono HB_13.out.size)).size)
          have O_14 : Hid (Blk (v13.alloc (.cells #[.string (qN x5), .string (qD x5)] 23)) v13.heap.size 23 #[.string (qN x5), .string (qD x5)]) := Lib.hid (allocs_blk [(#[.string (qN x5), .string (qD x5)], 23)] v13 0 _ rfl)
          clear hb A_13 B_13 C_13 R_13 E_13 G_13 H_13 N_13 HB_13
          obtain ⟨x6, hx⟩ : ∃ r, r = mulQ r0 pc := ⟨_, rfl⟩
          have ho := fun W => mulO_any (p := r0) (q := pc) G0.out PC.out.gd W
          rw [← hx] at ho
          have E_x6 := Lib.hid hx
          unfold OpO at ho
          obtain ⟨z_x6, hz⟩ : ∃ z, z = qE x6 := ⟨_, rfl⟩
          rw [← hz] at ho
          have Z_x6 := Lib.hid hz
          clear hz
          have OP_x6 : Hid (∀ W, Calls Try.prog 25 #[.agg #[.string (qN r0), .string (qD r0)], .agg #[.string (qN pc), .string (qD pc)]] W fun e w' => e = .returned (.tuple #[.agg #[.string (qN x6), .string (qD x6)], .int .i64 z_x6]) ∧ Below W.heap.size W w') := ho
          clear hx ho
          have y0 := R_14.out.cell (i := 0) (v := .string (qN r0)) rfl; have y1 := R_14.out.cell (i := 1) (v := .string (qD r0)) rfl
          have y2 := C_14.out.cell (i := 0) (v := .string (qN pc)) rfl; have y3 := C_14.out.cell (i := 1) (v := .string (qD pc)) rfl
          go_wp2_with fail
          refine (OP_x6.out _).mono ?_
          rintro e v14 ⟨rfl, hb⟩
          clear y0 y1 y2 y3
          have A_15 : Hid (Blk (v14.alloc (.cells #[.string (qN x6), .string (qD x6)] 23)) v1.heap.size 23 #[.string (qN pa), .string (qD pa)]) := Lib.hid (allocs_keep [(#[.string (qN x6), .string (qD x6)], 23)] _ (A_14.out.below hb A_14.out.lt))
          have B_15 : Hid (Blk (v14.alloc (.cells #[.string (qN x6), .string (qD x6)] 23)) v2.heap.size 23 #[.string (qN pb), .string (qD pb)]) := Lib.hid (allocs_keep [(#[.string (qN x6), .string (qD x6)], 23)] _ (B_14.out.below hb B_14.out.lt))
          have C_15 : Hid (Blk (v14.alloc (.cells #[.string (qN x6), .string (qD x6)] 23)) v3.heap.size 23 #[.string (qN pc), .string (qD pc)]) := Lib.hid (allocs_keep [(#[.string (qN x6), .string (qD x6)], 23)] _ (C_14.out.below hb C_14.out.lt))
          have R_15 : Hid (Blk (v14.alloc (.cells #[.string (qN x6), .string (qD x6)] 23)) v5.heap.size 39 #[.string (qN r0), .string (qD r0), .string (qN r1), .string (qD r1), .string (qN r2), .string (qD r2), .string (qN r3), .string (qD r3)]) := Lib.hid (allocs_keep [(#[.string (qN x6), .string (qD x6)], 23)] _ (R_14.out.below hb R_14.out.lt))
          have E_15 : Hid (Blk (v14.alloc (.cells #[.string (qN x6), .string (qD x6)] 23)) (v5.heap.size + 1) 40 #[.int .i64 z_r0, .int .i64 z_r1, .int .i64 z_r2, .int .i64 z_r3]) := Lib.hid (allocs_keep [(#[.string (qN x6), .string (qD x6)], 23)] _ (E_14.out.below hb E_14.out.lt))
          have G_15 : Hid (Blk (v14.alloc (.cells #[.string (qN x6), .string (qD x6)] 23)) v7.heap.size 39 #[.string (qN t0), .string (qD t0), .string (qN t1), .string (qD t1), .string (qN t2), .string (qD t2), .string (qN t3), .string (qD t3)]) := Lib.hid (allocs_keep [(#[.string (qN x6), .string (qD x6)], 23)] _ (G_14.out.below hb G_14.out.lt))
          have H_15 : Hid (Blk (v14.alloc (.cells #[.string (qN x6), .string (qD x6)] 23)) (v7.heap.size + 1) 40 #[.int .i64 z_t0, .int .i64 z_t1, .int .i64 z_t2, .int .i64 z_t3]) := Lib.hid (allocs_keep [(#[.string (qN x6), .string (qD x6)], 23)] _ (H_14.out.below hb H_14.out.lt))
          have N_15 : Hid (Blk (v14.alloc (.cells #[.string (qN x6), .string (qD x6)] 23)) v12.heap.size 23 #[.string (qN x4), .string (qD x4)]) := Lib.hid (allocs_keep [(#[.string (qN x6), .string (qD x6)], 23)] _ (N_14.out.below hb N_14.out.lt))
          have O_15 : Hid (Blk (v14.alloc (.cells #[.string (qN x6), .string (qD x6)] 23)) v13.heap.size 23 #[.string (qN x5), .string (qD x5)]) := Lib.hid (allocs_keep [(#[.string (qN x6), .string (qD x6)], 23)] _ (O_14.out.below hb O_14.out.lt))
          have HB_15 : Hid (Below w.heap.size w (v14.alloc (.cells #[.string (qN x6), .string (qD x6)] 23))) := Lib.hid (allocs_below [(#[.string (qN x6), .string (qD x6)], 23)] _ (HB_14.out.trans (hb.mono HB_14.out.size)) (HB_14.out.trans (hb.mono HB_14.out.size)).size)
          have P_15 : Hid (Blk (v14.alloc (.cells #[.string (qN x6), .string (qD x6)] 23)) v14.heap.size 23 #[.string (qN x6), .string (qD x6)]) := Lib.hid (allocs_blk [(#[.string (qN x6), .string (qD x6)], 23)] v14 0 _ rfl)
          clear hb A_14 B_14 C_14 R_14 E_14 G_14 H_14 N_14 O_14 HB_14
          go_upto_region 24 with fail
          go_cut [231] from 207 to 231 (fun b wx => b = .bool false ∧ (v14.alloc (.cells #[.string (qN x6), .string (qD x6)] 23)) = wx)
          case first =>
            have y0 := E_15.out.cell (i := 0) (v := .int .i64 z_r0) rfl
            have y1 := H_15.out.cell (i := 2) (v := .int .i64 z_t2) rfl
            have y2 := O_15.out.cell (i := 0) (v := .string (qN x5)) rfl; have y3 := O_15.out.cell (i := 1) (v := .string (qD x5)) rfl
            have y4 := P_15.out.cell (i := 0) (v := .string (qN x6)) rfl; have y5 := P_15.out.cell (i := 1) (v := .string (qD x6)) rfl
            rcases (show z_r0 = 0 ∨ z_r0 = 40 by rw [Z_r0.out]; exact qE_cases _) with e0 | e0
            case inr =>
              subst e0
              go_wp2_with fail
              go_meet
              exact ⟨rfl, rfl⟩
            subst e0
            rcases (show z_x4 = 0 ∨ z_x4 = 40 by rw [Z_x4.out]; exact qE_cases _) with e1 | e1
            case inr =>
              subst e1
              go_wp2_with fail
              go_meet
              exact ⟨rfl, rfl⟩
            subst e1
            rcases (show z_t2 = 0 ∨ z_t2 = 40 by rw [Z_t2.out]; exact qE_cases _) with e2 | e2
            case inr =>
              subst e2
              go_wp2_with fail
              go_meet
              exact ⟨rfl, rfl⟩
            subst e2
            rcases (show z_x5 = 0 ∨ z_x5 = 40 by rw [Z_x5.out]; exact qE_cases _) with e3 | e3
            case inr =>
              subst e3
              go_wp2_with fail
              go_meet
              exact ⟨rfl, rfl⟩
            subst e3
            rcases (show z_x6 = 0 ∨ z_x6 = 40 by rw [Z_x6.out]; exact qE_cases _) with e4 | e4
            case inr =>
              subst e4
              go_wp2_with fail
              go_meet
              exact ⟨rfl, rfl⟩
            subst e4
            have heq : x5 = x6 := dist_O PA.out PB.out PC.out E_r0.out E_x4.out E_t2.out E_x5.out E_x6.out Z_r0.out.symm Z_x4.out.symm Z_t2.out.symm Z_x5.out.symm Z_x6.out.symm
            subst heq
            go_wp2_with fail
            go_meet
            exact ⟨rfl, rfl⟩
          case rest =>
            obtain ⟨rfl, rfl⟩ := hcut
            obtain ⟨x7, hx⟩ : ∃ r, r = sumQ (· - ·) r0 pb := ⟨_, rfl⟩
            have ho := fun W => subO_any (p := r0) (q := pb) G0.out PB.out.gd W
            rw [← hx] at ho
            have E_x7 := Lib.hid hx
            unfold OpO at ho
            obtain ⟨z_x7, hz⟩ : ∃ z, z = qE x7 := ⟨_, rfl⟩
            rw [← hz] at ho
            have Z_x7 := Lib.hid hz
            clear hz
            have OP_x7 : Hid (∀ W, Calls Try.prog 26 #[.agg #[.string (qN r0), .string (qD r0)], .agg #[.string (qN pb), .string (qD pb)]] W fun e w' => e = .returned (.tuple #[.agg #[.string (qN x7), .string (qD x7)], .int .i64 z_x7]) ∧ Below W.heap.size W w') := ho
            clear hx ho
            have y0 := R_15.out.cell (i := 0) (v := .string (qN r0)) rfl; have y1 := R_15.out.cell (i := 1) (v := .string (qD r0)) rfl
            have y2 := B_15.out.cell (i := 0) (v := .string (qN pb)) rfl; have y3 := B_15.out.cell (i := 1) (v := .string (qD pb)) rfl
            go_wp2_with fail
            refine (OP_x7.out _).mono ?_
            rintro e v15 ⟨rfl, hb⟩
            clear y0 y1 y2 y3
            have A_16 : Hid (Blk (v15.alloc (.cells #[.string (qN x7), .string (qD x7)] 23)) v1.heap.size 23 #[.string (qN pa), .string (qD pa)]) := Lib.hid (allocs_keep [(#[.string (qN x7), .string (qD x7)], 23)] _ (A_15.out.below hb A_15.out.lt))
            have B_16 : Hid (Blk (v15.alloc (.cells #[.string (qN x7), .string (qD x7)] 23)) v2.heap.size 23 #[.string (qN pb), .string (qD pb)]) := Lib.hid (allocs_keep [(#[.string (qN x7), .string (qD x7)], 23)] _ (B_15.out.below hb B_15.out.lt))
            have C_16 : Hid (Blk (v15.alloc (.cells #[.string (qN x7), .string (qD x7)] 23)) v3.heap.size 23 #[.string (qN pc), .string (qD pc)]) := Lib.hid (allocs_keep [(#[.string (qN x7), .string (qD x7)], 23)] _ (C_15.out.below hb C_15.out.lt))
            have R_16 : Hid (Blk (v15.alloc (.cells #[.string (qN x7), .string (qD x7)] 23)) v5.heap.size 39 #[.string (qN r0), .string (qD r0), .string (qN r1), .string (qD r1), .string (qN r2), .string (qD r2), .string (qN r3), .string (qD r3)]) := Lib.hid (allocs_keep [(#[.string (qN x7), .string (qD x7)], 23)] _ (R_15.out.below hb R_15.out.lt))
            have E_16 : Hid (Blk (v15.alloc (.cells #[.string (qN x7), .string (qD x7)] 23)) (v5.heap.size + 1) 40 #[.int .i64 z_r0, .int .i64 z_r1, .int .i64 z_r2, .int .i64 z_r3]) := Lib.hid (allocs_keep [(#[.string (qN x7), .string (qD x7)], 23)] _ (E_15.out.below hb E_15.out.lt))
            have HB_16 : Hid (Below w.heap.size w (v15.alloc (.cells #[.string (qN x7), .string (qD x7)] 23))) := Lib.hid (allocs_below [(#[.string (qN x7), .string (qD x7)], 23)] _ (HB_15.out.trans (hb.mono HB_15.out.size)) (HB_15.out.trans (hb.mono HB_15.out.size)).size)
            have Q_16 : Hid (Blk (v15.alloc (.cells #[.string (qN x7), .string (qD x7)] 23)) v15.heap.size 23 #[.string (qN x7), .string (qD x7)]) := Lib.hid (allocs_blk [(#[.string (qN x7), .string (qD x7)], 23)] v15 0 _ rfl)
            clear hb A_15 B_15 C_15 R_15 E_15 G_15 H_15 N_15 O_15 P_15 HB_15
            obtain ⟨x8, hx⟩ : ∃ r, r = mulQ r3 pb := ⟨_, rfl⟩
            have ho := fun W => mulO_any (p := r3) (q := pb) G3.out PB.out.gd W
            rw [← hx] at ho
            have E_x8 := Lib.hid hx
            unfold OpO at ho
            obtain ⟨z_x8, hz⟩ : ∃ z, z = qE x8 := ⟨_, rfl⟩
            rw [← hz] at ho
            have Z_x8 := Lib.hid hz
            clear hz
            have OP_x8 : Hid (∀ W, Calls Try.prog 25 #[.agg #[.string (qN r3), .string (qD r3)], .agg #[.string (qN pb), .string (qD pb)]] W fun e w' => e = .returned (.tuple #[.agg #[.string (qN x8), .string (qD x8)], .int .i64 z_x8]) ∧ Below W.heap.size W w') := ho
            clear hx ho
            have y0 := R_16.out.cell (i := 6) (v := .string (qN r3)) rfl; have y1 := R_16.out.cell (i := 7) (v := .string (qD r3)) rfl
            have y2 := B_16.out.cell (i := 0) (v := .string (qN pb)) rfl; have y3 := B_16.out.cell (i := 1) (v := .string (qD pb)) rfl
            go_wp2_with fail
            refine (OP_x8.out _).mono ?_
            rintro e v16 ⟨rfl, hb⟩
            clear y0 y1 y2 y3
            have A_17 : Hid (Blk (v16.alloc (.cells #[.string (qN x8), .string (qD x8)] 23)) v1.heap.size 23 #[.string (qN pa), .string (qD pa)]) := Lib.hid (allocs_keep [(#[.string (qN x8), .string (qD x8)], 23)] _ (A_16.out.below hb A_16.out.lt))
            have B_17 : Hid (Blk (v16.alloc (.cells #[.string (qN x8), .string (qD x8)] 23)) v2.heap.size 23 #[.string (qN pb), .string (qD pb)]) := Lib.hid (allocs_keep [(#[.string (qN x8), .string (qD x8)], 23)] _ (B_16.out.below hb B_16.out.lt))
            have C_17 : Hid (Blk (v16.alloc (.cells #[.string (qN x8), .string (qD x8)] 23)) v3.heap.size 23 #[.string (qN pc), .string (qD pc)]) := Lib.hid (allocs_keep [(#[.string (qN x8), .string (qD x8)], 23)] _ (C_16.out.below hb C_16.out.lt))
            have R_17 : Hid (Blk (v16.alloc (.cells #[.string (qN x8), .string (qD x8)] 23)) v5.heap.size 39 #[.string (qN r0), .string (qD r0), .string (qN r1), .string (qD r1), .string (qN r2), .string (qD r2), .string (qN r3), .string (qD r3)]) := Lib.hid (allocs_keep [(#[.string (qN x8), .string (qD x8)], 23)] _ (R_16.out.below hb R_16.out.lt))
            have E_17 : Hid (Blk (v16.alloc (.cells #[.string (qN x8), .string (qD x8)] 23)) (v5.heap.size + 1) 40 #[.int .i64 z_r0, .int .i64 z_r1, .int .i64 z_r2, .int .i64 z_r3]) := Lib.hid (allocs_keep [(#[.string (qN x8), .string (qD x8)], 23)] _ (E_16.out.below hb E_16.out.lt))
            have Q_17 : Hid (Blk (v16.alloc (.cells #[.string (qN x8), .string (qD x8)] 23)) v15.heap.size 23 #[.string (qN x7), .string (qD x7)]) := Lib.hid (allocs_keep [(#[.string (qN x8), .string (qD x8)], 23)] _ (Q_16.out.below hb Q_16.out.lt))
            have HB_17 : Hid (Below w.heap.size w (v16.alloc (.cells #[.string (qN x8), .string (qD x8)] 23))) := Lib.hid (allocs_below [(#[.string (qN x8), .string (qD x8)], 23)] _ (HB_16.out.trans (hb.mono HB_16.out.size)) (HB_16.out.trans (hb.mono HB_16.out.size)).size)
            have V_17 : Hid (Blk (v16.alloc (.cells #[.string (qN x8), .string (qD x8)] 23)) v16.heap.size 23 #[.string (qN x8), .string (qD x8)]) := Lib.hid (allocs_blk [(#[.string (qN x8), .string (qD x8)], 23)] v16 0 _ rfl)
            clear hb A_16 B_16 C_16 R_16 E_16 Q_16 HB_16
            have y0 := E_17.out.cell (i := 0) (v := .int .i64 z_r0) rfl; have y1 := E_17.out.cell (i := 3) (v := .int .i64 z_r3) rfl
            have y2 := Q_17.out.cell (i := 0) (v := .string (qN x7)) rfl; have y3 := Q_17.out.cell (i := 1) (v := .string (qD x7)) rfl
            have y4 := V_17.out.cell (i := 0) (v := .string (qN x8)) rfl; have y5 := V_17.out.cell (i := 1) (v := .string (qD x8)) rfl
            have y6 := A_17.out.cell (i := 0) (v := .string (qN pa)) rfl; have y7 := A_17.out.cell (i := 1) (v := .string (qD pa)) rfl
            have c1 : z_r0 = 40 ∨ z_r0 = 0 ∧ z_x7 = 40 ∨ z_r0 = 0 ∧ z_x7 = 0 ∧ x7 = pa := by
              rw [Z_r0.out, Z_x7.out]
              rcases qE_cases r0 with h | h
              · rcases qE_cases x7 with h2 | h2
                · exact .inr (.inr ⟨h, h2, back_O PA.out PB.out E_r0.out E_x7.out h h2⟩)
                · exact .inr (.inl ⟨h, h2⟩)
              · exact .inl h
            have c2 : z_r3 = 40 ∨ z_r3 = 0 ∧ z_x8 = 40 ∨ z_r3 = 0 ∧ z_x8 = 0 ∧ x8 = pa := by
              rw [Z_r3.out, Z_x8.out]
              rcases qE_cases r3 with h | h
              · rcases qE_cases x8 with h2 | h2
                · exact .inr (.inr ⟨h, h2, again_O PA.out PB.out E_r3.out E_x8.out h h2⟩)
                · exact .inr (.inl ⟨h, h2⟩)
              · exact .inl h
            clear PA PB PC G0 G2 G3 G4 G5 G6 E_r0 E_r1 E_r2 E_r3 E_s1 E_s3 E_t0 E_t1 E_t2 E_t3 E_u0 E_u1 E_u2 E_u3 E_x1 E_x2 E_x3 E_x4 E_x5 E_x6 E_x7 E_x8 Z_r0 Z_r1 Z_r2 Z_r3 Z_s1 Z_s3 Z_t0 Z_t1 Z_t2 Z_t3 Z_u0 Z_u1 Z_u2 Z_u3 Z_x1 Z_x2 Z_x3 Z_x4 Z_x5 Z_x6 Z_x7 Z_x8
            rcases c1 with rfl | ⟨rfl, rfl⟩ | ⟨rfl, rfl, rfl⟩ <;> rcases c2 with rfl | ⟨rfl, rfl⟩ | ⟨rfl, rfl, rfl⟩
            all_goals
              go_wp2_with fail
              go_ret
              exact ⟨rfl, HB_17.out⟩
end Go.Proofs.Ytnacgdkihkfjkaa
