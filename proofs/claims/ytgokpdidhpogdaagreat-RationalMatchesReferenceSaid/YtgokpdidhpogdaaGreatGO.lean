/- The operations on fractions or nothing, as values; the contract of the statements' helper four. Conditions: what is there is in lowest terms, of at most 200 digits. | The contract of the statements' helper four. Conditions: the contracts of the four operations on its arguments. -/
import Derived.Test.YtgokpdidhpogdaaGreatGK
import Derived.Test.YtgokpdidhpogdaaGreatGN
namespace Go.Proofs.YtgokpdidhpogdaaGreat
open Go.RowKit Go.Lib

/-- What is there is good. -/
def GdO (r : Option (Int × Int)) : Prop := ∀ q, r = some q → Good q
theorem gdO_rd {r : Option (Int × Int)} (h : GdO r) : rdQ (qN r).data.toList (qD r).data.toList = r := by
  cases r with
  | none => decide +kernel
  | some q => exact good_rd (h q rfl)
theorem gdO_zs {r : Option (Int × Int)} (h : GdO r) : (qN r).size ≤ 9000000000000000000 ∧ (qD r).size ≤ 9000000000000000000 := by
  cases r with
  | none => exact ⟨Nat.zero_le _, Nat.zero_le _⟩
  | some q => exact good_zs (h q rfl)
theorem gdO_some {q : Int × Int} (h : Good q) : GdO (some q) := fun _ e => by cases e; exact h
theorem gdO_none : GdO none := fun _ e => by cases e
theorem gdO_sum {f : Int → Int → Int} {p q : Option (Int × Int)} : GdO (sumQ f p q) := fun r h => by
  cases p with
  | none => cases h
  | some p =>
    cases q with
    | none => cases h
    | some q => exact sum_good h
theorem gdO_mul {p q : Option (Int × Int)} : GdO (mulQ p q) := fun r h => by
  cases p with
  | none => cases h
  | some p =>
    cases q with
    | none => cases h
    | some q => exact mul_good h
theorem gdO_div {p q : Option (Int × Int)} : GdO (divQ p q) := fun r h => by
  cases p with
  | none => cases h
  | some p =>
    cases q with
    | none => cases h
    | some q => exact div_good h
/-- What an operation on two fractions answers. -/
def OpO (F : FuncId) (p q r : Option (Int × Int)) (w : World) : Prop :=
  Calls Tryz.prog F #[.agg #[.string (qN p), .string (qD p)], .agg #[.string (qN q), .string (qD q)]] w fun e w' => e = .returned (.tuple #[.agg #[.string (qN r), .string (qD r)], .int .i64 (qE r)]) ∧ Below w.heap.size w w'
section
variable {p q : Option (Int × Int)} (hp : GdO p) (hq : GdO q) (w : World)
include hp hq
theorem addO_any : OpO 26 p q (sumQ (· + ·) p q) w := by
  have h := fadd_any (qN p) (qD p) (qN q) (qD q) w (gdO_zs hp) (gdO_zs hq)
  rw [gdO_rd hp, gdO_rd hq] at h
  exact h
theorem subO_any : OpO 32 p q (sumQ (· - ·) p q) w := by
  have h := fsub_any (qN p) (qD p) (qN q) (qD q) w (gdO_zs hp) (gdO_zs hq)
  rw [gdO_rd hp, gdO_rd hq] at h
  exact h
theorem mulO_any : OpO 33 p q (mulQ p q) w := by
  have h := fmul_any (qN p) (qD p) (qN q) (qD q) w (gdO_zs hp) (gdO_zs hq)
  rw [gdO_rd hp, gdO_rd hq] at h
  exact h
theorem divO_any : OpO 28 p q (divQ p q) w := by
  have h := fdiv_any (qN p) (qD p) (qN q) (qD q) w (gdO_zs hp) (gdO_zs hq)
  rw [gdO_rd hp, gdO_rd hq] at h
  exact h
end
end Go.Proofs.YtgokpdidhpogdaaGreat
namespace Go.Proofs.YtgokpdidhpogdaaGreat
open Go.RowKit Go.Lib

def OpS4 (F : FuncId) (an ad bn bd xn xd : ByteArray) (y : Int) : Prop := ∀ w, Calls Tryz.prog F #[.agg #[.string an, .string ad], .agg #[.string bn, .string bd]] w fun e w' => e = .returned (.tuple #[.agg #[.string xn, .string xd], .int .i64 y]) ∧ Below w.heap.size w w'
set_option maxRecDepth 100000 in
set_option maxHeartbeats 4000000 in
theorem four_run (an ad bn bd xn0 xd0 xn1 xd1 xn2 xd2 xn3 xd3 : ByteArray) (y0 y1 y2 y3 : Int) (w : World) (h0 : OpS4 26 an ad bn bd xn0 xd0 y0) (h1 : OpS4 32 an ad bn bd xn1 xd1 y1)
    (h2 : OpS4 33 an ad bn bd xn2 xd2 y2) (h3 : OpS4 28 an ad bn bd xn3 xd3 y3) :
    Calls Tryz.prog 8 #[.agg #[.string an, .string ad], .agg #[.string bn, .string bd]] w fun e w' =>
      e = .returned (.tuple #[.agg #[.string xn0, .string xd0, .string xn1, .string xd1, .string xn2, .string xd2, .string xn3, .string xd3], .agg #[.int .i64 y0, .int .i64 y1, .int .i64 y2, .int .i64 y3]]) ∧ Below w.heap.size w w' := by
  unfold OpS4 at h0 h1 h2 h3
  have H0 := Lib.hid h0; have H1 := Lib.hid h1; have H2 := Lib.hid h2; have H3 := Lib.hid h3
  have G0_0 : Hid (Blk ((((((w.alloc (.cells #[.string an, .string ad] 23)).alloc (.cells #[.string bn, .string bd] 23)).alloc (.cells #[.string ⟨#[]⟩, .string ⟨#[]⟩, .string ⟨#[]⟩, .string ⟨#[]⟩, .string ⟨#[]⟩, .string ⟨#[]⟩, .string ⟨#[]⟩, .string ⟨#[]⟩] 31)).alloc (.cells #[.int .i64 0, .int .i64 0, .int .i64 0, .int .i64 0] 33)).alloc (.cells #[.string ⟨#[]⟩, .string ⟨#[]⟩, .string ⟨#[]⟩, .string ⟨#[]⟩, .string ⟨#[]⟩, .string ⟨#[]⟩, .string ⟨#[]⟩, .string ⟨#[]⟩] 31)).alloc (.cells #[.int .i64 0, .int .i64 0, .int .i64 0, .int .i64 0] 33)) w.heap.size 23 #[.string an, .string ad]) := allocs_blk [(#[.string an, .string ad], 23), (#[.string bn, .string bd], 23), (#[.string ⟨#[]⟩, .string ⟨#[]⟩, .string ⟨#[]⟩, .string ⟨#[]⟩, .string ⟨#[]⟩, .string ⟨#[]⟩, .string ⟨#[]⟩, .string ⟨#[]⟩], 31), (#[.int .i64 0, .int .i64 0, .int .i64 0, .int .i64 0], 33), (#[.string ⟨#[]⟩, .string ⟨#[]⟩, .string ⟨#[]⟩, .string ⟨#[]⟩, .string ⟨#[]⟩, .string ⟨#[]⟩, .string ⟨#[]⟩, .string ⟨#[]⟩], 31), (#[.int .i64 0, .int .i64 0, .int .i64 0, .int .i64 0], 33)] w 0 _ rfl
  have G1_0 : Hid (Blk ((((((w.alloc (.cells #[.string an, .string ad] 23)).alloc (.cells #[.string bn, .string bd] 23)).alloc (.cells #[.string ⟨#[]⟩, .string ⟨#[]⟩, .string ⟨#[]⟩, .string ⟨#[]⟩, .string ⟨#[]⟩, .string ⟨#[]⟩, .string ⟨#[]⟩, .string ⟨#[]⟩] 31)).alloc (.cells #[.int .i64 0, .int .i64 0, .int .i64 0, .int .i64 0] 33)).alloc (.cells #[.string ⟨#[]⟩, .string ⟨#[]⟩, .string ⟨#[]⟩, .string ⟨#[]⟩, .string ⟨#[]⟩, .string ⟨#[]⟩, .string ⟨#[]⟩, .string ⟨#[]⟩] 31)).alloc (.cells #[.int .i64 0, .int .i64 0, .int .i64 0, .int .i64 0] 33)) (w.heap.size + 1) 23 #[.string bn, .string bd]) := allocs_blk [(#[.string an, .string ad], 23), (#[.string bn, .string bd], 23), (#[.string ⟨#[]⟩, .string ⟨#[]⟩, .string ⟨#[]⟩, .string ⟨#[]⟩, .string ⟨#[]⟩, .string ⟨#[]⟩, .string ⟨#[]⟩, .string ⟨#[]⟩], 31), (#[.int .i64 0, .int .i64 0, .int .i64 0, .int .i64 0], 33), (#[.string ⟨#[]⟩, .string ⟨#[]⟩, .string ⟨#[]⟩, .string ⟨#[]⟩, .string ⟨#[]⟩, .string ⟨#[]⟩, .string ⟨#[]⟩, .string ⟨#[]⟩], 31), (#[.int .i64 0, .int .i64 0, .int .i64 0, .int .i64 0], 33)] w 1 _ rfl
  have G2_0 : Hid (Blk ((((((w.alloc (.cells #[.string an, .string ad] 23)).alloc (.cells #[.string bn, .string bd] 23)).alloc (.cells #[.string ⟨#[]⟩, .string ⟨#[]⟩, .string ⟨#[]⟩, .string ⟨#[]⟩, .string ⟨#[]⟩, .string ⟨#[]⟩, .string ⟨#[]⟩, .string ⟨#[]⟩] 31)).alloc (.cells #[.int .i64 0, .int .i64 0, .int .i64 0, .int .i64 0] 33)).alloc (.cells #[.string ⟨#[]⟩, .string ⟨#[]⟩, .string ⟨#[]⟩, .string ⟨#[]⟩, .string ⟨#[]⟩, .string ⟨#[]⟩, .string ⟨#[]⟩, .string ⟨#[]⟩] 31)).alloc (.cells #[.int .i64 0, .int .i64 0, .int .i64 0, .int .i64 0] 33)) (w.heap.size + 2) 31 #[.string ⟨#[]⟩, .string ⟨#[]⟩, .string ⟨#[]⟩, .string ⟨#[]⟩, .string ⟨#[]⟩, .string ⟨#[]⟩, .string ⟨#[]⟩, .string ⟨#[]⟩]) := allocs_blk [(#[.string an, .string ad], 23), (#[.string bn, .string bd], 23), (#[.string ⟨#[]⟩, .string ⟨#[]⟩, .string ⟨#[]⟩, .string ⟨#[]⟩, .string ⟨#[]⟩, .string ⟨#[]⟩, .string ⟨#[]⟩, .string ⟨#[]⟩], 31), (#[.int .i64 0, .int .i64 0, .int .i64 0, .int .i64 0], 33), (#[.string ⟨#[]⟩, .string ⟨#[]⟩, .string ⟨#[]⟩, .string ⟨#[]⟩, .string ⟨#[]⟩, .string ⟨#[]⟩, .string ⟨#[]⟩, .string ⟨#[]⟩], 31), (#[.int .i64 0, .int .i64 0, .int .i64 0, .int .i64 0], 33)] w 2 _ rfl
  have G3_0 : Hid (Blk ((((((w.alloc (.cells #[.string an, .string ad] 23)).alloc (.cells #[.string bn, .string bd] 23)).alloc (.cells #[.string ⟨#[]⟩, .string ⟨#[]⟩, .string ⟨#[]⟩, .string ⟨#[]⟩, .string ⟨#[]⟩, .string ⟨#[]⟩, .string ⟨#[]⟩, .string ⟨#[]⟩] 31)).alloc (.cells #[.int .i64 0, .int .i64 0, .int .i64 0, .int .i64 0] 33)).alloc (.cells #[.string ⟨#[]⟩, .string ⟨#[]⟩, .string ⟨#[]⟩, .string ⟨#[]⟩, .string ⟨#[]⟩, .string ⟨#[]⟩, .string ⟨#[]⟩, .string ⟨#[]⟩] 31)).alloc (.cells #[.int .i64 0, .int .i64 0, .int .i64 0, .int .i64 0] 33)) (w.heap.size + 3) 33 #[.int .i64 0, .int .i64 0, .int .i64 0, .int .i64 0]) := allocs_blk [(#[.string an, .string ad], 23), (#[.string bn, .string bd], 23), (#[.string ⟨#[]⟩, .string ⟨#[]⟩, .string ⟨#[]⟩, .string ⟨#[]⟩, .string ⟨#[]⟩, .string ⟨#[]⟩, .string ⟨#[]⟩, .string ⟨#[]⟩], 31), (#[.int .i64 0, .int .i64 0, .int .i64 0, .int .i64 0], 33), (#[.string ⟨#[]⟩, .string ⟨#[]⟩, .string ⟨#[]⟩, .string ⟨#[]⟩, .string ⟨#[]⟩, .string ⟨#[]⟩, .string ⟨#[]⟩, .string ⟨#[]⟩], 31), (#[.int .i64 0, .int .i64 0, .int .i64 0, .int .i64 0], 33)] w 3 _ rfl
  have G4_0 : Hid (Blk ((((((w.alloc (.cells #[.string an, .string ad] 23)).alloc (.cells #[.string bn, .string bd] 23)).alloc (.cells #[.string ⟨#[]⟩, .string ⟨#[]⟩, .string ⟨#[]⟩, .string ⟨#[]⟩, .string ⟨#[]⟩, .string ⟨#[]⟩, .string ⟨#[]⟩, .string ⟨#[]⟩] 31)).alloc (.cells #[.int .i64 0, .int .i64 0, .int .i64 0, .int .i64 0] 33)).alloc (.cells #[.string ⟨#[]⟩, .string ⟨#[]⟩, .string ⟨#[]⟩, .string ⟨#[]⟩, .string ⟨#[]⟩, .string ⟨#[]⟩, .string ⟨#[]⟩, .string ⟨#[]⟩] 31)).alloc (.cells #[.int .i64 0, .int .i64 0, .int .i64 0, .int .i64 0] 33)) (w.heap.size + 4) 31 #[.string ⟨#[]⟩, .string ⟨#[]⟩, .string ⟨#[]⟩, .string ⟨#[]⟩, .string ⟨#[]⟩, .string ⟨#[]⟩, .string ⟨#[]⟩, .string ⟨#[]⟩]) := allocs_blk [(#[.string an, .string ad], 23), (#[.string bn, .string bd], 23), (#[.string ⟨#[]⟩, .string ⟨#[]⟩, .string ⟨#[]⟩, .string ⟨#[]⟩, .string ⟨#[]⟩, .string ⟨#[]⟩, .string ⟨#[]⟩, .string ⟨#[]⟩], 31), (#[.int .i64 0, .int .i64 0, .int .i64 0, .int .i64 0], 33), (#[.string ⟨#[]⟩, .string ⟨#[]⟩, .string ⟨#[]⟩, .string ⟨#[]⟩, .string ⟨#[]⟩, .string ⟨#[]⟩, .string ⟨#[]⟩, .string ⟨#[]⟩], 31), (#[.int .i64 0, .int .i64 0, .int .i64 0, .int .i64 0], 33)] w 4 _ rfl
  have G5_0 : Hid (Blk ((((((w.alloc (.cells #[.string an, .string ad] 23)).alloc (.cells #[.string bn, .string bd] 23)).alloc (.cells #[.string ⟨#[]⟩, .string ⟨#[]⟩, .string ⟨#[]⟩, .string ⟨#[]⟩, .string ⟨#[]⟩, .string ⟨#[]⟩, .string ⟨#[]⟩, .string ⟨#[]⟩] 31)).alloc (.cells #[.int .i64 0, .int .i64 0, .int .i64 0, .int .i64 0] 33)).alloc (.cells #[.string ⟨#[]⟩, .string ⟨#[]⟩, .string ⟨#[]⟩, .string ⟨#[]⟩, .string ⟨#[]⟩, .string ⟨#[]⟩, .string ⟨#[]⟩, .string ⟨#[]⟩] 31)).alloc (.cells #[.int .i64 0, .int .i64 0, .int .i64 0, .int .i64 0] 33)) (w.heap.size + 5) 33 #[.int .i64 0, .int .i64 0, .int .i64 0, .int .i64 0]) := allocs_blk [(#[.string an, .string ad], 23), (#[.string bn, .string bd], 23), (#[.string ⟨#[]⟩, .string ⟨#[]⟩, .string ⟨#[]⟩, .string ⟨#[]⟩, .string ⟨#[]⟩, .string ⟨#[]⟩, .string ⟨#[]⟩, .string ⟨#[]⟩], 31), (#[.int .i64 0, .int .i64 0, .int .i64 0, .int .i64 0], 33), (#[.string ⟨#[]⟩, .string ⟨#[]⟩, .string ⟨#[]⟩, .string ⟨#[]⟩, .string ⟨#[]⟩, .string ⟨#[]⟩, .string ⟨#[]⟩, .string ⟨#[]⟩], 31), (#[.int .i64 0, .int .i64 0, .int .i64 0, .int .i64 0], 33)] w 5 _ rfl
  have HB_0 : Hid (Below w.heap.size w ((((((w.alloc (.cells #[.string an, .string ad] 23)).alloc (.cells #[.string bn, .string bd] 23)).alloc (.cells #[.string ⟨#[]⟩, .string ⟨#[]⟩, .string ⟨#[]⟩, .string ⟨#[]⟩, .string ⟨#[]⟩, .string ⟨#[]⟩, .string ⟨#[]⟩, .string ⟨#[]⟩] 31)).alloc (.cells #[.int .i64 0, .int .i64 0, .int .i64 0, .int .i64 0] 33)).alloc (.cells #[.string ⟨#[]⟩, .string ⟨#[]⟩, .string ⟨#[]⟩, .string ⟨#[]⟩, .string ⟨#[]⟩, .string ⟨#[]⟩, .string ⟨#[]⟩, .string ⟨#[]⟩] 31)).alloc (.cells #[.int .i64 0, .int .i64 0, .int .i64 0, .int .i64 0] 33))) := allocs_below [(#[.string an, .string ad], 23), (#[.string bn, .string bd], 23), (#[.string ⟨#[]⟩, .string ⟨#[]⟩, .string ⟨#[]⟩, .string ⟨#[]⟩, .string ⟨#[]⟩, .string ⟨#[]⟩, .string ⟨#[]⟩, .string ⟨#[]⟩], 31), (#[.int .i64 0, .int .i64 0, .int .i64 0, .int .i64 0], 33), (#[.string ⟨#[]⟩, .string ⟨#[]⟩, .string ⟨#[]⟩, .string ⟨#[]⟩, .string ⟨#[]⟩, .string ⟨#[]⟩, .string ⟨#[]⟩, .string ⟨#[]⟩], 31), (#[.int .i64 0, .int .i64 0, .int .i64 0, .int .i64 0], 33)] w (Below.refl w.heap.size w) (Nat.le_refl _)
  clear h0 h1 h2 h3
  go_enter Tryz.func8, Tryz.ntmps8
  have z0 := G0_0.out.cell (i := 0) (v := .string an) rfl; have z1 := G0_0.out.cell (i := 1) (v := .string ad) rfl; have z2 := G1_0.out.cell (i := 0) (v := .string bn) rfl; have z3 := G1_0.out.cell (i := 1) (v := .string bd) rfl
  go_wp2_with fail
  refine (H0.out _).mono ?_
  rintro e w0 ⟨rfl, hb⟩
  clear z0 z1 z2 z3
  have G0_1 := Lib.hid (G0_0.out.below hb G0_0.out.lt)
  have G1_1 := Lib.hid (G1_0.out.below hb G1_0.out.lt)
  have G2_1 := Lib.hid (G2_0.out.below hb G2_0.out.lt)
  have G3_1 := Lib.hid (G3_0.out.below hb G3_0.out.lt)
  have G4_1 := Lib.hid (G4_0.out.below hb G4_0.out.lt)
  have G5_1 := Lib.hid (G5_0.out.below hb G5_0.out.lt)
  have HB_1 := Lib.hid (HB_0.out.trans (hb.mono HB_0.out.size))
  clear hb HB_0 G0_0 G1_0 G2_0 G3_0 G4_0 G5_0
  have G0_2 := Lib.hid (((G0_1.out.far (p := ⟨w.heap.size + 4, 0, none⟩) (by show _ ≠ w.heap.size + 4; omega) (.string xn0)).far (p := ⟨w.heap.size + 4, 1, none⟩) (by show _ ≠ w.heap.size + 4; omega) (.string xd0)).far (p := ⟨w.heap.size + 5, 0, none⟩) (by show _ ≠ w.heap.size + 5; omega) (.int .i64 y0))
  have G1_2 := Lib.hid (((G1_1.out.far (p := ⟨w.heap.size + 4, 0, none⟩) (by show _ ≠ w.heap.size + 4; omega) (.string xn0)).far (p := ⟨w.heap.size + 4, 1, none⟩) (by show _ ≠ w.heap.size + 4; omega) (.string xd0)).far (p := ⟨w.heap.size + 5, 0, none⟩) (by show _ ≠ w.heap.size + 5; omega) (.int .i64 y0))
  have G2_2 := Lib.hid (((G2_1.out.far (p := ⟨w.heap.size + 4, 0, none⟩) (by show _ ≠ w.heap.size + 4; omega) (.string xn0)).far (p := ⟨w.heap.size + 4, 1, none⟩) (by show _ ≠ w.heap.size + 4; omega) (.string xd0)).far (p := ⟨w.heap.size + 5, 0, none⟩) (by show _ ≠ w.heap.size + 5; omega) (.int .i64 y0))
  have G3_2 := Lib.hid (((G3_1.out.far (p := ⟨w.heap.size + 4, 0, none⟩) (by show _ ≠ w.heap.size + 4; omega) (.string xn0)).far (p := ⟨w.heap.size + 4, 1, none⟩) (by show _ ≠ w.heap.size + 4; omega) (.string xd0)).far (p := ⟨w.heap.size + 5, 0, none⟩) (by show _ ≠ w.heap.size + 5; omega) (.int .i64 y0))
  have G4_2 : Hid (Blk (((w0.setCell ⟨w.heap.size + 4, 0, none⟩ (.string xn0)).setCell ⟨w.heap.size + 4, 1, none⟩ (.string xd0)).setCell ⟨w.heap.size + 5, 0, none⟩ (.int .i64 y0)) (w.heap.size + 4) 31 #[.string (xn0), .string (xd0), .string ⟨#[]⟩, .string ⟨#[]⟩, .string ⟨#[]⟩, .string ⟨#[]⟩, .string ⟨#[]⟩, .string ⟨#[]⟩]) := ((G4_1.out.set 0 (.string xn0)).set 1 (.string xd0)).far (p := ⟨w.heap.size + 5, 0, none⟩) (by show _ ≠ w.heap.size + 5; omega) (.int .i64 y0)
  have G5_2 : Hid (Blk (((w0.setCell ⟨w.heap.size + 4, 0, none⟩ (.string xn0)).setCell ⟨w.heap.size + 4, 1, none⟩ (.string xd0)).setCell ⟨w.heap.size + 5, 0, none⟩ (.int .i64 y0)) (w.heap.size + 5) 33 #[.int .i64 (y0), .int .i64 0, .int .i64 0, .int .i64 0]) := ((G5_1.out.far (p := ⟨w.heap.size + 4, 0, none⟩) (by show _ ≠ w.heap.size + 4; omega) (.string xn0)).far (p := ⟨w.heap.size + 4, 1, none⟩) (by show _ ≠ w.heap.size + 4; omega) (.string xd0)).set 0 (.int .i64 y0)
  have HB_2 := Lib.hid (((HB_1.out.setCell (p := ⟨w.heap.size + 4, 0, none⟩) (by show w.heap.size ≤ w.heap.size + 4; omega) (.string xn0)).setCell (p := ⟨w.heap.size + 4, 1, none⟩) (by show w.heap.size ≤ w.heap.size + 4; omega) (.string xd0)).setCell (p := ⟨w.heap.size + 5, 0, none⟩) (by show w.heap.size ≤ w.heap.size + 5; omega) (.int .i64 y0))
  have f0 := G4_1.out.frozen 0; have f1 := G4_1.out.frozen 1; have f2 := G5_1.out.frozen 0
  have q0 := G4_1.out.cell (i := 0) (v := .string ⟨#[]⟩) rfl; have q1 := G4_1.out.cell (i := 1) (v := .string ⟨#[]⟩) rfl
  have q2 := ((G5_1.out.far (p := ⟨w.heap.size + 4, 0, none⟩) (by show _ ≠ w.heap.size + 4; omega) (.string xn0)).far (p := ⟨w.heap.size + 4, 1, none⟩) (by show _ ≠ w.heap.size + 4; omega) (.string xd0)).cell (i := 0) (v := .int .i64 0) rfl
  clear HB_1 G0_1 G1_1 G2_1 G3_1 G4_1 G5_1
  have z0 := G0_2.out.cell (i := 0) (v := .string an) rfl; have z1 := G0_2.out.cell (i := 1) (v := .string ad) rfl; have z2 := G1_2.out.cell (i := 0) (v := .string bn) rfl; have z3 := G1_2.out.cell (i := 1) (v := .string bd) rfl
  go_wp2_with fail
  refine (H1.out _).mono ?_
  rintro e w1 ⟨rfl, hb⟩
  clear z0 z1 z2 z3 f0 f1 f2 q0 q1 q2
  have G0_3 := Lib.hid (G0_2.out.below hb G0_2.out.lt)
  have G1_3 := Lib.hid (G1_2.out.below hb G1_2.out.lt)
  have G2_3 := Lib.hid (G2_2.out.below hb G2_2.out.lt)
  have G3_3 := Lib.hid (G3_2.out.below hb G3_2.out.lt)
  have G4_3 := Lib.hid (G4_2.out.below hb G4_2.out.lt)
  have G5_3 := Lib.hid (G5_2.out.below hb G5_2.out.lt)
  have HB_3 := Lib.hid (HB_2.out.trans (hb.mono HB_2.out.size))
  clear hb HB_2 G0_2 G1_2 G2_2 G3_2 G4_2 G5_2
  have G0_4 := Lib.hid (((G0_3.out.far (p := ⟨w.heap.size + 4, 2, none⟩) (by show _ ≠ w.heap.size + 4; omega) (.string xn1)).far (p := ⟨w.heap.size + 4, 3, none⟩) (by show _ ≠ w.heap.size + 4; omega) (.string xd1)).far (p := ⟨w.heap.size + 5, 1, none⟩) (by show _ ≠ w.heap.size + 5; omega) (.int .i64 y1))
  have G1_4 := Lib.hid (((G1_3.out.far (p := ⟨w.heap.size + 4, 2, none⟩) (by show _ ≠ w.heap.size + 4; omega) (.string xn1)).far (p := ⟨w.heap.size + 4, 3, none⟩) (by show _ ≠ w.heap.size + 4; omega) (.string xd1)).far (p := ⟨w.heap.size + 5, 1, none⟩) (by show _ ≠ w.heap.size + 5; omega) (.int .i64 y1))
  have G2_4 := Lib.hid (((G2_3.out.far (p := ⟨w.heap.size + 4, 2, none⟩) (by show _ ≠ w.heap.size + 4; omega) (.string xn1)).far (p := ⟨w.heap.size + 4, 3, none⟩) (by show _ ≠ w.heap.size + 4; omega) (.string xd1)).far (p := ⟨w.heap.size + 5, 1, none⟩) (by show _ ≠ w.heap.size + 5; omega) (.int .i64 y1))
  have G3_4 := Lib.hid (((G3_3.out.far (p := ⟨w.heap.size + 4, 2, none⟩) (by show _ ≠ w.heap.size + 4; omega) (.string xn1)).far (p := ⟨w.heap.size + 4, 3, none⟩) (by show _ ≠ w.heap.size + 4; omega) (.string xd1)).far (p := ⟨w.heap.size + 5, 1, none⟩) (by show _ ≠ w.heap.size + 5; omega) (.int .i64 y1))
  have G4_4 : Hid (Blk (((w1.setCell ⟨w.heap.size + 4, 2, none⟩ (.string xn1)).setCell ⟨w.heap.size + 4, 3, none⟩ (.string xd1)).setCell ⟨w.heap.size + 5, 1, none⟩ (.int .i64 y1)) (w.heap.size + 4) 31 #[.string (xn0), .string (xd0), .string (xn1), .string (xd1), .string ⟨#[]⟩, .string ⟨#[]⟩, .string ⟨#[]⟩, .string ⟨#[]⟩]) := ((G4_3.out.set 2 (.string xn1)).set 3 (.string xd1)).far (p := ⟨w.heap.size + 5, 1, none⟩) (by show _ ≠ w.heap.size + 5; omega) (.int .i64 y1)
  have G5_4 : Hid (Blk (((w1.setCell ⟨w.heap.size + 4, 2, none⟩ (.string xn1)).setCell ⟨w.heap.size + 4, 3, none⟩ (.string xd1)).setCell ⟨w.heap.size + 5, 1, none⟩ (.int .i64 y1)) (w.heap.size + 5) 33 #[.int .i64 (y0), .int .i64 (y1), .int .i64 0, .int .i64 0]) := ((G5_3.out.far (p := ⟨w.heap.size + 4, 2, none⟩) (by show _ ≠ w.heap.size + 4; omega) (.string xn1)).far (p := ⟨w.heap.size + 4, 3, none⟩) (by show _ ≠ w.heap.size + 4; omega) (.string xd1)).set 1 (.int .i64 y1)
  have HB_4 := Lib.hid (((HB_3.out.setCell (p := ⟨w.heap.size + 4, 2, none⟩) (by show w.heap.size ≤ w.heap.size + 4; omega) (.string xn1)).setCell (p := ⟨w.heap.size + 4, 3, none⟩) (by show w.heap.size ≤ w.heap.size + 4; omega) (.string xd1)).setCell (p := ⟨w.heap.size + 5, 1, none⟩) (by show w.heap.size ≤ w.heap.size + 5; omega) (.int .i64 y1))
  have f0 := G4_3.out.frozen 2; have f1 := G4_3.out.frozen 3; have f2 := G5_3.out.frozen 1
  have q0 := G4_3.out.cell (i := 2) (v := .string ⟨#[]⟩) rfl; have q1 := G4_3.out.cell (i := 3) (v := .string ⟨#[]⟩) rfl
  have q2 := ((G5_3.out.far (p := ⟨w.heap.size + 4, 2, none⟩) (by show _ ≠ w.heap.size + 4; omega) (.string xn1)).far (p := ⟨w.heap.size + 4, 3, none⟩) (by show _ ≠ w.heap.size + 4; omega) (.string xd1)).cell (i := 1) (v := .int .i64 0) rfl
  clear HB_3 G0_3 G1_3 G2_3 G3_3 G4_3 G5_3
  have z0 := G0_4.out.cell (i := 0) (v := .string an) rfl; have z1 := G0_4.out.cell (i := 1) (v := .string ad) rfl; have z2 := G1_4.out.cell (i := 0) (v := .string bn) rfl; have z3 := G1_4.out.cell (i := 1) (v := .string bd) rfl
  go_wp2_with fail
  refine (H2.out _).mono ?_
  rintro e w2 ⟨rfl, hb⟩
  clear z0 z1 z2 z3 f0 f1 f2 q0 q1 q2
  have G0_5 := Lib.hid (G0_4.out.below hb G0_4.out.lt)
  have G1_5 := Lib.hid (G1_4.out.below hb G1_4.out.lt)
  have G2_5 := Lib.hid (G2_4.out.below hb G2_4.out.lt)
  have G3_5 := Lib.hid (G3_4.out.below hb G3_4.out.lt)
  have G4_5 := Lib.hid (G4_4.out.below hb G4_4.out.lt)
  have G5_5 := Lib.hid (G5_4.out.below hb G5_4.out.lt)
  have HB_5 := Lib.hid (HB_4.out.trans (hb.mono HB_4.out.size))
  clear hb HB_4 G0_4 G1_4 G2_4 G3_4 G4_4 G5_4
  have G0_6 := Lib.hid (((G0_5.out.far (p := ⟨w.heap.size + 4, 4, none⟩) (by show _ ≠ w.heap.size + 4; omega) (.string xn2)).far (p := ⟨w.heap.size + 4, 5, none⟩) (by show _ ≠ w.heap.size + 4; omega) (.string xd2)).far (p := ⟨w.heap.size + 5, 2, none⟩) (by show _ ≠ w.heap.size + 5; omega) (.int .i64 y2))
  have G1_6 := Lib.hid (((G1_5.out.far (p := ⟨w.heap.size + 4, 4, none⟩) (by show _ ≠ w.heap.size + 4; omega) (.string xn2)).far (p := ⟨w.heap.size + 4, 5, none⟩) (by show _ ≠ w.heap.size + 4; omega) (.string xd2)).far (p := ⟨w.heap.size + 5, 2, none⟩) (by show _ ≠ w.heap.size + 5; omega) (.int .i64 y2))
  have G2_6 := Lib.hid (((G2_5.out.far (p := ⟨w.heap.size + 4, 4, none⟩) (by show _ ≠ w.heap.size + 4; omega) (.string xn2)).far (p := ⟨w.heap.size + 4, 5, none⟩) (by show _ ≠ w.heap.size + 4; omega) (.string xd2)).far (p := ⟨w.heap.size + 5, 2, none⟩) (by show _ ≠ w.heap.size + 5; omega) (.int .i64 y2))
  have G3_6 := Lib.hid (((G3_5.out.far (p := ⟨w.heap.size + 4, 4, none⟩) (by show _ ≠ w.heap.size + 4; omega) (.string xn2)).far (p := ⟨w.heap.size + 4, 5, none⟩) (by show _ ≠ w.heap.size + 4; omega) (.string xd2)).far (p := ⟨w.heap.size + 5, 2, none⟩) (by show _ ≠ w.heap.size + 5; omega) (.int .i64 y2))
  have G4_6 : Hid (Blk (((w2.setCell ⟨w.heap.size + 4, 4, none⟩ (.string xn2)).setCell ⟨w.heap.size + 4, 5, none⟩ (.string xd2)).setCell ⟨w.heap.size + 5, 2, none⟩ (.int .i64 y2)) (w.heap.size + 4) 31 #[.string (xn0), .string (xd0), .string (xn1), .string (xd1), .string (xn2), .string (xd2), .string ⟨#[]⟩, .string ⟨#[]⟩]) := ((G4_5.out.set 4 (.string xn2)).set 5 (.string xd2)).far (p := ⟨w.heap.size + 5, 2, none⟩) (by show _ ≠ w.heap.size + 5; omega) (.int .i64 y2)
  have G5_6 : Hid (Blk (((w2.setCell ⟨w.heap.size + 4, 4, none⟩ (.string xn2)).setCell ⟨w.heap.size + 4, 5, none⟩ (.string xd2)).setCell ⟨w.heap.size + 5, 2, none⟩ (.int .i64 y2)) (w.heap.size + 5) 33 #[.int .i64 (y0), .int .i64 (y1), .int .i64 (y2), .int .i64 0]) := ((G5_5.out.far (p := ⟨w.heap.size + 4, 4, none⟩) (by show _ ≠ w.heap.size + 4; omega) (.string xn2)).far (p := ⟨w.heap.size + 4, 5, none⟩) (by show _ ≠ w.heap.size + 4; omega) (.string xd2)).set 2 (.int .i64 y2)
  have HB_6 := Lib.hid (((HB_5.out.setCell (p := ⟨w.heap.size + 4, 4, none⟩) (by show w.heap.size ≤ w.heap.size + 4; omega) (.string xn2)).setCell (p := ⟨w.heap.size + 4, 5, none⟩) (by show w.heap.size ≤ w.heap.size + 4; omega) (.string xd2)).setCell (p := ⟨w.heap.size + 5, 2, none⟩) (by show w.heap.size ≤ w.heap.size + 5; omega) (.int .i64 y2))
  have f0 := G4_5.out.frozen 4; have f1 := G4_5.out.frozen 5; have f2 := G5_5.out.frozen 2
  have q0 := G4_5.out.cell (i := 4) (v := .string ⟨#[]⟩) rfl; have q1 := G4_5.out.cell (i := 5) (v := .string ⟨#[]⟩) rfl
  have q2 := ((G5_5.out.far (p := ⟨w.heap.size + 4, 4, none⟩) (by show _ ≠ w.heap.size + 4; omega) (.string xn2)).far (p := ⟨w.heap.size + 4, 5, none⟩) (by show _ ≠ w.heap.size + 4; omega) (.string xd2)).cell (i := 2) (v := .int .i64 0) rfl
  clear HB_5 G0_5 G1_5 G2_5 G3_5 G4_5 G5_5
  have z0 := G0_6.out.cell (i := 0) (v := .string an) rfl; have z1 := G0_6.out.cell (i := 1) (v := .string ad) rfl; have z2 := G1_6.out.cell (i := 0) (v := .string bn) rfl; have z3 := G1_6.out.cell (i := 1) (v := .string bd) rfl
  go_wp2_with fail
  refine (H3.out _).mono ?_
  rintro e w3 ⟨rfl, hb⟩
  clear z0 z1 z2 z3 f0 f1 f2 q0 q1 q2
  have G0_7 := Lib.hid (G0_6.out.below hb G0_6.out.lt)
  have G1_7 := Lib.hid (G1_6.out.below hb G1_6.out.lt)
  have G2_7 := Lib.hid (G2_6.out.below hb G2_6.out.lt)
  have G3_7 := Lib.hid (G3_6.out.below hb G3_6.out.lt)
  have G4_7 := Lib.hid (G4_6.out.below hb G4_6.out.lt)
  have G5_7 := Lib.hid (G5_6.out.below hb G5_6.out.lt)
  have HB_7 := Lib.hid (HB_6.out.trans (hb.mono HB_6.out.size))
  clear hb HB_6 G0_6 G1_6 G2_6 G3_6 G4_6 G5_6
  have G0_8 := Lib.hid (((G0_7.out.far (p := ⟨w.heap.size + 4, 6, none⟩) (by show _ ≠ w.heap.size + 4; omega) (.string xn3)).far (p := ⟨w.heap.size + 4, 7, none⟩) (by show _ ≠ w.heap.size + 4; omega) (.string xd3)).far (p := ⟨w.heap.size + 5, 3, none⟩) (by show _ ≠ w.heap.size + 5; omega) (.int .i64 y3))
  have G1_8 := Lib.hid (((G1_7.out.far (p := ⟨w.heap.size + 4, 6, none⟩) (by show _ ≠ w.heap.size + 4; omega) (.string xn3)).far (p := ⟨w.heap.size + 4, 7, none⟩) (by show _ ≠ w.heap.size + 4; omega) (.string xd3)).far (p := ⟨w.heap.size + 5, 3, none⟩) (by show _ ≠ w.heap.size + 5; omega) (.int .i64 y3))
  have G2_8 := Lib.hid (((G2_7.out.far (p := ⟨w.heap.size + 4, 6, none⟩) (by show _ ≠ w.heap.size + 4; omega) (.string xn3)).far (p := ⟨w.heap.size + 4, 7, none⟩) (by show _ ≠ w.heap.size + 4; omega) (.string xd3)).far (p := ⟨w.heap.size + 5, 3, none⟩) (by show _ ≠ w.heap.size + 5; omega) (.int .i64 y3))
  have G3_8 := Lib.hid (((G3_7.out.far (p := ⟨w.heap.size + 4, 6, none⟩) (by show _ ≠ w.heap.size + 4; omega) (.string xn3)).far (p := ⟨w.heap.size + 4, 7, none⟩) (by show _ ≠ w.heap.size + 4; omega) (.string xd3)).far (p := ⟨w.heap.size + 5, 3, none⟩) (by show _ ≠ w.heap.size + 5; omega) (.int .i64 y3))
  have G4_8 : Hid (Blk (((w3.setCell ⟨w.heap.size + 4, 6, none⟩ (.string xn3)).setCell ⟨w.heap.size + 4, 7, none⟩ (.string xd3)).setCell ⟨w.heap.size + 5, 3, none⟩ (.int .i64 y3)) (w.heap.size + 4) 31 #[.string (xn0), .string (xd0), .string (xn1), .string (xd1), .string (xn2), .string (xd2), .string (xn3), .string (xd3)]) := ((G4_7.out.set 6 (.string xn3)).set 7 (.string xd3)).far (p := ⟨w.heap.size + 5, 3, none⟩) (by show _ ≠ w.heap.size + 5; omega) (.int .i64 y3)
  have G5_8 : Hid (Blk (((w3.setCell ⟨w.heap.size + 4, 6, none⟩ (.string xn3)).setCell ⟨w.heap.size + 4, 7, none⟩ (.string xd3)).setCell ⟨w.heap.size + 5, 3, none⟩ (.int .i64 y3)) (w.heap.size + 5) 33 #[.int .i64 (y0), .int .i64 (y1), .int .i64 (y2), .int .i64 (y3)]) := ((G5_7.out.far (p := ⟨w.heap.size + 4, 6, none⟩) (by show _ ≠ w.heap.size + 4; omega) (.string xn3)).far (p := ⟨w.heap.size + 4, 7, none⟩) (by show _ ≠ w.heap.size + 4; omega) (.string xd3)).set 3 (.int .i64 y3)
  have HB_8 := Lib.hid (((HB_7.out.setCell (p := ⟨w.heap.size + 4, 6, none⟩) (by show w.heap.size ≤ w.heap.size + 4; omega) (.string xn3)).setCell (p := ⟨w.heap.size + 4, 7, none⟩) (by show w.heap.size ≤ w.heap.size + 4; omega) (.string xd3)).setCell (p := ⟨w.heap.size + 5, 3, none⟩) (by show w.heap.size ≤ w.heap.size + 5; omega) (.int .i64 y3))
  have f0 := G4_7.out.frozen 6; have f1 := G4_7.out.frozen 7; have f2 := G5_7.out.frozen 3
  have q0 := G4_7.out.cell (i := 6) (v := .string ⟨#[]⟩) rfl; have q1 := G4_7.out.cell (i := 7) (v := .string ⟨#[]⟩) rfl
  have q2 := ((G5_7.out.far (p := ⟨w.heap.size + 4, 6, none⟩) (by show _ ≠ w.heap.size + 4; omega) (.string xn3)).far (p := ⟨w.heap.size + 4, 7, none⟩) (by show _ ≠ w.heap.size + 4; omega) (.string xd3)).cell (i := 3) (v := .int .i64 0) rfl
  clear HB_7 G0_7 G1_7 G2_7 G3_7 G4_7 G5_7
  go_upto_region 7 with fail
  have a0 := G4_8.out.cell (i := 0) (v := .string xn0) rfl; have b0 := G4_8.out.cell (i := 1) (v := .string xd0) rfl; have c0 := G5_8.out.cell (i := 0) (v := .int .i64 y0) rfl
  have d0 := G2_8.out.cell (i := 0) (v := .string ⟨#[]⟩) rfl; have e0 := G2_8.out.cell (i := 1) (v := .string ⟨#[]⟩) rfl; have g0 := G3_8.out.cell (i := 0) (v := .int .i64 0) rfl
  have h0 := G2_8.out.frozen 0; have j0 := G2_8.out.frozen 1; have k0 := G3_8.out.frozen 0
  have a1 := G4_8.out.cell (i := 2) (v := .string xn1) rfl; have b1 := G4_8.out.cell (i := 3) (v := .string xd1) rfl; have c1 := G5_8.out.cell (i := 1) (v := .int .i64 y1) rfl
  have d1 := G2_8.out.cell (i := 2) (v := .string ⟨#[]⟩) rfl; have e1 := G2_8.out.cell (i := 3) (v := .string ⟨#[]⟩) rfl; have g1 := G3_8.out.cell (i := 1) (v := .int .i64 0) rfl
  have h1 := G2_8.out.frozen 2; have j1 := G2_8.out.frozen 3; have k1 := G3_8.out.frozen 1
  have a2 := G4_8.out.cell (i := 4) (v := .string xn2) rfl; have b2 := G4_8.out.cell (i := 5) (v := .string xd2) rfl; have c2 := G5_8.out.cell (i := 2) (v := .int .i64 y2) rfl
  have d2 := G2_8.out.cell (i := 4) (v := .string ⟨#[]⟩) rfl; have e2 := G2_8.out.cell (i := 5) (v := .string ⟨#[]⟩) rfl; have g2 := G3_8.out.cell (i := 2) (v := .int .i64 0) rfl
  have h2 := G2_8.out.frozen 4; have j2 := G2_8.out.frozen 5; have k2 := G3_8.out.frozen 2
  have a3 := G4_8.out.cell (i := 6) (v := .string xn3) rfl; have b3 := G4_8.out.cell (i := 7) (v := .string xd3) rfl; have c3 := G5_8.out.cell (i := 3) (v := .int .i64 y3) rfl
  have d3 := G2_8.out.cell (i := 6) (v := .string ⟨#[]⟩) rfl; have e3 := G2_8.out.cell (i := 7) (v := .string ⟨#[]⟩) rfl; have g3 := G3_8.out.cell (i := 3) (v := .int .i64 0) rfl
  have h3 := G2_8.out.frozen 6; have j3 := G2_8.out.frozen 7; have k3 := G3_8.out.frozen 3
  go_region
  have K2 : Blk (((((((((((((((w3.setCell ⟨w.heap.size + 4, 6, none⟩ (.string xn3)).setCell ⟨w.heap.size + 4, 7, none⟩ (.string xd3)).setCell ⟨w.heap.size + 5, 3, none⟩ (.int .i64 y3)).setCell ⟨w.heap.size + 2, 0, none⟩ (.string xn0)).setCell ⟨w.heap.size + 2, 1, none⟩ (.string xd0)).setCell ⟨w.heap.size + 2, 2, none⟩ (.string xn1)).setCell ⟨w.heap.size + 2, 3, none⟩ (.string xd1)).setCell ⟨w.heap.size + 2, 4, none⟩ (.string xn2)).setCell ⟨w.heap.size + 2, 5, none⟩ (.string xd2)).setCell ⟨w.heap.size + 2, 6, none⟩ (.string xn3)).setCell ⟨w.heap.size + 2, 7, none⟩ (.string xd3)).setCell ⟨w.heap.size + 3, 0, none⟩ (.int .i64 y0)).setCell ⟨w.heap.size + 3, 1, none⟩ (.int .i64 y1)).setCell ⟨w.heap.size + 3, 2, none⟩ (.int .i64 y2)).setCell ⟨w.heap.size + 3, 3, none⟩ (.int .i64 y3)) (w.heap.size + 2) 31 #[.string (xn0), .string (xd0), .string (xn1), .string (xd1), .string (xn2), .string (xd2), .string (xn3), .string (xd3)] := ((((((((((((G2_8.out.set 0 (.string xn0)).set 1 (.string xd0)).set 2 (.string xn1)).set 3 (.string xd1)).set 4 (.string xn2)).set 5 (.string xd2)).set 6 (.string xn3)).set 7 (.string xd3)).far (p := ⟨w.heap.size + 3, 0, none⟩) (by show w.heap.size + 2 ≠ w.heap.size + 3; omega) (.int .i64 y0)).far (p := ⟨w.heap.size + 3, 1, none⟩) (by show w.heap.size + 2 ≠ w.heap.size + 3; omega) (.int .i64 y1)).far (p := ⟨w.heap.size + 3, 2, none⟩) (by show w.heap.size + 2 ≠ w.heap.size + 3; omega) (.int .i64 y2)).far (p := ⟨w.heap.size + 3, 3, none⟩) (by show w.heap.size + 2 ≠ w.heap.size + 3; omega) (.int .i64 y3))
  have K3 : Blk (((((((((((((((w3.setCell ⟨w.heap.size + 4, 6, none⟩ (.string xn3)).setCell ⟨w.heap.size + 4, 7, none⟩ (.string xd3)).setCell ⟨w.heap.size + 5, 3, none⟩ (.int .i64 y3)).setCell ⟨w.heap.size + 2, 0, none⟩ (.string xn0)).setCell ⟨w.heap.size + 2, 1, none⟩ (.string xd0)).setCell ⟨w.heap.size + 2, 2, none⟩ (.string xn1)).setCell ⟨w.heap.size + 2, 3, none⟩ (.string xd1)).setCell ⟨w.heap.size + 2, 4, none⟩ (.string xn2)).setCell ⟨w.heap.size + 2, 5, none⟩ (.string xd2)).setCell ⟨w.heap.size + 2, 6, none⟩ (.string xn3)).setCell ⟨w.heap.size + 2, 7, none⟩ (.string xd3)).setCell ⟨w.heap.size + 3, 0, none⟩ (.int .i64 y0)).setCell ⟨w.heap.size + 3, 1, none⟩ (.int .i64 y1)).setCell ⟨w.heap.size + 3, 2, none⟩ (.int .i64 y2)).setCell ⟨w.heap.size + 3, 3, none⟩ (.int .i64 y3)) (w.heap.size + 3) 33 #[.int .i64 (y0), .int .i64 (y1), .int .i64 (y2), .int .i64 (y3)] := ((((((((((((G3_8.out.far (p := ⟨w.heap.size + 2, 0, none⟩) (by show w.heap.size + 3 ≠ w.heap.size + 2; omega) (.string xn0)).far (p := ⟨w.heap.size + 2, 1, none⟩) (by show w.heap.size + 3 ≠ w.heap.size + 2; omega) (.string xd0)).far (p := ⟨w.heap.size + 2, 2, none⟩) (by show w.heap.size + 3 ≠ w.heap.size + 2; omega) (.string xn1)).far (p := ⟨w.heap.size + 2, 3, none⟩) (by show w.heap.size + 3 ≠ w.heap.size + 2; omega) (.string xd1)).far (p := ⟨w.heap.size + 2, 4, none⟩) (by show w.heap.size + 3 ≠ w.heap.size + 2; omega) (.string xn2)).far (p := ⟨w.heap.size + 2, 5, none⟩) (by show w.heap.size + 3 ≠ w.heap.size + 2; omega) (.string xd2)).far (p := ⟨w.heap.size + 2, 6, none⟩) (by show w.heap.size + 3 ≠ w.heap.size + 2; omega) (.string xn3)).far (p := ⟨w.heap.size + 2, 7, none⟩) (by show w.heap.size + 3 ≠ w.heap.size + 2; omega) (.string xd3)).set 0 (.int .i64 y0)).set 1 (.int .i64 y1)).set 2 (.int .i64 y2)).set 3 (.int .i64 y3))
  have KB := ((((((((((((HB_8.out.setCell (p := ⟨w.heap.size + 2, 0, none⟩) (by show w.heap.size ≤ w.heap.size + 2; omega) (.string xn0)).setCell (p := ⟨w.heap.size + 2, 1, none⟩) (by show w.heap.size ≤ w.heap.size + 2; omega) (.string xd0)).setCell (p := ⟨w.heap.size + 2, 2, none⟩) (by show w.heap.size ≤ w.heap.size + 2; omega) (.string xn1)).setCell (p := ⟨w.heap.size + 2, 3, none⟩) (by show w.heap.size ≤ w.heap.size + 2; omega) (.string xd1)).setCell (p := ⟨w.heap.size + 2, 4, none⟩) (by show w.heap.size ≤ w.heap.size + 2; omega) (.string xn2)).setCell (p := ⟨w.heap.size + 2, 5, none⟩) (by show w.heap.size ≤ w.heap.size + 2; omega) (.string xd2)).setCell (p := ⟨w.heap.size + 2, 6, none⟩) (by show w.heap.size ≤ w.heap.size + 2; omega) (.string xn3)).setCell (p := ⟨w.heap.size + 2, 7, none⟩) (by show w.heap.size ≤ w.heap.size + 2; omega) (.string xd3)).setCell (p := ⟨w.heap.size + 3, 0, none⟩) (by show w.heap.size ≤ w.heap.size + 3; omega) (.int .i64 y0)).setCell (p := ⟨w.heap.size + 3, 1, none⟩) (by show w.heap.size ≤ w.heap.size + 3; omega) (.int .i64 y1)).setCell (p := ⟨w.heap.size + 3, 2, none⟩) (by show w.heap.size ≤ w.heap.size + 3; omega) (.int .i64 y2)).setCell (p := ⟨w.heap.size + 3, 3, none⟩) (by show w.heap.size ≤ w.heap.size + 3; omega) (.int .i64 y3))
  have K2 := Lib.hid K2; have K3 := Lib.hid K3; have KB := Lib.hid KB
  go_wp2_with fail
  have r0 := K2.out.cell (i := 0) (v := .string xn0) rfl
  have r1 := K2.out.cell (i := 1) (v := .string xd0) rfl
  have r2 := K2.out.cell (i := 2) (v := .string xn1) rfl
  have r3 := K2.out.cell (i := 3) (v := .string xd1) rfl
  have r4 := K2.out.cell (i := 4) (v := .string xn2) rfl
  have r5 := K2.out.cell (i := 5) (v := .string xd2) rfl
  have r6 := K2.out.cell (i := 6) (v := .string xn3) rfl
  have r7 := K2.out.cell (i := 7) (v := .string xd3) rfl
  have s0 := K3.out.cell (i := 0) (v := .int .i64 y0) rfl
  have s1 := K3.out.cell (i := 1) (v := .int .i64 y1) rfl
  have s2 := K3.out.cell (i := 2) (v := .int .i64 y2) rfl
  have s3 := K3.out.cell (i := 3) (v := .int .i64 y3) rfl
  exact bodyPost_ret (v := .tuple #[.agg #[.string xn0, .string xd0, .string xn1, .string xd1, .string xn2, .string xd2, .string xn3, .string xd3], .agg #[.int .i64 y0, .int .i64 y1, .int .i64 y2, .int .i64 y3]]) (by simp [results, Tryz.results8, go_sem, r0, r1, r2, r3, r4, r5, r6, r7, s0, s1, s2, s3]) rfl ⟨rfl, KB.out.drew⟩
end Go.Proofs.YtgokpdidhpogdaaGreat
