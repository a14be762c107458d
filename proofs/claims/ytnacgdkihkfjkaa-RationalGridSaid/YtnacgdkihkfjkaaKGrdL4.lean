/- RationalGrid: the law's walk. Conditions: ints. -/
import Derived.Test.YtnacgdkihkfjkaaGP
import Derived.Test.YtnacgdkihkfjkaaGL
namespace Go.Proofs.Ytnacgdkihkfjkaa
open Go.RowKit Go.Lib

section
variable {p r : Int × Int} (hp : Good p) {k : Int} (hk : -9223372036854775808 ≤ k ∧ k ≤ 9223372036854775807) (w : World)
include hp hk
theorem down_good (h : gridQ false (some p) k = some r) : Calls Try.prog 28 #[.agg #[.string (zS p.1), .string (zS p.2)], .int .i64 k] w fun e w' => e = .returned (.tuple #[.agg #[.string (zS r.1), .string (zS r.2)], .int .i64 0]) ∧ Below w.heap.size w w' := by
  have h1 := down_any (zS p.1) (zS p.2) k w (good_zs hp) hk
  rw [good_rd hp, h] at h1
  exact h1
theorem up_good (h : gridQ true (some p) k = some r) : Calls Try.prog 29 #[.agg #[.string (zS p.1), .string (zS p.2)], .int .i64 k] w fun e w' => e = .returned (.tuple #[.agg #[.string (zS r.1), .string (zS r.2)], .int .i64 0]) ∧ Below w.heap.size w w' := by
  have h1 := up_any (zS p.1) (zS p.2) k w (good_zs hp) hk
  rw [good_rd hp, h] at h1
  exact h1
end
set_option maxRecDepth 100000 in
set_option maxHeartbeats 40000000 in
theorem grid_law (i0 i1 i2 i3 pl : Int) (w : World) (h0 : -9223372036854775808 ≤ i0 ∧ i0 ≤ 9223372036854775807) (h1 : -9223372036854775808 ≤ i1 ∧ i1 ≤ 9223372036854775807) (h2 : -9223372036854775808 ≤ i2 ∧ i2 ≤ 9223372036854775807) (h3 : -9223372036854775808 ≤ i3 ∧ i3 ≤ 9223372036854775807) (hpl : -9223372036854775808 ≤ pl ∧ pl ≤ 9223372036854775807) :
    Calls Try.prog 7 #[.agg #[.int .i64 i0, .int .i64 i1, .int .i64 i2, .int .i64 i3], .int .i64 pl] w fun e w' => e = .returned (.bool true) ∧ Below w.heap.size w w' := by
  have HSA := Lib.hid (fun W => sane_any W)
  have HLO := Lib.hid (fun W => rlong_any i0 i1 i2 i3 W h0 h1 h2 h3)
  have P1 := Lib.hid (fun W => pick_any pl 31 W hpl (by omega))
  have HTS := Lib.hid tz_succ
  have HIS := Lib.hid (fun a b W => is_any a b W)
  have X_0 : Hid (Blk (w.alloc (.cells #[.int .i64 i0, .int .i64 i1, .int .i64 i2, .int .i64 i3] 24)) w.heap.size 24 #[.int .i64 i0, .int .i64 i1, .int .i64 i2, .int .i64 i3]) := allocs_blk [(#[.int .i64 i0, .int .i64 i1, .int .i64 i2, .int .i64 i3], 24)] w 0 _ rfl
  have HB_0 : Hid (Below w.heap.size w (w.alloc (.cells #[.int .i64 i0, .int .i64 i1, .int .i64 i2, .int .i64 i3] 24))) := allocs_below [(#[.int .i64 i0, .int .i64 i1, .int .i64 i2, .int .i64 i3], 24)] w (Below.refl w.heap.size w) (Nat.le_refl _)
  clear h0 h1 h2 h3 hpl
  go_enter Try.func7, Try.ntmps7
  go_wp2_with fail
  refine (HSA.out _).mono ?_
  rintro e v0 ⟨rfl, hb⟩
  have X_1 : Hid (Blk v0 w.heap.size 24 #[.int .i64 i0, .int .i64 i1, .int .i64 i2, .int .i64 i3]) := Lib.hid (X_0.out.below hb X_0.out.lt)
  have HB_1 : Hid (Below w.heap.size w v0) := Lib.hid (HB_0.out.trans (hb.mono HB_0.out.size))
  clear hb X_0 HB_0
  have y0 := X_1.out.cell (i := 0) (v := .int .i64 i0) rfl; have y1 := X_1.out.cell (i := 1) (v := .int .i64 i1) rfl; have y2 := X_1.out.cell (i := 2) (v := .int .i64 i2) rfl; have y3 := X_1.out.cell (i := 3) (v := .int .i64 i3) rfl
  go_wp2_with fail
  refine (HLO.out _).mono ?_
  rintro e v1 ⟨n, d, hl, hn9, hd9, rfl, hb⟩
  have HL : Hid (Low n d) := hl; have HN : Hid (n.natAbs < 10 ^ 100) := hn9; have HG : Hid (Good (n, d)) := ⟨hl, lt200 hn9 (by omega), lt200 hd9 (by omega)⟩
  clear hl hn9 hd9
  clear y0 y1 y2 y3
  have HB_2 : Hid (Below w.heap.size w (v1.alloc (.cells #[.string (zS n), .string (zS d)] 23))) := Lib.hid (allocs_below [(#[.string (zS n), .string (zS d)], 23)] _ (HB_1.out.trans (hb.mono HB_1.out.size)) (HB_1.out.trans (hb.mono HB_1.out.size)).size)
  have R_2 : Hid (Blk (v1.alloc (.cells #[.string (zS n), .string (zS d)] 23)) v1.heap.size 23 #[.string (zS n), .string (zS d)]) := Lib.hid (allocs_blk [(#[.string (zS n), .string (zS d)], 23)] v1 0 _ rfl)
  clear hb X_1 HB_1
  go_wp2_with fail
  refine (P1.out _).mono ?_
  rintro e wp ⟨k, hk, rfl, rfl⟩
  have hk9 : k ≤ 30 := by omega
  obtain ⟨⟨a1, a2⟩, ⟨b1, b2⟩, ⟨c1, c2⟩, ⟨fm, fd⟩, ga, gb, gc, gf, q1, q2, q3, e3, q4, q5, q6, e6, hcase⟩ := grid_says HL.out HN.out hk9
  obtain ⟨rfl, rfl⟩ := Prod.mk.inj e3
  have e6' : fd = 1 := e6
  subst e6'
  have hkk : -9223372036854775808 ≤ (k : Int) ∧ (k : Int) ≤ 9223372036854775807 := by omega
  have gn := (neg_ok HG.out).2
  have D1 : Hid (∀ W, Calls Try.prog 28 #[.agg #[.string (zS n), .string (zS d)], .int .i64 (k : Nat)] W fun e w' => e = .returned (.tuple #[.agg #[.string (zS a1), .string (zS a2)], .int .i64 0]) ∧ Below W.heap.size W w') := fun W => down_good HG.out hkk W q1
  have U1 : Hid (∀ W, Calls Try.prog 29 #[.agg #[.string (zS n), .string (zS d)], .int .i64 (k : Nat)] W fun e w' => e = .returned (.tuple #[.agg #[.string (zS (-c1)), .string (zS c2)], .int .i64 0]) ∧ Below W.heap.size W w') := fun W => up_good HG.out hkk W q2
  have M1 : Hid (∀ W, Calls Try.prog 30 #[.agg #[.string (zS n), .string (zS d)]] W fun e w' => e = .returned (.agg #[.string (zS (-n)), .string (zS d)]) ∧ Below W.heap.size W w') := fun W => minus_any HG.out W
  have D2 : Hid (∀ W, Calls Try.prog 28 #[.agg #[.string (zS (-n)), .string (zS d)], .int .i64 (k : Nat)] W fun e w' => e = .returned (.tuple #[.agg #[.string (zS c1), .string (zS c2)], .int .i64 0]) ∧ Below W.heap.size W w') := fun W => down_good gn hkk W q3
  have M2 : Hid (∀ W, Calls Try.prog 30 #[.agg #[.string (zS c1), .string (zS c2)]] W fun e w' => e = .returned (.agg #[.string (zS (-c1)), .string (zS c2)]) ∧ Below W.heap.size W w') := fun W => minus_any gc W
  have D3 : Hid (∀ W, Calls Try.prog 28 #[.agg #[.string (zS (-c1)), .string (zS c2)], .int .i64 (k : Nat)] W fun e w' => e = .returned (.tuple #[.agg #[.string (zS (-c1)), .string (zS c2)], .int .i64 0]) ∧ Below W.heap.size W w') := fun W => down_good gb hkk W q4
  have U2 : Hid (∀ W, Calls Try.prog 29 #[.agg #[.string (zS a1), .string (zS a2)], .int .i64 (k : Nat)] W fun e w' => e = .returned (.tuple #[.agg #[.string (zS a1), .string (zS a2)], .int .i64 0]) ∧ Below W.heap.size W w') := fun W => up_good ga hkk W q5
  have hM := fun W => mulc_good ga (q := (((10 ^ k : Nat) : Int), 1)) ⟨⟨by omega, Nat.gcd_one_right _⟩, ten_lt (by omega), by show (1 : Int).natAbs < 10 ^ 200; decide⟩ W
  rw [q6] at hM
  unfold OpR rV at hM
  have ML : Hid (∀ W, Calls Try.prog 25 #[.agg #[.string (zS a1), .string (zS a2)], .agg #[.string (tz k), .string (⟨#[49]⟩)]] W fun e w' => e = .returned (.tuple #[.agg #[.string (zS fm), .string (⟨#[49]⟩)], .int .i64 0]) ∧ Below W.heap.size W w') := fun W => by
    have h := hM W
    rw [show zS ((((10 ^ k : Nat) : Int), (1 : Int)).1) = tz k from tz_z (by omega), show zS ((((10 ^ k : Nat) : Int), (1 : Int)).2) = (⟨#[49]⟩ : ByteArray) from zS_one, show qN (some (fm, 1)) = zS fm from rfl, show qD (some (fm, 1)) = (⟨#[49]⟩ : ByteArray) from zS_one] at h
    exact h
  have hSB := fun W => sub_good gb ga W
  unfold OpR rV at hSB
  have hC1 := fun W => cmpc_good ga HG.out W; have hC2 := fun W => cmpc_good gb HG.out W
  unfold CmpR rV at hC1 hC2
  obtain ⟨vA, vB, wn, wd, hx, C1, C2, SB⟩ : ∃ (vA vB : Int) (wn wd : ByteArray), ((vA = 0 ∧ vB = 0 ∧ wn = ⟨#[48]⟩ ∧ wd = ⟨#[49]⟩) ∨ (vA = -1 ∧ vB = 1 ∧ wn = ⟨#[49]⟩ ∧ wd = tz k)) ∧ Hid (∀ W, Calls Try.prog 22 #[.agg #[.string (zS a1), .string (zS a2)], .agg #[.string (zS n), .string (zS d)]] W fun e w' => e = .returned (.int .i64 vA) ∧ Below W.heap.size W w') ∧ Hid (∀ W, Calls Try.prog 22 #[.agg #[.string (zS (-c1)), .string (zS c2)], .agg #[.string (zS n), .string (zS d)]] W fun e w' => e = .returned (.int .i64 vB) ∧ Below W.heap.size W w') ∧ Hid (∀ W, Calls Try.prog 26 #[.agg #[.string (zS (-c1)), .string (zS c2)], .agg #[.string (zS a1), .string (zS a2)]] W fun e w' => e = .returned (.tuple #[.agg #[.string (wn), .string (wd)], .int .i64 0]) ∧ Below W.heap.size W w') := by
    rcases hcase with ⟨z1, z2, z3⟩ | ⟨z1, z2, z3⟩
    · refine ⟨0, 0, ⟨#[48]⟩, ⟨#[49]⟩, .inl ⟨rfl, rfl, rfl, rfl⟩, fun W => ?_, fun W => ?_, fun W => ?_⟩
      · have h := hC1 W; rw [z1] at h; exact h
      · have h := hC2 W; rw [z2] at h; exact h
      · have h := hSB W; rw [z3, show qN (some ((0 : Int), (1 : Int))) = (⟨#[48]⟩ : ByteArray) from zS_zero, show qD (some ((0 : Int), (1 : Int))) = (⟨#[49]⟩ : ByteArray) from zS_one] at h; exact h
    · refine ⟨-1, 1, ⟨#[49]⟩, tz k, .inr ⟨rfl, rfl, rfl, rfl⟩, fun W => ?_, fun W => ?_, fun W => ?_⟩
      · have h := hC1 W; rw [z1] at h; exact h
      · have h := hC2 W; rw [z2] at h; exact h
      · have h := hSB W; rw [z3, show qN (some ((1 : Int), (((10 ^ k : Nat) : Int)))) = (⟨#[49]⟩ : ByteArray) from zS_one, show qD (some ((1 : Int), (((10 ^ k : Nat) : Int)))) = tz k from tz_z (by omega)] at h; exact h
  have HX := Lib.hid hx
  clear hk ga gb gc gf q1 q2 q3 q4 q5 q6 e3 e6 hcase hkk gn hM hSB hC1 hC2 hx HL HN P1 HLO HSA
  go_wp2_with fail
  go_loopw [7, 8] (fun s ii wr => ∃ j : Nat, ii = .int .i64 j ∧ j ≤ k ∧ s = .string (tz j) ∧ (v1.alloc (.cells #[.string (zS n), .string (zS d)] 23)) = wr) (fun _ ii _ => k - (intOf ii).toNat)
  case atStart => exact ⟨0, rfl, Nat.zero_le _, rfl, rfl⟩
  case round =>
    obtain ⟨j, rfl, hj, rfl, rfl⟩ := hrel
    have hsz := tz_size j
    by_cases hlt : j < k
    · have h2 := HTS.out j
      go_wp2_with fail
      go_roundw
      case rel => exact ⟨j + 1, by go_num, by omega, rfl, trivial⟩
      case measure => simp [intOf]; omega
    · obtain rfl : k = j := by omega
      clear hj hsz hlt HTS
      have y0 := R_2.out.cell (i := 0) (v := .string (zS n)) rfl; have y1 := R_2.out.cell (i := 1) (v := .string (zS d)) rfl
      go_wp2_with fail
      refine (D1.out _).mono ?_
      rintro e v2 ⟨rfl, hb⟩
      clear y0 y1
      have R_3 : Hid (Blk (v2.alloc (.cells #[.string (zS a1), .string (zS a2)] 23)) v1.heap.size 23 #[.string (zS n), .string (zS d)]) := Lib.hid (allocs_keep [(#[.string (zS a1), .string (zS a2)], 23)] _ (R_2.out.below hb R_2.out.lt))
      have HB_3 : Hid (Below w.heap.size w (v2.alloc (.cells #[.string (zS a1), .string (zS a2)] 23))) := Lib.hid (allocs_below [(#[.string (zS a1), .string (zS a2)], 23)] _ (HB_2.out.trans (hb.mono HB_2.out.size)) (HB_2.out.trans (hb.mono HB_2.out.size)).size)
      have A_3 : Hid (Blk (v2.alloc (.cells #[.string (zS a1), .string (zS a2)] 23)) v2.heap.size 23 #[.string (zS a1), .string (zS a2)]) := Lib.hid (allocs_blk [(#[.string (zS a1), .string (zS a2)], 23)] v2 0 _ rfl)
      clear hb R_2 HB_2
      have y0 := R_3.out.cell (i := 0) (v := .string (zS n)) rfl; have y1 := R_3.out.cell (i := 1) (v := .string (zS d)) rfl
      go_wp2_with fail
      refine (U1.out _).mono ?_
      rintro e v3 ⟨rfl, hb⟩
      clear y0 y1
      have R_4 : Hid (Blk (v3.alloc (.cells #[.string (zS (-c1)), .string (zS c2)] 23)) v1.heap.size 23 #[.string (zS n), .string (zS d)]) := Lib.hid (allocs_keep [(#[.string (zS (-c1)), .string (zS c2)], 23)] _ (R_3.out.below hb R_3.out.lt))
      have A_4 : Hid (Blk (v3.alloc (.cells #[.string (zS (-c1)), .string (zS c2)] 23)) v2.heap.size 23 #[.string (zS a1), .string (zS a2)]) := Lib.hid (allocs_keep [(#[.string (zS (-c1)), .string (zS c2)], 23)] _ (A_3.out.below hb A_3.out.lt))
      have HB_4 : Hid (Below w.heap.size w (v3.alloc (.cells #[.string (zS (-c1)), .string (zS c2)] 23))) := Lib.hid (allocs_below [(#[.string (zS (-c1)), .string (zS c2)], 23)] _ (HB_3.out.trans (hb.mono HB_3.out.size)) (HB_3.out.trans (hb.mono HB_3.out.size)).size)
      have B_4 : Hid (Blk (v3.alloc (.cells #[.string (zS (-c1)), .string (zS c2)] 23)) v3.heap.size 23 #[.string (zS (-c1)), .string (zS c2)]) := Lib.hid (allocs_blk [(#[.string (zS (-c1)), .string (zS c2)], 23)] v3 0 _ rfl)
      clear hb R_3 A_3 HB_3
      have y0 := R_4.out.cell (i := 0) (v := .string (zS n)) rfl; have y1 := R_4.out.cell (i := 1) (v := .string (zS d)) rfl
      go_wp2_with fail
      refine (M1.out _).mono ?_
      rintro e v4 ⟨rfl, hb⟩
      clear y0 y1
      have R_5 : Hid (Blk v4 v1.heap.size 23 #[.string (zS n), .string (zS d)]) := Lib.hid (R_4.out.below hb R_4.out.lt)
      have A_5 : Hid (Blk v4 v2.heap.size 23 #[.string (zS a1), .string (zS a2)]) := Lib.hid (A_4.out.below hb A_4.out.lt)
      have B_5 : Hid (Blk v4 v3.heap.size 23 #[.string (zS (-c1)), .string (zS c2)]) := Lib.hid (B_4.out.below hb B_4.out.lt)
      have HB_5 : Hid (Below w.heap.size w v4) := Lib.hid (HB_4.out.trans (hb.mono HB_4.out.size))
      clear hb R_4 A_4 B_4 HB_4
      go_wp2_with fail
      refine (D2.out _).mono ?_
      rintro e v5 ⟨rfl, hb⟩
      have R_6 : Hid (Blk (v5.alloc (.cells #[.string (zS c1), .string (zS c2)] 23)) v1.heap.size 23 #[.string (zS n), .string (zS d)]) := Lib.hid (allocs_keep [(#[.string (zS c1), .string (zS c2)], 23)] _ (R_5.out.below hb R_5.out.lt))
      have A_6 : Hid (Blk (v5.alloc (.cells #[.string (zS c1), .string (zS c2)] 23)) v2.heap.size 23 #[.string (zS a1), .string (zS a2)]) := Lib.hid (allocs_keep [(#[.string (zS c1), .string (zS c2)], 23)] _ (A_5.out.below hb A_5.out.lt))
      have B_6 : Hid (Blk (v5.alloc (.cells #[.string (zS c1), .string (zS c2)] 23)) v3.heap.size 23 #[.string (zS (-c1)), .string (zS c2)]) := Lib.hid (allocs_keep [(#[.string (zS c1), .string (zS c2)], 23)] _ (B_5.out.below hb B_5.out.lt))
      have HB_6 : Hid (Below w.heap.size w (v5.alloc (.cells #[.string (zS c1), .string (zS c2)] 23))) := Lib.hid (allocs_below [(#[.string (zS c1), .string (zS c2)], 23)] _ (HB_5.out.trans (hb.mono HB_5.out.size)) (HB_5.out.trans (hb.mono HB_5.out.size)).size)
      have C_6 : Hid (Blk (v5.alloc (.cells #[.string (zS c1), .string (zS c2)] 23)) v5.heap.size 23 #[.string (zS c1), .string (zS c2)]) := Lib.hid (allocs_blk [(#[.string (zS c1), .string (zS c2)], 23)] v5 0 _ rfl)
      clear hb R_5 A_5 B_5 HB_5
      go_upto_region 12 with fail
      obtain ⟨pA, pB⟩ : decide (0 < vA) = false ∧ decide (vB < 0) = false := by rcases HX.out with ⟨h1, h2, -, -⟩ | ⟨h1, h2, -, -⟩ <;> subst h1 h2 <;> decide
      go_cut [83] from 56 to 83 (fun b wx => b = .bool false ∧ Below (v5.alloc (.cells #[.string (zS c1), .string (zS c2)] 23)).heap.size (v5.alloc (.cells #[.string (zS c1), .string (zS c2)] 23)) wx)
      case first =>
        have HK : Hid (∀ w', Below (v5.alloc (.cells #[.string (zS c1), .string (zS c2)] 23)).heap.size (v5.alloc (.cells #[.string (zS c1), .string (zS c2)] 23)) w' → (w'.cell? ⟨v1.heap.size, 0, none⟩ = some (.string (zS n)) ∧ w'.cell? ⟨v1.heap.size, 1, none⟩ = some (.string (zS d))) ∧ (w'.cell? ⟨v2.heap.size, 0, none⟩ = some (.string (zS a1)) ∧ w'.cell? ⟨v2.heap.size, 1, none⟩ = some (.string (zS a2))) ∧ (w'.cell? ⟨v3.heap.size, 0, none⟩ = some (.string (zS (-c1))) ∧ w'.cell? ⟨v3.heap.size, 1, none⟩ = some (.string (zS c2))) ∧ (w'.cell? ⟨v5.heap.size, 0, none⟩ = some (.string (zS c1)) ∧ w'.cell? ⟨v5.heap.size, 1, none⟩ = some (.string (zS c2)))) := fun W hW => ⟨⟨(R_6.out.below hW R_6.out.lt).cell (i := 0) rfl, (R_6.out.below hW R_6.out.lt).cell (i := 1) rfl⟩, ⟨(A_6.out.below hW A_6.out.lt).cell (i := 0) rfl, (A_6.out.below hW A_6.out.lt).cell (i := 1) rfl⟩, ⟨(B_6.out.below hW B_6.out.lt).cell (i := 0) rfl, (B_6.out.below hW B_6.out.lt).cell (i := 1) rfl⟩, ⟨(C_6.out.below hW C_6.out.lt).cell (i := 0) rfl, (C_6.out.below hW C_6.out.lt).cell (i := 1) rfl⟩⟩
        have HY : Hid (Below (v5.alloc (.cells #[.string (zS c1), .string (zS c2)] 23)).heap.size (v5.alloc (.cells #[.string (zS c1), .string (zS c2)] 23)) (v5.alloc (.cells #[.string (zS c1), .string (zS c2)] 23)).drew) := (Below.refl _ _).drew
        have hk0 := HK.out _ HY.out
        go_region_held3 (fun w' => (w'.cell? ⟨v1.heap.size, 0, none⟩ = some (.string (zS n)) ∧ w'.cell? ⟨v1.heap.size, 1, none⟩ = some (.string (zS d))) ∧ (w'.cell? ⟨v2.heap.size, 0, none⟩ = some (.string (zS a1)) ∧ w'.cell? ⟨v2.heap.size, 1, none⟩ = some (.string (zS a2))) ∧ (w'.cell? ⟨v3.heap.size, 0, none⟩ = some (.string (zS (-c1))) ∧ w'.cell? ⟨v3.heap.size, 1, none⟩ = some (.string (zS c2))) ∧ (w'.cell? ⟨v5.heap.size, 0, none⟩ = some (.string (zS c1)) ∧ w'.cell? ⟨v5.heap.size, 1, none⟩ = some (.string (zS c2)))) (first | exact HK.out _ HY.out | exact hk0 | go_keep)
          (first | (go_at_call 30; (with_reducible refine (M2.out _).mono ?_); rintro e v ⟨rfl, h9⟩; have HY := Lib.hid (HY.out.trans (h9.mono HY.out.size)); clear h9) | (go_at_call 22; (with_reducible refine (C1.out _).mono ?_); rintro e v ⟨rfl, h9⟩; have HY := Lib.hid (HY.out.trans (h9.mono HY.out.size)); clear h9) | (go_at_call 22; (with_reducible refine (C2.out _).mono ?_); rintro e v ⟨rfl, h9⟩; have HY := Lib.hid (HY.out.trans (h9.mono HY.out.size)); clear h9))
        all_goals
          go_wp2_with fail
          go_meet
          exact ⟨rfl, HY.out⟩
      case rest =>
        obtain ⟨rfl, hcb⟩ := hcut
        clear pA pB M2
        have R_7 := Lib.hid (R_6.out.below hcb R_6.out.lt)
        have A_7 := Lib.hid (A_6.out.below hcb A_6.out.lt)
        have B_7 := Lib.hid (B_6.out.below hcb B_6.out.lt)
        have C_7 := Lib.hid (C_6.out.below hcb C_6.out.lt)
        have HB_7 := Lib.hid (HB_6.out.trans (hcb.mono HB_6.out.size))
        clear hcb R_6 A_6 B_6 C_6 HB_6
        have y0 := B_7.out.cell (i := 0) (v := .string (zS (-c1))) rfl; have y1 := B_7.out.cell (i := 1) (v := .string (zS c2)) rfl
        go_wp2_with fail
        refine (D3.out _).mono ?_
        rintro e v7 ⟨rfl, hb⟩
        clear y0 y1
        have R_8 : Hid (Blk (v7.alloc (.cells #[.string (zS (-c1)), .string (zS c2)] 23)) v1.heap.size 23 #[.string (zS n), .string (zS d)]) := Lib.hid (allocs_keep [(#[.string (zS (-c1)), .string (zS c2)], 23)] _ (R_7.out.below hb R_7.out.lt))
        have A_8 : Hid (Blk (v7.alloc (.cells #[.string (zS (-c1)), .string (zS c2)] 23)) v2.heap.size 23 #[.string (zS a1), .string (zS a2)]) := Lib.hid (allocs_keep [(#[.string (zS (-c1)), .string (zS c2)], 23)] _ (A_7.out.below hb A_7.out.lt))
        have B_8 : Hid (Blk (v7.alloc (.cells #[.string (zS (-c1)), .string (zS c2)] 23)) v3.heap.size 23 #[.string (zS (-c1)), .string (zS c2)]) := Lib.hid (allocs_keep [(#[.string (zS (-c1)), .string (zS c2)], 23)] _ (B_7.out.below hb B_7.out.lt))
        have HB_8 : Hid (Below w.heap.size w (v7.alloc (.cells #[.string (zS (-c1)), .string (zS c2)] 23))) := Lib.hid (allocs_below [(#[.string (zS (-c1)), .string (zS c2)], 23)] _ (HB_7.out.trans (hb.mono HB_7.out.size)) (HB_7.out.trans (hb.mono HB_7.out.size)).size)
        have G_8 : Hid (Blk (v7.alloc (.cells #[.string (zS (-c1)), .string (zS c2)] 23)) v7.heap.size 23 #[.string (zS (-c1)), .string (zS c2)]) := Lib.hid (allocs_blk [(#[.string (zS (-c1)), .string (zS c2)], 23)] v7 0 _ rfl)
        clear hb R_7 A_7 B_7 C_7 HB_7
        have y0 := A_8.out.cell (i := 0) (v := .string (zS a1)) rfl; have y1 := A_8.out.cell (i := 1) (v := .string (zS a2)) rfl
        go_wp2_with fail
        refine (U2.out _).mono ?_
        rintro e v8 ⟨rfl, hb⟩
        clear y0 y1
        have R_9 : Hid (Blk (v8.alloc (.cells #[.string (zS a1), .string (zS a2)] 23)) v1.heap.size 23 #[.string (zS n), .string (zS d)]) := Lib.hid (allocs_keep [(#[.string (zS a1), .string (zS a2)], 23)] _ (R_8.out.below hb R_8.out.lt))
        have A_9 : Hid (Blk (v8.alloc (.cells #[.string (zS a1), .string (zS a2)] 23)) v2.heap.size 23 #[.string (zS a1), .string (zS a2)]) := Lib.hid (allocs_keep [(#[.string (zS a1), .string (zS a2)], 23)] _ (A_8.out.below hb A_8.out.lt))
        have B_9 : Hid (Blk (v8.alloc (.cells #[.string (zS a1), .string (zS a2)] 23)) v3.heap.size 23 #[.string (zS (-c1)), .string (zS c2)]) := Lib.hid (allocs_keep [(#[.string (zS a1), .string (zS a2)], 23)] _ (B_8.out.below hb B_8.out.lt))
        have G_9 : Hid (Blk (v8.alloc (.cells #[.string (zS a1), .string (zS a2)] 23)) v7.heap.size 23 #[.string (zS (-c1)), .string (zS c2)]) := Lib.hid (allocs_keep [(#[.string (zS a1), .string (zS a2)], 23)] _ (G_8.out.below hb G_8.out.lt))
        have HB_9 : Hid (Below w.heap.size w (v8.alloc (.cells #[.string (zS a1), .string (zS a2)] 23))) := Lib.hid (allocs_below [(#[.string (zS a1), .string (zS a2)], 23)] _ (HB_8.out.trans (hb.mono HB_8.out.size)) (HB_8.out.trans (hb.mono HB_8.out.size)).size)
        have E_9 : Hid (Blk (v8.alloc (.cells #[.string (zS a1), .string (zS a2)] 23)) v8.heap.size 23 #[.string (zS a1), .string (zS a2)]) := Lib.hid (allocs_blk [(#[.string (zS a1), .string (zS a2)], 23)] v8 0 _ rfl)
        clear hb R_8 A_8 B_8 G_8 HB_8
        go_upto_region 16 with fail
        go_cut [19, 20] from 97 to 102 (fun p e wx => e = .int .i64 0 ∧ Below (v8.alloc (.cells #[.string (zS a1), .string (zS a2)] 23)).heap.size (v8.alloc (.cells #[.string (zS a1), .string (zS a2)] 23)) wx ∧ ∃ b, p = .pointer (some ⟨b, 0, none⟩) ∧ Blk wx b 23 #[.string (zS fm), .string ⟨#[49]⟩])
        case first =>
          have HK : Hid (∀ w', Below (v8.alloc (.cells #[.string (zS a1), .string (zS a2)] 23)).heap.size (v8.alloc (.cells #[.string (zS a1), .string (zS a2)] 23)) w' → w'.cell? ⟨v2.heap.size, 0, none⟩ = some (.string (zS a1)) ∧ w'.cell? ⟨v2.heap.size, 1, none⟩ = some (.string (zS a2))) := fun W hW => ⟨(A_9.out.below hW A_9.out.lt).cell (i := 0) rfl, (A_9.out.below hW A_9.out.lt).cell (i := 1) rfl⟩
          have hk0 := HK.out _ (Below.refl _ _).drew
          have hs4 : (v8.alloc (.cells #[.string (zS a1), .string (zS a2)] 23)).heap.size = v8.heap.size + 1 := by simp
          go_region_held3 (fun w' => w'.cell? ⟨v2.heap.size, 0, none⟩ = some (.string (zS a1)) ∧ w'.cell? ⟨v2.heap.size, 1, none⟩ = some (.string (zS a2))) (first | exact HK.out _ ((Below.refl _ _).alloc (Nat.le_refl _) _).drew | exact HK.out _ ((x6b.setCell x6a.size _).setCell x6a.size _) | exact HK.out _ ((x6b.setCell h5s _).setCell h5s _) | exact HK.out _ (x6b.alloc x6b.size _) | exact HK.out _ x6b | exact HK.out _ (x6a.alloc x6a.size _) | exact HK.out _ x6a | exact hk0 | go_keep)
            (first
              | (go_at_call 27; (with_reducible refine (is_any _ _ _).mono ?_); rintro e v6 ⟨rfl, h6_1⟩; have x6a : Below (v8.alloc (.cells #[.string (zS a1), .string (zS a2)] 23)).heap.size (v8.alloc (.cells #[.string (zS a1), .string (zS a2)] 23)) v6 := ((Below.refl _ _).drew.trans h6_1))
              | (go_at_call 27; (with_reducible refine (is_any _ _ _).mono ?_); rintro e v6 ⟨rfl, h6_1⟩; have x6a : Below (v8.alloc (.cells #[.string (zS a1), .string (zS a2)] 23)).heap.size (v8.alloc (.cells #[.string (zS a1), .string (zS a2)] 23)) v6 := (((Below.refl _ _).alloc (Nat.le_refl _) _).drew.trans (h6_1.mono (by simp))); have h5s : (v8.alloc (.cells #[.string (zS a1), .string (zS a2)] 23)).heap.size ≤ v8.heap.size + 1 := (by simp); have hz0 : Blk v6 (v8.heap.size + 1) 23 #[.string ⟨#[]⟩, .string ⟨#[]⟩] := (by have h := ((Blk.new (v8.alloc (.cells #[.string (zS a1), .string (zS a2)] 23)) 23 #[.string ⟨#[]⟩, .string ⟨#[]⟩]).drew).below h6_1 (by simp); rw [hs4] at h; exact h))
              | (go_at_call 25; (with_reducible refine (ML.out _).mono ?_); rintro e w6 ⟨rfl, h6_2⟩; have x6b : Below (v8.alloc (.cells #[.string (zS a1), .string (zS a2)] 23)).heap.size (v8.alloc (.cells #[.string (zS a1), .string (zS a2)] 23)) w6 := x6a.trans (h6_2.mono x6a.size); have hz := hz0.below h6_2 hz0.lt; have z0 := hz.cell (i := 0) rfl; have z1 := hz.cell (i := 1) rfl; have f0 := hz.frozen 0; have f1 := hz.frozen 1)
              | (go_at_call 25; (with_reducible refine (ML.out _).mono ?_); rintro e w6 ⟨rfl, h6_2⟩; have x6b : Below (v8.alloc (.cells #[.string (zS a1), .string (zS a2)] 23)).heap.size (v8.alloc (.cells #[.string (zS a1), .string (zS a2)] 23)) w6 := x6a.trans (h6_2.mono x6a.size))
              | (go_at_call 25; (with_reducible refine (ML.out _).mono ?_); rintro e w6 ⟨rfl, h6_2⟩; have x6b : Below (v8.alloc (.cells #[.string (zS a1), .string (zS a2)] 23)).heap.size (v8.alloc (.cells #[.string (zS a1), .string (zS a2)] 23)) w6 := (x6a.alloc x6a.size _).trans (h6_2.mono (x6a.alloc x6a.size _).size); have hz := (Blk.new v6 23 #[.string ⟨#[]⟩, .string ⟨#[]⟩]).below h6_2 (by simp); have z0 := hz.cell (i := 0) rfl; have z1 := hz.cell (i := 1) rfl; have f0 := hz.frozen 0; have f1 := hz.frozen 1))
          all_goals
            go_wp2_with fail
            go_meet
            first
              | exact ⟨rfl, (x6b.setCell x6a.size _).setCell x6a.size _, _, rfl, (hz.set 0 (.string (zS fm))).set 1 (.string ⟨#[49]⟩)⟩
              | exact ⟨rfl, (x6b.setCell h5s _).setCell h5s _, _, rfl, (hz.set 0 (.string (zS fm))).set 1 (.string ⟨#[49]⟩)⟩
              | exact ⟨rfl, x6b.alloc x6b.size _, _, rfl, Blk.new w6 _ _⟩
        case rest =>
          obtain ⟨rfl, hcb, sb, rfl, hsm⟩ := hcut
          have R_10 := Lib.hid (R_9.out.below hcb R_9.out.lt)
          have A_10 := Lib.hid (A_9.out.below hcb A_9.out.lt)
          have B_10 := Lib.hid (B_9.out.below hcb B_9.out.lt)
          have G_10 := Lib.hid (G_9.out.below hcb G_9.out.lt)
          have E_10 := Lib.hid (E_9.out.below hcb E_9.out.lt)
          have HB_10 := Lib.hid (HB_9.out.trans (hcb.mono HB_9.out.size))
          clear hcb R_9 A_9 B_9 G_9 E_9 HB_9
          have N_10 := Lib.hid hsm
          clear hsm
          have hsz := tz_size k
          obtain ⟨rfl, rfl, rfl, rfl⟩ | ⟨rfl, rfl, rfl, rfl⟩ := HX.out
          · clear HX
            have y0 := B_10.out.cell (i := 0) (v := .string (zS (-c1))) rfl; have y1 := B_10.out.cell (i := 1) (v := .string (zS c2)) rfl
            have y2 := A_10.out.cell (i := 0) (v := .string (zS a1)) rfl; have y3 := A_10.out.cell (i := 1) (v := .string (zS a2)) rfl
            go_wp2_with fail
            refine (SB.out _).mono ?_
            rintro e v10 ⟨rfl, hb⟩
            clear y0 y1 y2 y3
            have R_11 : Hid (Blk (v10.alloc (.cells #[.string (⟨#[48]⟩), .string (⟨#[49]⟩)] 23)) v1.heap.size 23 #[.string (zS n), .string (zS d)]) := Lib.hid (allocs_keep [(#[.string (⟨#[48]⟩), .string (⟨#[49]⟩)], 23)] _ (R_10.out.below hb R_10.out.lt))
            have A_11 : Hid (Blk (v10.alloc (.cells #[.string (⟨#[48]⟩), .string (⟨#[49]⟩)] 23)) v2.heap.size 23 #[.string (zS a1), .string (zS a2)]) := Lib.hid (allocs_keep [(#[.string (⟨#[48]⟩), .string (⟨#[49]⟩)], 23)] _ (A_10.out.below hb A_10.out.lt))
            have B_11 : Hid (Blk (v10.alloc (.cells #[.string (⟨#[48]⟩), .string (⟨#[49]⟩)] 23)) v3.heap.size 23 #[.string (zS (-c1)), .string (zS c2)]) := Lib.hid (allocs_keep [(#[.string (⟨#[48]⟩), .string (⟨#[49]⟩)], 23)] _ (B_10.out.below hb B_10.out.lt))
            have G_11 : Hid (Blk (v10.alloc (.cells #[.string (⟨#[48]⟩), .string (⟨#[49]⟩)] 23)) v7.heap.size 23 #[.string (zS (-c1)), .string (zS c2)]) := Lib.hid (allocs_keep [(#[.string (⟨#[48]⟩), .string (⟨#[49]⟩)], 23)] _ (G_10.out.below hb G_10.out.lt))
            have E_11 : Hid (Blk (v10.alloc (.cells #[.string (⟨#[48]⟩), .string (⟨#[49]⟩)] 23)) v8.heap.size 23 #[.string (zS a1), .string (zS a2)]) := Lib.hid (allocs_keep [(#[.string (⟨#[48]⟩), .string (⟨#[49]⟩)], 23)] _ (E_10.out.below hb E_10.out.lt))
            have N_11 : Hid (Blk (v10.alloc (.cells #[.string (⟨#[48]⟩), .string (⟨#[49]⟩)] 23)) sb 23 #[.string (zS fm), .string (⟨#[49]⟩)]) := Lib.hid (allocs_keep [(#[.string (⟨#[48]⟩), .string (⟨#[49]⟩)], 23)] _ (N_10.out.below hb N_10.out.lt))
            have HB_11 : Hid (Below w.heap.size w (v10.alloc (.cells #[.string (⟨#[48]⟩), .string (⟨#[49]⟩)] 23))) := Lib.hid (allocs_below [(#[.string (⟨#[48]⟩), .string (⟨#[49]⟩)], 23)] _ (HB_10.out.trans (hb.mono HB_10.out.size)) (HB_10.out.trans (hb.mono HB_10.out.size)).size)
            have D_11 : Hid (Blk (v10.alloc (.cells #[.string (⟨#[48]⟩), .string (⟨#[49]⟩)] 23)) v10.heap.size 23 #[.string (⟨#[48]⟩), .string (⟨#[49]⟩)]) := Lib.hid (allocs_blk [(#[.string (⟨#[48]⟩), .string (⟨#[49]⟩)], 23)] v10 0 _ rfl)
            clear hb R_10 A_10 B_10 G_10 E_10 N_10 HB_10
            have y0 := A_11.out.cell (i := 0) (v := .string (zS a1)) rfl; have y1 := A_11.out.cell (i := 1) (v := .string (zS a2)) rfl
            have y2 := R_11.out.cell (i := 0) (v := .string (zS n)) rfl; have y3 := R_11.out.cell (i := 1) (v := .string (zS d)) rfl
            go_wp2_with fail
            refine (C1.out _).mono ?_
            rintro e v11 ⟨rfl, hb⟩
            clear y0 y1 y2 y3
            have R_12 : Hid (Blk v11 v1.heap.size 23 #[.string (zS n), .string (zS d)]) := Lib.hid (R_11.out.below hb R_11.out.lt)
            have A_12 : Hid (Blk v11 v2.heap.size 23 #[.string (zS a1), .string (zS a2)]) := Lib.hid (A_11.out.below hb A_11.out.lt)
            have B_12 : Hid (Blk v11 v3.heap.size 23 #[.string (zS (-c1)), .string (zS c2)]) := Lib.hid (B_11.out.below hb B_11.out.lt)
            have G_12 : Hid (Blk v11 v7.heap.size 23 #[.string (zS (-c1)), .string (zS c2)]) := Lib.hid (G_11.out.below hb G_11.out.lt)
            have E_12 : Hid (Blk v11 v8.heap.size 23 #[.string (zS a1), .string (zS a2)]) := Lib.hid (E_11.out.below hb E_11.out.lt)
            have N_12 : Hid (Blk v11 sb 23 #[.string (zS fm), .string (⟨#[49]⟩)]) := Lib.hid (N_11.out.below hb N_11.out.lt)
            have D_12 : Hid (Blk v11 v10.heap.size 23 #[.string (⟨#[48]⟩), .string (⟨#[49]⟩)]) := Lib.hid (D_11.out.below hb D_11.out.lt)
            have HB_12 : Hid (Below w.heap.size w v11) := Lib.hid (HB_11.out.trans (hb.mono HB_11.out.size))
            clear hb R_11 A_11 B_11 G_11 E_11 N_11 D_11 HB_11
            go_wp2_with fail
            refine (HIS.out _ _ _).mono ?_
            rintro e v12 ⟨rfl, hb⟩
            have NE_R_V := Lib.hid (Nat.ne_of_lt (R_12.out.below hb R_12.out.lt).lt)
            have NE_A_V := Lib.hid (Nat.ne_of_lt (A_12.out.below hb A_12.out.lt).lt)
            have NE_B_V := Lib.hid (Nat.ne_of_lt (B_12.out.below hb B_12.out.lt).lt)
            have NE_G_V := Lib.hid (Nat.ne_of_lt (G_12.out.below hb G_12.out.lt).lt)
            have NE_E_V := Lib.hid (Nat.ne_of_lt (E_12.out.below hb E_12.out.lt).lt)
            have NE_N_V := Lib.hid (Nat.ne_of_lt (N_12.out.below hb N_12.out.lt).lt)
            have NE_D_V := Lib.hid (Nat.ne_of_lt (D_12.out.below hb D_12.out.lt).lt)
            have SZ_V := Lib.hid (HB_12.out.trans (hb.mono HB_12.out.size)).size
            have R_13 : Hid (Blk (v12.alloc (.cells #[.string (⟨#[49]⟩), .string (tz k)] 23)) v1.heap.size 23 #[.string (zS n), .string (zS d)]) := Lib.hid (allocs_keep [(#[.string (⟨#[49]⟩), .string (tz k)], 23)] _ (R_12.out.below hb R_12.out.lt))
            have A_13 : Hid (Blk (v12.alloc (.cells #[.string (⟨#[49]⟩), .string (tz k)] 23)) v2.heap.size 23 #[.string (zS a1), .string (zS a2)]) := Lib.hid (allocs_keep [(#[.string (⟨#[49]⟩), .string (tz k)], 23)] _ (A_12.out.below hb A_12.out.lt))
            have B_13 : Hid (Blk (v12.alloc (.cells #[.string (⟨#[49]⟩), .string (tz k)] 23)) v3.heap.size 23 #[.string (zS (-c1)), .string (zS c2)]) := Lib.hid (allocs_keep [(#[.string (⟨#[49]⟩), .string (tz k)], 23)] _ (B_12.out.below hb B_12.out.lt))
            have G_13 : Hid (Blk (v12.alloc (.cells #[.string (⟨#[49]⟩), .string (tz k)] 23)) v7.heap.size 23 #[.string (zS (-c1)), .string (zS c2)]) := Lib.hid (allocs_keep [(#[.string (⟨#[49]⟩), .string (tz k)], 23)] _ (G_12.out.below hb G_12.out.lt))
            have E_13 : Hid (Blk (v12.alloc (.cells #[.string (⟨#[49]⟩), .string (tz k)] 23)) v8.heap.size 23 #[.string (zS a1), .string (zS a2)]) := Lib.hid (allocs_keep [(#[.string (⟨#[49]⟩), .string (tz k)], 23)] _ (E_12.out.below hb E_12.out.lt))
            have N_13 : Hid (Blk (v12.alloc (.cells #[.string (⟨#[49]⟩), .string (tz k)] 23)) sb 23 #[.string (zS fm), .string (⟨#[49]⟩)]) := Lib.hid (allocs_keep [(#[.string (⟨#[49]⟩), .string (tz k)], 23)] _ (N_12.out.below hb N_12.out.lt))
            have D_13 : Hid (Blk (v12.alloc (.cells #[.string (⟨#[49]⟩), .string (tz k)] 23)) v10.heap.size 23 #[.string (⟨#[48]⟩), .string (⟨#[49]⟩)]) := Lib.hid (allocs_keep [(#[.string (⟨#[49]⟩), .string (tz k)], 23)] _ (D_12.out.below hb D_12.out.lt))
            have HB_13 : Hid (Below w.heap.size w (v12.alloc (.cells #[.string (⟨#[49]⟩), .string (tz k)] 23))) := Lib.hid (allocs_below [(#[.string (⟨#[49]⟩), .string (tz k)], 23)] _ (HB_12.out.trans (hb.mono HB_12.out.size)) (HB_12.out.trans (hb.mono HB_12.out.size)).size)
            have V_13 : Hid (Blk (v12.alloc (.cells #[.string (⟨#[49]⟩), .string (tz k)] 23)) v12.heap.size 23 #[.string (⟨#[49]⟩), .string (tz k)]) := Lib.hid (allocs_blk [(#[.string (⟨#[49]⟩), .string (tz k)], 23)] v12 0 _ rfl)
            clear hb R_12 A_12 B_12 G_12 E_12 N_12 D_12 HB_12
            by_cases hz : k = 0
            · have hz1 : ((k : Int) == 0) = true := by rw [beq_iff_eq]; omega
              have hz2 : ((tz k).toList == [49]) = true := by rw [hz]; decide +kernel
              have hz3 : ([49] == (tz k).toList) = true := by rw [hz]; decide +kernel
              clear hz
              go_wp2_with fail
              refine (HIS.out _ _ _).mono ?_
              rintro e v13 ⟨rfl, hb⟩
              have R_14 : Hid (Blk v13 v1.heap.size 23 #[.string (zS n), .string (zS d)]) := Lib.hid (R_13.out.below hb R_13.out.lt)
              have A_14 : Hid (Blk v13 v2.heap.size 23 #[.string (zS a1), .string (zS a2)]) := Lib.hid (A_13.out.below hb A_13.out.lt)
              have B_14 : Hid (Blk v13 v3.heap.size 23 #[.string (zS (-c1)), .string (zS c2)]) := Lib.hid (B_13.out.below hb B_13.out.lt)
              have G_14 : Hid (Blk v13 v7.heap.size 23 #[.string (zS (-c1)), .string (zS c2)]) := Lib.hid (G_13.out.below hb G_13.out.lt)
              have E_14 : Hid (Blk v13 v8.heap.size 23 #[.string (zS a1), .string (zS a2)]) := Lib.hid (E_13.out.below hb E_13.out.lt)
              have N_14 : Hid (Blk v13 sb 23 #[.string (zS fm), .string (⟨#[49]⟩)]) := Lib.hid (N_13.out.below hb N_13.out.lt)
              have D_14 : Hid (Blk v13 v10.heap.size 23 #[.string (⟨#[48]⟩), .string (⟨#[49]⟩)]) := Lib.hid (D_13.out.below hb D_13.out.lt)
              have V_14 : Hid (Blk v13 v12.heap.size 23 #[.string (⟨#[49]⟩), .string (tz k)]) := Lib.hid (V_13.out.below hb V_13.out.lt)
              have HB_14 : Hid (Below w.heap.size w v13) := Lib.hid (HB_13.out.trans (hb.mono HB_13.out.size))
              clear hb R_13 A_13 B_13 G_13 E_13 N_13 D_13 V_13 HB_13
              have y0 := V_14.out.cell (i := 0) (v := .string (⟨#[49]⟩)) rfl
              have y1 := V_14.out.frozen 0
              have y2 := V_14.out.cell (i := 1) (v := .string (tz k)) rfl
              have y3 := V_14.out.frozen 1
              have R_15 : Hid (Blk ((v13.setCell ⟨v12.heap.size, 0, none⟩ (.string (⟨#[49]⟩))).setCell ⟨v12.heap.size, 1, none⟩ (.string (⟨#[49]⟩))) v1.heap.size 23 #[.string (zS n), .string (zS d)]) := Lib.hid (R_14.out.far_two NE_R_V.out (.string (⟨#[49]⟩)) (.string (⟨#[49]⟩)))
              have A_15 : Hid (Blk ((v13.setCell ⟨v12.heap.size, 0, none⟩ (.string (⟨#[49]⟩))).setCell ⟨v12.heap.size, 1, none⟩ (.string (⟨#[49]⟩))) v2.heap.size 23 #[.string (zS a1), .string (zS a2)]) := Lib.hid (A_14.out.far_two NE_A_V.out (.string (⟨#[49]⟩)) (.string (⟨#[49]⟩)))
              have B_15 : Hid (Blk ((v13.setCell ⟨v12.heap.size, 0, none⟩ (.string (⟨#[49]⟩))).setCell ⟨v12.heap.size, 1, none⟩ (.string (⟨#[49]⟩))) v3.heap.size 23 #[.string (zS (-c1)), .string (zS c2)]) := Lib.hid (B_14.out.far_two NE_B_V.out (.string (⟨#[49]⟩)) (.string (⟨#[49]⟩)))
              have G_15 : Hid (Blk ((v13.setCell ⟨v12.heap.size, 0, none⟩ (.string (⟨#[49]⟩))).setCell ⟨v12.heap.size, 1, none⟩ (.string (⟨#[49]⟩))) v7.heap.size 23 #[.string (zS (-c1)), .string (zS c2)]) := Lib.hid (G_14.out.far_two NE_G_V.out (.string (⟨#[49]⟩)) (.string (⟨#[49]⟩)))
              have E_15 : Hid (Blk ((v13.setCell ⟨v12.heap.size, 0, none⟩ (.string (⟨#[49]⟩))).setCell ⟨v12.heap.size, 1, none⟩ (.string (⟨#[49]⟩))) v8.heap.size 23 #[.string (zS a1), .string (zS a2)]) := Lib.hid (E_14.out.far_two NE_E_V.out (.string (⟨#[49]⟩)) (.string (⟨#[49]⟩)))
              have N_15 : Hid (Blk ((v13.setCell ⟨v12.heap.size, 0, none⟩ (.string (⟨#[49]⟩))).setCell ⟨v12.heap.size, 1, none⟩ (.string (⟨#[49]⟩))) sb 23 #[.string (zS fm), .string (⟨#[49]⟩)]) := Lib.hid (N_14.out.far_two NE_N_V.out (.string (⟨#[49]⟩)) (.string (⟨#[49]⟩)))
              have D_15 : Hid (Blk ((v13.setCell ⟨v12.heap.size, 0, none⟩ (.string (⟨#[49]⟩))).setCell ⟨v12.heap.size, 1, none⟩ (.string (⟨#[49]⟩))) v10.heap.size 23 #[.string (⟨#[48]⟩), .string (⟨#[49]⟩)]) := Lib.hid (D_14.out.far_two NE_D_V.out (.string (⟨#[49]⟩)) (.string (⟨#[49]⟩)))
              have V_15 : Hid (Blk ((v13.setCell ⟨v12.heap.size, 0, none⟩ (.string (⟨#[49]⟩))).setCell ⟨v12.heap.size, 1, none⟩ (.string (⟨#[49]⟩))) v12.heap.size 23 #[.string (⟨#[49]⟩), .string (⟨#[49]⟩)]) := Lib.hid ((V_14.out.set 0 (.string (⟨#[49]⟩))).set 1 (.string (⟨#[49]⟩)))
              have HB_15 : Hid (Below w.heap.size w ((v13.setCell ⟨v12.heap.size, 0, none⟩ (.string (⟨#[49]⟩))).setCell ⟨v12.heap.size, 1, none⟩ (.string (⟨#[49]⟩)))) := Lib.hid ((HB_14.out.setCell (p := ⟨v12.heap.size, 0, none⟩) SZ_V.out (.string (⟨#[49]⟩))).setCell (p := ⟨v12.heap.size, 1, none⟩) SZ_V.out (.string (⟨#[49]⟩)))
              clear HB_14 R_14 A_14 B_14 G_14 E_14 N_14 D_14 V_14
              go_wp2_with fail
              refine (HIS.out _ _ _).mono ?_
              rintro e v15 ⟨rfl, hb⟩
              clear y0 y1 y2 y3
              have R_16 : Hid (Blk v15 v1.heap.size 23 #[.string (zS n), .string (zS d)]) := Lib.hid (R_15.out.below hb R_15.out.lt)
              have A_16 : Hid (Blk v15 v2.heap.size 23 #[.string (zS a1), .string (zS a2)]) := Lib.hid (A_15.out.below hb A_15.out.lt)
              have B_16 : Hid (Blk v15 v3.heap.size 23 #[.string (zS (-c1)), .string (zS c2)]) := Lib.hid (B_15.out.below hb B_15.out.lt)
              have G_16 : Hid (Blk v15 v7.heap.size 23 #[.string (zS (-c1)), .string (zS c2)]) := Lib.hid (G_15.out.below hb G_15.out.lt)
              have E_16 : Hid (Blk v15 v8.heap.size 23 #[.string (zS a1), .string (zS a2)]) := Lib.hid (E_15.out.below hb E_15.out.lt)
              have N_16 : Hid (Blk v15 sb 23 #[.string (zS fm), .string (⟨#[49]⟩)]) := Lib.hid (N_15.out.below hb N_15.out.lt)
              have D_16 : Hid (Blk v15 v10.heap.size 23 #[.string (⟨#[48]⟩), .string (⟨#[49]⟩)]) := Lib.hid (D_15.out.below hb D_15.out.lt)
              have V_16 : Hid (Blk v15 v12.heap.size 23 #[.string (⟨#[49]⟩), .string (⟨#[49]⟩)]) := Lib.hid (V_15.out.below hb V_15.out.lt)
              have HB_16 : Hid (Below w.heap.size w v15) := Lib.hid (HB_15.out.trans (hb.mono HB_15.out.size))
              clear hb R_15 A_15 B_15 G_15 E_15 N_15 D_15 V_15 HB_15
              have y0 := V_16.out.cell (i := 0) (v := .string (⟨#[49]⟩)) rfl
              have y1 := V_16.out.frozen 0
              have y2 := V_16.out.cell (i := 1) (v := .string (⟨#[49]⟩)) rfl
              have y3 := V_16.out.frozen 1
              have R_17 : Hid (Blk ((v15.setCell ⟨v12.heap.size, 0, none⟩ (.string (⟨#[48]⟩))).setCell ⟨v12.heap.size, 1, none⟩ (.string (⟨#[49]⟩))) v1.heap.size 23 #[.string (zS n), .string (zS d)]) := Lib.hid (R_16.out.far_two NE_R_V.out (.string (⟨#[48]⟩)) (.string (⟨#[49]⟩)))
              have A_17 : Hid (Blk ((v15.setCell ⟨v12.heap.size, 0, none⟩ (.string (⟨#[48]⟩))).setCell ⟨v12.heap.size, 1, none⟩ (.string (⟨#[49]⟩))) v2.heap.size 23 #[.string (zS a1), .string (zS a2)]) := Lib.hid (A_16.out.far_two NE_A_V.out (.string (⟨#[48]⟩)) (.string (⟨#[49]⟩)))
              have B_17 : Hid (Blk ((v15.setCell ⟨v12.heap.size, 0, none⟩ (.string (⟨#[48]⟩))).setCell ⟨v12.heap.size, 1, none⟩ (.string (⟨#[49]⟩))) v3.heap.size 23 #[.string (zS (-c1)), .string (zS c2)]) := Lib.hid (B_16.out.far_two NE_B_V.out (.string (⟨#[48]⟩)) (.string (⟨#[49]⟩)))
              have G_17 : Hid (Blk ((v15.setCell ⟨v12.heap.size, 0, none⟩ (.string (⟨#[48]⟩))).setCell ⟨v12.heap.size, 1, none⟩ (.string (⟨#[49]⟩))) v7.heap.size 23 #[.string (zS (-c1)), .string (zS c2)]) := Lib.hid (G_16.out.far_two NE_G_V.out (.string (⟨#[48]⟩)) (.string (⟨#[49]⟩)))
              have E_17 : Hid (Blk ((v15.setCell ⟨v12.heap.size, 0, none⟩ (.string (⟨#[48]⟩))).setCell ⟨v12.heap.size, 1, none⟩ (.string (⟨#[49]⟩))) v8.heap.size 23 #[.string (zS a1), .string (zS a2)]) := Lib.hid (E_16.out.far_two NE_E_V.out (.string (⟨#[48]⟩)) (.string (⟨#[49]⟩)))
              have N_17 : Hid (Blk ((v15.setCell ⟨v12.heap.size, 0, none⟩ (.string (⟨#[48]⟩))).setCell ⟨v12.heap.size, 1, none⟩ (.string (⟨#[49]⟩))) sb 23 #[.string (zS fm), .string (⟨#[49]⟩)]) := Lib.hid (N_16.out.far_two NE_N_V.out (.string (⟨#[48]⟩)) (.string (⟨#[49]⟩)))
              have D_17 : Hid (Blk ((v15.setCell ⟨v12.heap.size, 0, none⟩ (.string (⟨#[48]⟩))).setCell ⟨v12.heap.size, 1, none⟩ (.string (⟨#[49]⟩))) v10.heap.size 23 #[.string (⟨#[48]⟩), .string (⟨#[49]⟩)]) := Lib.hid (D_16.out.far_two NE_D_V.out (.string (⟨#[48]⟩)) (.string (⟨#[49]⟩)))
              have V_17 : Hid (Blk ((v15.setCell ⟨v12.heap.size, 0, none⟩ (.string (⟨#[48]⟩))).setCell ⟨v12.heap.size, 1, none⟩ (.string (⟨#[49]⟩))) v12.heap.size 23 #[.string (⟨#[48]⟩), .string (⟨#[49]⟩)]) := Lib.hid ((V_16.out.set 0 (.string (⟨#[48]⟩))).set 1 (.string (⟨#[49]⟩)))
              have HB_17 : Hid (Below w.heap.size w ((v15.setCell ⟨v12.heap.size, 0, none⟩ (.string (⟨#[48]⟩))).setCell ⟨v12.heap.size, 1, none⟩ (.string (⟨#[49]⟩)))) := Lib.hid ((HB_16.out.setCell (p := ⟨v12.heap.size, 0, none⟩) SZ_V.out (.string (⟨#[48]⟩))).setCell (p := ⟨v12.heap.size, 1, none⟩) SZ_V.out (.string (⟨#[49]⟩)))
              clear HB_16 R_16 A_16 B_16 G_16 E_16 N_16 D_16 V_16
              have y4 := G_17.out.cell (i := 0) (v := .string (zS (-c1))) rfl; have y5 := G_17.out.cell (i := 1) (v := .string (zS c2)) rfl
              have y6 := B_17.out.cell (i := 0) (v := .string (zS (-c1))) rfl; have y7 := B_17.out.cell (i := 1) (v := .string (zS c2)) rfl
              have y8 := E_17.out.cell (i := 0) (v := .string (zS a1)) rfl; have y9 := E_17.out.cell (i := 1) (v := .string (zS a2)) rfl
              have y10 := A_17.out.cell (i := 0) (v := .string (zS a1)) rfl; have y11 := A_17.out.cell (i := 1) (v := .string (zS a2)) rfl
              have y12 := N_17.out.cell (i := 0) (v := .string (zS fm)) rfl; have y13 := N_17.out.cell (i := 1) (v := .string (⟨#[49]⟩)) rfl
              have y14 := D_17.out.cell (i := 0) (v := .string (⟨#[48]⟩)) rfl; have y15 := D_17.out.cell (i := 1) (v := .string (⟨#[49]⟩)) rfl
              have y16 := V_17.out.cell (i := 0) (v := .string (⟨#[48]⟩)) rfl; have y17 := V_17.out.cell (i := 1) (v := .string (⟨#[49]⟩)) rfl
              have y18 := R_17.out.cell (i := 0) (v := .string (zS n)) rfl; have y19 := R_17.out.cell (i := 1) (v := .string (zS d)) rfl
              go_wp2_with fail
              refine (C2.out _).mono ?_
              rintro e v17 ⟨rfl, hb⟩
              clear y0 y1 y2 y3 y4 y5 y6 y7 y8 y9 y10 y11 y12 y13 y14 y15 y16 y17 y18 y19
              have R_18 : Hid (Blk v17 v1.heap.size 23 #[.string (zS n), .string (zS d)]) := Lib.hid (R_17.out.below hb R_17.out.lt)
              have A_18 : Hid (Blk v17 v2.heap.size 23 #[.string (zS a1), .string (zS a2)]) := Lib.hid (A_17.out.below hb A_17.out.lt)
              have B_18 : Hid (Blk v17 v3.heap.size 23 #[.string (zS (-c1)), .string (zS c2)]) := Lib.hid (B_17.out.below hb B_17.out.lt)
              have G_18 : Hid (Blk v17 v7.heap.size 23 #[.string (zS (-c1)), .string (zS c2)]) := Lib.hid (G_17.out.below hb G_17.out.lt)
              have E_18 : Hid (Blk v17 v8.heap.size 23 #[.string (zS a1), .string (zS a2)]) := Lib.hid (E_17.out.below hb E_17.out.lt)
              have N_18 : Hid (Blk v17 sb 23 #[.string (zS fm), .string (⟨#[49]⟩)]) := Lib.hid (N_17.out.below hb N_17.out.lt)
              have D_18 : Hid (Blk v17 v10.heap.size 23 #[.string (⟨#[48]⟩), .string (⟨#[49]⟩)]) := Lib.hid (D_17.out.below hb D_17.out.lt)
              have V_18 : Hid (Blk v17 v12.heap.size 23 #[.string (⟨#[48]⟩), .string (⟨#[49]⟩)]) := Lib.hid (V_17.out.below hb V_17.out.lt)
              have HB_18 : Hid (Below w.heap.size w v17) := Lib.hid (HB_17.out.trans (hb.mono HB_17.out.size))
              clear hb R_17 A_17 B_17 G_17 E_17 N_17 D_17 V_17 HB_17
              go_wp2_with fail
              go_ret
              exact ⟨rfl, HB_18.out⟩
            · have hz1 : ((k : Int) == 0) = false := by rw [beq_eq_false_iff_ne]; omega
              clear hz
              go_wp2_with fail
              refine (HIS.out _ _ _).mono ?_
              rintro e v13 ⟨rfl, hb⟩
              have R_14 : Hid (Blk v13 v1.heap.size 23 #[.string (zS n), .string (zS d)]) := Lib.hid (R_13.out.below hb R_13.out.lt)
              have A_14 : Hid (Blk v13 v2.heap.size 23 #[.string (zS a1), .string (zS a2)]) := Lib.hid (A_13.out.below hb A_13.out.lt)
              have B_14 : Hid (Blk v13 v3.heap.size 23 #[.string (zS (-c1)), .string (zS c2)]) := Lib.hid (B_13.out.below hb B_13.out.lt)
              have G_14 : Hid (Blk v13 v7.heap.size 23 #[.string (zS (-c1)), .string (zS c2)]) := Lib.hid (G_13.out.below hb G_13.out.lt)
              have E_14 : Hid (Blk v13 v8.heap.size 23 #[.string (zS a1), .string (zS a2)]) := Lib.hid (E_13.out.below hb E_13.out.lt)
              have N_14 : Hid (Blk v13 sb 23 #[.string (zS fm), .string (⟨#[49]⟩)]) := Lib.hid (N_13.out.below hb N_13.out.lt)
              have D_14 : Hid (Blk v13 v10.heap.size 23 #[.string (⟨#[48]⟩), .string (⟨#[49]⟩)]) := Lib.hid (D_13.out.below hb D_13.out.lt)
              have V_14 : Hid (Blk v13 v12.heap.size 23 #[.string (⟨#[49]⟩), .string (tz k)]) := Lib.hid (V_13.out.below hb V_13.out.lt)
              have HB_14 : Hid (Below w.heap.size w v13) := Lib.hid (HB_13.out.trans (hb.mono HB_13.out.size))
              clear hb R_13 A_13 B_13 G_13 E_13 N_13 D_13 V_13 HB_13
              have y0 := V_14.out.cell (i := 0) (v := .string (⟨#[49]⟩)) rfl
              have y1 := V_14.out.frozen 0
              have y2 := V_14.out.cell (i := 1) (v := .string (tz k)) rfl
              have y3 := V_14.out.frozen 1
              have R_15 : Hid (Blk ((v13.setCell ⟨v12.heap.size, 0, none⟩ (.string (⟨#[48]⟩))).setCell ⟨v12.heap.size, 1, none⟩ (.string (⟨#[49]⟩))) v1.heap.size 23 #[.string (zS n), .string (zS d)]) := Lib.hid (R_14.out.far_two NE_R_V.out (.string (⟨#[48]⟩)) (.string (⟨#[49]⟩)))
              have A_15 : Hid (Blk ((v13.setCell ⟨v12.heap.size, 0, none⟩ (.string (⟨#[48]⟩))).setCell ⟨v12.heap.size, 1, none⟩ (.string (⟨#[49]⟩))) v2.heap.size 23 #[.string (zS a1), .string (zS a2)]) := Lib.hid (A_14.out.far_two NE_A_V.out (.string (⟨#[48]⟩)) (.string (⟨#[49]⟩)))
              have B_15 : Hid (Blk ((v13.setCell ⟨v12.heap.size, 0, none⟩ (.string (⟨#[48]⟩))).setCell ⟨v12.heap.size, 1, none⟩ (.string (⟨#[49]⟩))) v3.heap.size 23 #[.string (zS (-c1)), .string (zS c2)]) := Lib.hid (B_14.out.far_two NE_B_V.out (.string (⟨#[48]⟩)) (.string (⟨#[49]⟩)))
              have G_15 : Hid (Blk ((v13.setCell ⟨v12.heap.size, 0, none⟩ (.string (⟨#[48]⟩))).setCell ⟨v12.heap.size, 1, none⟩ (.string (⟨#[49]⟩))) v7.heap.size 23 #[.string (zS (-c1)), .string (zS c2)]) := Lib.hid (G_14.out.far_two NE_G_V.out (.string (⟨#[48]⟩)) (.string (⟨#[49]⟩)))
              have E_15 : Hid (Blk ((v13.setCell ⟨v12.heap.size, 0, none⟩ (.string (⟨#[48]⟩))).setCell ⟨v12.heap.size, 1, none⟩ (.string (⟨#[49]⟩))) v8.heap.size 23 #[.string (zS a1), .string (zS a2)]) := Lib.hid (E_14.out.far_two NE_E_V.out (.string (⟨#[48]⟩)) (.string (⟨#[49]⟩)))
              have N_15 : Hid (Blk ((v13.setCell ⟨v12.heap.size, 0, none⟩ (.string (⟨#[48]⟩))).setCell ⟨v12.heap.size, 1, none⟩ (.string (⟨#[49]⟩))) sb 23 #[.string (zS fm), .string (⟨#[49]⟩)]) := Lib.hid (N_14.out.far_two NE_N_V.out (.string (⟨#[48]⟩)) (.string (⟨#[49]⟩)))
              have D_15 : Hid (Blk ((v13.setCell ⟨v12.heap.size, 0, none⟩ (.string (⟨#[48]⟩))).setCell ⟨v12.heap.size, 1, none⟩ (.string (⟨#[49]⟩))) v10.heap.size 23 #[.string (⟨#[48]⟩), .string (⟨#[49]⟩)]) := Lib.hid (D_14.out.far_two NE_D_V.out (.string (⟨#[48]⟩)) (.string (⟨#[49]⟩)))
              have V_15 : Hid (Blk ((v13.setCell ⟨v12.heap.size, 0, none⟩ (.string (⟨#[48]⟩))).setCell ⟨v12.heap.size, 1, none⟩ (.string (⟨#[49]⟩))) v12.heap.size 23 #[.string (⟨#[48]⟩), .string (⟨#[49]⟩)]) := Lib.hid ((V_14.out.set 0 (.string (⟨#[48]⟩))).set 1 (.string (⟨#[49]⟩)))
              have HB_15 : Hid (Below w.heap.size w ((v13.setCell ⟨v12.heap.size, 0, none⟩ (.string (⟨#[48]⟩))).setCell ⟨v12.heap.size, 1, none⟩ (.string (⟨#[49]⟩)))) := Lib.hid ((HB_14.out.setCell (p := ⟨v12.heap.size, 0, none⟩) SZ_V.out (.string (⟨#[48]⟩))).setCell (p := ⟨v12.heap.size, 1, none⟩) SZ_V.out (.string (⟨#[49]⟩)))
              clear HB_14 R_14 A_14 B_14 G_14 E_14 N_14 D_14 V_14
              have y4 := G_15.out.cell (i := 0) (v := .string (zS (-c1))) rfl; have y5 := G_15.out.cell (i := 1) (v := .string (zS c2)) rfl
              have y6 := B_15.out.cell (i := 0) (v := .string (zS (-c1))) rfl; have y7 := B_15.out.cell (i := 1) (v := .string (zS c2)) rfl
              have y8 := E_15.out.cell (i := 0) (v := .string (zS a1)) rfl; have y9 := E_15.out.cell (i := 1) (v := .string (zS a2)) rfl
              have y10 := A_15.out.cell (i := 0) (v := .string (zS a1)) rfl; have y11 := A_15.out.cell (i := 1) (v := .string (zS a2)) rfl
              have y12 := N_15.out.cell (i := 0) (v := .string (zS fm)) rfl; have y13 := N_15.out.cell (i := 1) (v := .string (⟨#[49]⟩)) rfl
              have y14 := D_15.out.cell (i := 0) (v := .string (⟨#[48]⟩)) rfl; have y15 := D_15.out.cell (i := 1) (v := .string (⟨#[49]⟩)) rfl
              have y16 := V_15.out.cell (i := 0) (v := .string (⟨#[48]⟩)) rfl; have y17 := V_15.out.cell (i := 1) (v := .string (⟨#[49]⟩)) rfl
              have y18 := R_15.out.cell (i := 0) (v := .string (zS n)) rfl; have y19 := R_15.out.cell (i := 1) (v := .string (zS d)) rfl
              go_wp2_with fail
              refine (C2.out _).mono ?_
              rintro e v15 ⟨rfl, hb⟩
              clear y0 y1 y2 y3 y4 y5 y6 y7 y8 y9 y10 y11 y12 y13 y14 y15 y16 y17 y18 y19
              have R_16 : Hid (Blk v15 v1.heap.size 23 #[.string (zS n), .string (zS d)]) := Lib.hid (R_15.out.below hb R_15.out.lt)
              have A_16 : Hid (Blk v15 v2.heap.size 23 #[.string (zS a1), .string (zS a2)]) := Lib.hid (A_15.out.below hb A_15.out.lt)
              have B_16 : Hid (Blk v15 v3.heap.size 23 #[.string (zS (-c1)), .string (zS c2)]) := Lib.hid (B_15.out.below hb B_15.out.lt)
              have G_16 : Hid (Blk v15 v7.heap.size 23 #[.string (zS (-c1)), .string (zS c2)]) := Lib.hid (G_15.out.below hb G_15.out.lt)
              have E_16 : Hid (Blk v15 v8.heap.size 23 #[.string (zS a1), .string (zS a2)]) := Lib.hid (E_15.out.below hb E_15.out.lt)
              have N_16 : Hid (Blk v15 sb 23 #[.string (zS fm), .string (⟨#[49]⟩)]) := Lib.hid (N_15.out.below hb N_15.out.lt)
              have D_16 : Hid (Blk v15 v10.heap.size 23 #[.string (⟨#[48]⟩), .string (⟨#[49]⟩)]) := Lib.hid (D_15.out.below hb D_15.out.lt)
              have V_16 : Hid (Blk v15 v12.heap.size 23 #[.string (⟨#[48]⟩), .string (⟨#[49]⟩)]) := Lib.hid (V_15.out.below hb V_15.out.lt)
              have HB_16 : Hid (Below w.heap.size w v15) := Lib.hid (HB_15.out.trans (hb.mono HB_15.out.size))
              clear hb R_15 A_15 B_15 G_15 E_15 N_15 D_15 V_15 HB_15
              go_wp2_with fail
              go_ret
              exact ⟨rfl, HB_16.out⟩
          · clear HX
            have y0 := B_10.out.cell (i := 0) (v := .string (zS (-c1))) rfl; have y1 := B_10.out.cell (i := 1) (v := .string (zS c2)) rfl
            have y2 := A_10.out.cell (i := 0) (v := .string (zS a1)) rfl; have y3 := A_10.out.cell (i := 1) (v := .string (zS a2)) rfl
            go_wp2_with fail
            refine (SB.out _).mono ?_
            rintro e v10 ⟨rfl, hb⟩
            clear y0 y1 y2 y3
            have R_11 : Hid (Blk (v10.alloc (.cells #[.string (⟨#[49]⟩), .string (tz k)] 23)) v1.heap.size 23 #[.string (zS n), .string (zS d)]) := Lib.hid (allocs_keep [(#[.string (⟨#[49]⟩), .string (tz k)], 23)] _ (R_10.out.below hb R_10.out.lt))
            have A_11 : Hid (Blk (v10.alloc (.cells #[.string (⟨#[49]⟩), .string (tz k)] 23)) v2.heap.size 23 #[.string (zS a1), .string (zS a2)]) := Lib.hid (allocs_keep [(#[.string (⟨#[49]⟩), .string (tz k)], 23)] _ (A_10.out.below hb A_10.out.lt))
            have B_11 : Hid (Blk (v10.alloc (.cells #[.string (⟨#[49]⟩), .string (tz k)] 23)) v3.heap.size 23 #[.string (zS (-c1)), .string (zS c2)]) := Lib.hid (allocs_keep [(#[.string (⟨#[49]⟩), .string (tz k)], 23)] _ (B_10.out.below hb B_10.out.lt))
            have G_11 : Hid (Blk (v10.alloc (.cells #[.string (⟨#[49]⟩), .string (tz k)] 23)) v7.heap.size 23 #[.string (zS (-c1)), .string (zS c2)]) := Lib.hid (allocs_keep [(#[.string (⟨#[49]⟩), .string (tz k)], 23)] _ (G_10.out.below hb G_10.out.lt))
            have E_11 : Hid (Blk (v10.alloc (.cells #[.string (⟨#[49]⟩), .string (tz k)] 23)) v8.heap.size 23 #[.string (zS a1), .string (zS a2)]) := Lib.hid (allocs_keep [(#[.string (⟨#[49]⟩), .string (tz k)], 23)] _ (E_10.out.below hb E_10.out.lt))
            have N_11 : Hid (Blk (v10.alloc (.cells #[.string (⟨#[49]⟩), .string (tz k)] 23)) sb 23 #[.string (zS fm), .string (⟨#[49]⟩)]) := Lib.hid (allocs_keep [(#[.string (⟨#[49]⟩), .string (tz k)], 23)] _ (N_10.out.below hb N_10.out.lt))
            have HB_11 : Hid (Below w.heap.size w (v10.alloc (.cells #[.string (⟨#[49]⟩), .string (tz k)] 23))) := Lib.hid (allocs_below [(#[.string (⟨#[49]⟩), .string (tz k)], 23)] _ (HB_10.out.trans (hb.mono HB_10.out.size)) (HB_10.out.trans (hb.mono HB_10.out.size)).size)
            have D_11 : Hid (Blk (v10.alloc (.cells #[.string (⟨#[49]⟩), .string (tz k)] 23)) v10.heap.size 23 #[.string (⟨#[49]⟩), .string (tz k)]) := Lib.hid (allocs_blk [(#[.string (⟨#[49]⟩), .string (tz k)], 23)] v10 0 _ rfl)
            clear hb R_10 A_10 B_10 G_10 E_10 N_10 HB_10
            have y0 := A_11.out.cell (i := 0) (v := .string (zS a1)) rfl; have y1 := A_11.out.cell (i := 1) (v := .string (zS a2)) rfl
            have y2 := R_11.out.cell (i := 0) (v := .string (zS n)) rfl; have y3 := R_11.out.cell (i := 1) (v := .string (zS d)) rfl
            go_wp2_with fail
            refine (C1.out _).mono ?_
            rintro e v11 ⟨rfl, hb⟩
            clear y0 y1 y2 y3
            have R_12 : Hid (Blk v11 v1.heap.size 23 #[.string (zS n), .string (zS d)]) := Lib.hid (R_11.out.below hb R_11.out.lt)
            have A_12 : Hid (Blk v11 v2.heap.size 23 #[.string (zS a1), .string (zS a2)]) := Lib.hid (A_11.out.below hb A_11.out.lt)
            have B_12 : Hid (Blk v11 v3.heap.size 23 #[.string (zS (-c1)), .string (zS c2)]) := Lib.hid (B_11.out.below hb B_11.out.lt)
            have G_12 : Hid (Blk v11 v7.heap.size 23 #[.string (zS (-c1)), .string (zS c2)]) := Lib.hid (G_11.out.below hb G_11.out.lt)
            have E_12 : Hid (Blk v11 v8.heap.size 23 #[.string (zS a1), .string (zS a2)]) := Lib.hid (E_11.out.below hb E_11.out.lt)
            have N_12 : Hid (Blk v11 sb 23 #[.string (zS fm), .string (⟨#[49]⟩)]) := Lib.hid (N_11.out.below hb N_11.out.lt)
            have D_12 : Hid (Blk v11 v10.heap.size 23 #[.string (⟨#[49]⟩), .string (tz k)]) := Lib.hid (D_11.out.below hb D_11.out.lt)
            have HB_12 : Hid (Below w.heap.size w v11) := Lib.hid (HB_11.out.trans (hb.mono HB_11.out.size))
            clear hb R_11 A_11 B_11 G_11 E_11 N_11 D_11 HB_11
            go_wp2_with fail
            refine (HIS.out _ _ _).mono ?_
            rintro e v12 ⟨rfl, hb⟩
            have NE_R_V := Lib.hid (Nat.ne_of_lt (R_12.out.below hb R_12.out.lt).lt)
            have NE_A_V := Lib.hid (Nat.ne_of_lt (A_12.out.below hb A_12.out.lt).lt)
            have NE_B_V := Lib.hid (Nat.ne_of_lt (B_12.out.below hb B_12.out.lt).lt)
            have NE_G_V := Lib.hid (Nat.ne_of_lt (G_12.out.below hb G_12.out.lt).lt)
            have NE_E_V := Lib.hid (Nat.ne_of_lt (E_12.out.below hb E_12.out.lt).lt)
            have NE_N_V := Lib.hid (Nat.ne_of_lt (N_12.out.below hb N_12.out.lt).lt)
            have NE_D_V := Lib.hid (Nat.ne_of_lt (D_12.out.below hb D_12.out.lt).lt)
            have SZ_V := Lib.hid (HB_12.out.trans (hb.mono HB_12.out.size)).size
            have R_13 : Hid (Blk (v12.alloc (.cells #[.string (⟨#[49]⟩), .string (tz k)] 23)) v1.heap.size 23 #[.string (zS n), .string (zS d)]) := Lib.hid (allocs_keep [(#[.string (⟨#[49]⟩), .string (tz k)], 23)] _ (R_12.out.below hb R_12.out.lt))
            have A_13 : Hid (Blk (v12.alloc (.cells #[.string (⟨#[49]⟩), .string (tz k)] 23)) v2.heap.size 23 #[.string (zS a1), .string (zS a2)]) := Lib.hid (allocs_keep [(#[.string (⟨#[49]⟩), .string (tz k)], 23)] _ (A_12.out.below hb A_12.out.lt))
            have B_13 : Hid (Blk (v12.alloc (.cells #[.string (⟨#[49]⟩), .string (tz k)] 23)) v3.heap.size 23 #[.string (zS (-c1)), .string (zS c2)]) := Lib.hid (allocs_keep [(#[.string (⟨#[49]⟩), .string (tz k)], 23)] _ (B_12.out.below hb B_12.out.lt))
            have G_13 : Hid (Blk (v12.alloc (.cells #[.string (⟨#[49]⟩), .string (tz k)] 23)) v7.heap.size 23 #[.string (zS (-c1)), .string (zS c2)]) := Lib.hid (allocs_keep [(#[.string (⟨#[49]⟩), .string (tz k)], 23)] _ (G_12.out.below hb G_12.out.lt))
            have E_13 : Hid (Blk (v12.alloc (.cells #[.string (⟨#[49]⟩), .string (tz k)] 23)) v8.heap.size 23 #[.string (zS a1), .string (zS a2)]) := Lib.hid (allocs_keep [(#[.string (⟨#[49]⟩), .string (tz k)], 23)] _ (E_12.out.below hb E_12.out.lt))
            have N_13 : Hid (Blk (v12.alloc (.cells #[.string (⟨#[49]⟩), .string (tz k)] 23)) sb 23 #[.string (zS fm), .string (⟨#[49]⟩)]) := Lib.hid (allocs_keep [(#[.string (⟨#[49]⟩), .string (tz k)], 23)] _ (N_12.out.below hb N_12.out.lt))
            have D_13 : Hid (Blk (v12.alloc (.cells #[.string (⟨#[49]⟩), .string (tz k)] 23)) v10.heap.size 23 #[.string (⟨#[49]⟩), .string (tz k)]) := Lib.hid (allocs_keep [(#[.string (⟨#[49]⟩), .string (tz k)], 23)] _ (D_12.out.below hb D_12.out.lt))
            have HB_13 : Hid (Below w.heap.size w (v12.alloc (.cells #[.string (⟨#[49]⟩), .string (tz k)] 23))) := Lib.hid (allocs_below [(#[.string (⟨#[49]⟩), .string (tz k)], 23)] _ (HB_12.out.trans (hb.mono HB_12.out.size)) (HB_12.out.trans (hb.mono HB_12.out.size)).size)
            have V_13 : Hid (Blk (v12.alloc (.cells #[.string (⟨#[49]⟩), .string (tz k)] 23)) v12.heap.size 23 #[.string (⟨#[49]⟩), .string (tz k)]) := Lib.hid (allocs_blk [(#[.string (⟨#[49]⟩), .string (tz k)], 23)] v12 0 _ rfl)
            clear hb R_12 A_12 B_12 G_12 E_12 N_12 D_12 HB_12
            by_cases hz : k = 0
            · have hz1 : ((k : Int) == 0) = true := by rw [beq_iff_eq]; omega
              have hz2 : ((tz k).toList == [49]) = true := by rw [hz]; decide +kernel
              have hz3 : ([49] == (tz k).toList) = true := by rw [hz]; decide +kernel
              clear hz
              go_wp2_with fail
              refine (HIS.out _ _ _).mono ?_
              rintro e v13 ⟨rfl, hb⟩
              have R_14 : Hid (Blk v13 v1.heap.size 23 #[.string (zS n), .string (zS d)]) := Lib.hid (R_13.out.below hb R_13.out.lt)
              have A_14 : Hid (Blk v13 v2.heap.size 23 #[.string (zS a1), .string (zS a2)]) := Lib.hid (A_13.out.below hb A_13.out.lt)
              have B_14 : Hid (Blk v13 v3.heap.size 23 #[.string (zS (-c1)), .string (zS c2)]) := Lib.hid (B_13.out.below hb B_13.out.lt)
              have G_14 : Hid (Blk v13 v7.heap.size 23 #[.string (zS (-c1)), .string (zS c2)]) := Lib.hid (G_13.out.below hb G_13.out.lt)
              have E_14 : Hid (Blk v13 v8.heap.size 23 #[.string (zS a1), .string (zS a2)]) := Lib.hid (E_13.out.below hb E_13.out.lt)
              have N_14 : Hid (Blk v13 sb 23 #[.string (zS fm), .string (⟨#[49]⟩)]) := Lib.hid (N_13.out.below hb N_13.out.lt)
              have D_14 : Hid (Blk v13 v10.heap.size 23 #[.string (⟨#[49]⟩), .string (tz k)]) := Lib.hid (D_13.out.below hb D_13.out.lt)
              have V_14 : Hid (Blk v13 v12.heap.size 23 #[.string (⟨#[49]⟩), .string (tz k)]) := Lib.hid (V_13.out.below hb V_13.out.lt)
              have HB_14 : Hid (Below w.heap.size w v13) := Lib.hid (HB_13.out.trans (hb.mono HB_13.out.size))
              clear hb R_13 A_13 B_13 G_13 E_13 N_13 D_13 V_13 HB_13
              have y0 := V_14.out.cell (i := 0) (v := .string (⟨#[49]⟩)) rfl
              have y1 := V_14.out.frozen 0
              have y2 := V_14.out.cell (i := 1) (v := .string (tz k)) rfl
              have y3 := V_14.out.frozen 1
              have R_15 : Hid (Blk ((v13.setCell ⟨v12.heap.size, 0, none⟩ (.string (⟨#[49]⟩))).setCell ⟨v12.heap.size, 1, none⟩ (.string (⟨#[49]⟩))) v1.heap.size 23 #[.string (zS n), .string (zS d)]) := Lib.hid (R_14.out.far_two NE_R_V.out (.string (⟨#[49]⟩)) (.string (⟨#[49]⟩)))
              have A_15 : Hid (Blk ((v13.setCell ⟨v12.heap.size, 0, none⟩ (.string (⟨#[49]⟩))).setCell ⟨v12.heap.size, 1, none⟩ (.string (⟨#[49]⟩))) v2.heap.size 23 #[.string (zS a1), .string (zS a2)]) := Lib.hid (A_14.out.far_two NE_A_V.out (.string (⟨#[49]⟩)) (.string (⟨#[49]⟩)))
              have B_15 : Hid (Blk ((v13.setCell ⟨v12.heap.size, 0, none⟩ (.string (⟨#[49]⟩))).setCell ⟨v12.heap.size, 1, none⟩ (.string (⟨#[49]⟩))) v3.heap.size 23 #[.string (zS (-c1)), .string (zS c2)]) := Lib.hid (B_14.out.far_two NE_B_V.out (.string (⟨#[49]⟩)) (.string (⟨#[49]⟩)))
              have G_15 : Hid (Blk ((v13.setCell ⟨v12.heap.size, 0, none⟩ (.string (⟨#[49]⟩))).setCell ⟨v12.heap.size, 1, none⟩ (.string (⟨#[49]⟩))) v7.heap.size 23 #[.string (zS (-c1)), .string (zS c2)]) := Lib.hid (G_14.out.far_two NE_G_V.out (.string (⟨#[49]⟩)) (.string (⟨#[49]⟩)))
              have E_15 : Hid (Blk ((v13.setCell ⟨v12.heap.size, 0, none⟩ (.string (⟨#[49]⟩))).setCell ⟨v12.heap.size, 1, none⟩ (.string (⟨#[49]⟩))) v8.heap.size 23 #[.string (zS a1), .string (zS a2)]) := Lib.hid (E_14.out.far_two NE_E_V.out (.string (⟨#[49]⟩)) (.string (⟨#[49]⟩)))
              have N_15 : Hid (Blk ((v13.setCell ⟨v12.heap.size, 0, none⟩ (.string (⟨#[49]⟩))).setCell ⟨v12.heap.size, 1, none⟩ (.string (⟨#[49]⟩))) sb 23 #[.string (zS fm), .string (⟨#[49]⟩)]) := Lib.hid (N_14.out.far_two NE_N_V.out (.string (⟨#[49]⟩)) (.string (⟨#[49]⟩)))
              have D_15 : Hid (Blk ((v13.setCell ⟨v12.heap.size, 0, none⟩ (.string (⟨#[49]⟩))).setCell ⟨v12.heap.size, 1, none⟩ (.string (⟨#[49]⟩))) v10.heap.size 23 #[.string (⟨#[49]⟩), .string (tz k)]) := Lib.hid (D_14.out.far_two NE_D_V.out (.string (⟨#[49]⟩)) (.string (⟨#[49]⟩)))
              have V_15 : Hid (Blk ((v13.setCell ⟨v12.heap.size, 0, none⟩ (.string (⟨#[49]⟩))).setCell ⟨v12.heap.size, 1, none⟩ (.string (⟨#[49]⟩))) v12.heap.size 23 #[.string (⟨#[49]⟩), .string (⟨#[49]⟩)]) := Lib.hid ((V_14.out.set 0 (.string (⟨#[49]⟩))).set 1 (.string (⟨#[49]⟩)))
              have HB_15 : Hid (Below w.heap.size w ((v13.setCell ⟨v12.heap.size, 0, none⟩ (.string (⟨#[49]⟩))).setCell ⟨v12.heap.size, 1, none⟩ (.string (⟨#[49]⟩)))) := Lib.hid ((HB_14.out.setCell (p := ⟨v12.heap.size, 0, none⟩) SZ_V.out (.string (⟨#[49]⟩))).setCell (p := ⟨v12.heap.size, 1, none⟩) SZ_V.out (.string (⟨#[49]⟩)))
              clear HB_14 R_14 A_14 B_14 G_14 E_14 N_14 D_14 V_14
              have y4 := G_15.out.cell (i := 0) (v := .string (zS (-c1))) rfl; have y5 := G_15.out.cell (i := 1) (v := .string (zS c2)) rfl
              have y6 := B_15.out.cell (i := 0) (v := .string (zS (-c1))) rfl; have y7 := B_15.out.cell (i := 1) (v := .string (zS c2)) rfl
              have y8 := E_15.out.cell (i := 0) (v := .string (zS a1)) rfl; have y9 := E_15.out.cell (i := 1) (v := .string (zS a2)) rfl
              have y10 := A_15.out.cell (i := 0) (v := .string (zS a1)) rfl; have y11 := A_15.out.cell (i := 1) (v := .string (zS a2)) rfl
              have y12 := N_15.out.cell (i := 0) (v := .string (zS fm)) rfl; have y13 := N_15.out.cell (i := 1) (v := .string (⟨#[49]⟩)) rfl
              have y14 := D_15.out.cell (i := 0) (v := .string (⟨#[49]⟩)) rfl; have y15 := D_15.out.cell (i := 1) (v := .string (tz k)) rfl
              have y16 := V_15.out.cell (i := 0) (v := .string (⟨#[49]⟩)) rfl; have y17 := V_15.out.cell (i := 1) (v := .string (⟨#[49]⟩)) rfl
              have y18 := R_15.out.cell (i := 0) (v := .string (zS n)) rfl; have y19 := R_15.out.cell (i := 1) (v := .string (zS d)) rfl
              go_wp2_with fail
              refine (C2.out _).mono ?_
              rintro e v15 ⟨rfl, hb⟩
              clear y0 y1 y2 y3 y4 y5 y6 y7 y8 y9 y10 y11 y12 y13 y14 y15 y16 y17 y18 y19
              have R_16 : Hid (Blk v15 v1.heap.size 23 #[.string (zS n), .string (zS d)]) := Lib.hid (R_15.out.below hb R_15.out.lt)
              have A_16 : Hid (Blk v15 v2.heap.size 23 #[.string (zS a1), .string (zS a2)]) := Lib.hid (A_15.out.below hb A_15.out.lt)
              have B_16 : Hid (Blk v15 v3.heap.size 23 #[.string (zS (-c1)), .string (zS c2)]) := Lib.hid (B_15.out.below hb B_15.out.lt)
              have G_16 : Hid (Blk v15 v7.heap.size 23 #[.string (zS (-c1)), .string (zS c2)]) := Lib.hid (G_15.out.below hb G_15.out.lt)
              have E_16 : Hid (Blk v15 v8.heap.size 23 #[.string (zS a1), .string (zS a2)]) := Lib.hid (E_15.out.below hb E_15.out.lt)
              have N_16 : Hid (Blk v15 sb 23 #[.string (zS fm), .string (⟨#[49]⟩)]) := Lib.hid (N_15.out.below hb N_15.out.lt)
              have D_16 : Hid (Blk v15 v10.heap.size 23 #[.string (⟨#[49]⟩), .string (tz k)]) := Lib.hid (D_15.out.below hb D_15.out.lt)
              have V_16 : Hid (Blk v15 v12.heap.size 23 #[.string (⟨#[49]⟩), .string (⟨#[49]⟩)]) := Lib.hid (V_15.out.below hb V_15.out.lt)
              have HB_16 : Hid (Below w.heap.size w v15) := Lib.hid (HB_15.out.trans (hb.mono HB_15.out.size))
              clear hb R_15 A_15 B_15 G_15 E_15 N_15 D_15 V_15 HB_15
              go_wp2_with fail
              go_ret
              exact ⟨rfl, HB_16.out⟩
            · have hz1 : ((k : Int) == 0) = false := by rw [beq_eq_false_iff_ne]; omega
              clear hz
              have y0 := G_13.out.cell (i := 0) (v := .string (zS (-c1))) rfl; have y1 := G_13.out.cell (i := 1) (v := .string (zS c2)) rfl
              have y2 := B_13.out.cell (i := 0) (v := .string (zS (-c1))) rfl; have y3 := B_13.out.cell (i := 1) (v := .string (zS c2)) rfl
              have y4 := E_13.out.cell (i := 0) (v := .string (zS a1)) rfl; have y5 := E_13.out.cell (i := 1) (v := .string (zS a2)) rfl
              have y6 := A_13.out.cell (i := 0) (v := .string (zS a1)) rfl; have y7 := A_13.out.cell (i := 1) (v := .string (zS a2)) rfl
              have y8 := N_13.out.cell (i := 0) (v := .string (zS fm)) rfl; have y9 := N_13.out.cell (i := 1) (v := .string (⟨#[49]⟩)) rfl
              have y10 := D_13.out.cell (i := 0) (v := .string (⟨#[49]⟩)) rfl; have y11 := D_13.out.cell (i := 1) (v := .string (tz k)) rfl
              have y12 := V_13.out.cell (i := 0) (v := .string (⟨#[49]⟩)) rfl; have y13 := V_13.out.cell (i := 1) (v := .string (tz k)) rfl
              have y14 := R_13.out.cell (i := 0) (v := .string (zS n)) rfl; have y15 := R_13.out.cell (i := 1) (v := .string (zS d)) rfl
              go_wp2_with fail
              refine (C2.out _).mono ?_
              rintro e v13 ⟨rfl, hb⟩
              clear y0 y1 y2 y3 y4 y5 y6 y7 y8 y9 y10 y11 y12 y13 y14 y15
              have R_14 : Hid (Blk v13 v1.heap.size 23 #[.string (zS n), .string (zS d)]) := Lib.hid (R_13.out.below hb R_13.out.lt)
              have A_14 : Hid (Blk v13 v2.heap.size 23 #[.string (zS a1), .string (zS a2)]) := Lib.hid (A_13.out.below hb A_13.out.lt)
              have B_14 : Hid (Blk v13 v3.heap.size 23 #[.string (zS (-c1)), .string (zS c2)]) := Lib.hid (B_13.out.below hb B_13.out.lt)
              have G_14 : Hid (Blk v13 v7.heap.size 23 #[.string (zS (-c1)), .string (zS c2)]) := Lib.hid (G_13.out.below hb G_13.out.lt)
              have E_14 : Hid (Blk v13 v8.heap.size 23 #[.string (zS a1), .string (zS a2)]) := Lib.hid (E_13.out.below hb E_13.out.lt)
              have N_14 : Hid (Blk v13 sb 23 #[.string (zS fm), .string (⟨#[49]⟩)]) := Lib.hid (N_13.out.below hb N_13.out.lt)
              have D_14 : Hid (Blk v13 v10.heap.size 23 #[.string (⟨#[49]⟩), .string (tz k)]) := Lib.hid (D_13.out.below hb D_13.out.lt)
              have V_14 : Hid (Blk v13 v12.heap.size 23 #[.string (⟨#[49]⟩), .string (tz k)]) := Lib.hid (V_13.out.below hb V_13.out.lt)
              have HB_14 : Hid (Below w.heap.size w v13) := Lib.hid (HB_13.out.trans (hb.mono HB_13.out.size))
              clear hb R_13 A_13 B_13 G_13 E_13 N_13 D_13 V_13 HB_13
              go_wp2_with fail
              go_ret
              exact ⟨rfl, HB_14.out⟩
end Go.Proofs.Ytnacgdkihkfjkaa
