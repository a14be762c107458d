/- The contract of RationalLowest. Conditions: ints. -/
import Derived.Test.YtnacgdkihkfjkaaGK
namespace Go.Proofs.Ytnacgdkihkfjkaa
open Go.RowKit Go.Lib

theorem low_mul {n d K : Int} (h : Low n d) (hK : K ≠ 0) : red (n * K) (d * K) = (n, d) := by
  have hd := h.1
  rw [← red_of_low h, red_eq (Int.mul_ne_zero (by omega) hK) (by omega)]
  grind
theorem low_zero {K : Int} (hK : K ≠ 0) : red 0 K = (0, 1) := by
  have h : Low 0 1 := ⟨by omega, by decide⟩
  rw [← red_of_low h, red_eq hK (by omega)]
  grind
theorem made_of {n d a b : Int} (w : World) (hn : n.natAbs < 10 ^ 200) (hd : d.natAbs < 10 ^ 200) (h0 : d ≠ 0) (h : red n d = (a, b)) :
    Calls Try.prog 33 #[.string (zS n), .string (zS d)] w fun e w' => e = .returned (.tuple #[.agg #[.string (zS a), .string (zS b)], .int .i64 0]) ∧ Below w.heap.size w w' :=
  (make_any (zS n) (zS d) w (zs n d hn hd).1 (zs n d hn hd).2).mono fun e w' ⟨he, hb⟩ => ⟨by
    rw [he, mkR_of hn hd]; unfold ofR; rw [if_neg h0, h]; rfl, hb⟩
/-- What the last line of RationalLowest reads. -/
def LowS (b8 b15 b17 b19 : Nat) (n d : Int) (w' : World) : Prop :=
  (w'.cell? ⟨b8, 0, none⟩ = some (.string (zS n)) ∧ w'.cell? ⟨b8, 1, none⟩ = some (.string (zS d))) ∧ (w'.cell? ⟨b15, 0, none⟩ = some (.string (zS n)) ∧ w'.cell? ⟨b15, 1, none⟩ = some (.string (zS d))) ∧
  (w'.cell? ⟨b17, 0, none⟩ = some (.string (zS n)) ∧ w'.cell? ⟨b17, 1, none⟩ = some (.string (zS d))) ∧ (w'.cell? ⟨b19, 0, none⟩ = some (.string ⟨#[48]⟩) ∧ w'.cell? ⟨b19, 1, none⟩ = some (.string ⟨#[49]⟩))
set_option maxRecDepth 100000 in
set_option maxHeartbeats 4000000 in
theorem lowest_law (i0 i1 i2 i3 factor : Int) (sign : Bool) (w : World) (h0 : -9223372036854775808 ≤ i0 ∧ i0 ≤ 9223372036854775807) (h1 : -9223372036854775808 ≤ i1 ∧ i1 ≤ 9223372036854775807) (h2 : -9223372036854775808 ≤ i2 ∧ i2 ≤ 9223372036854775807) (h3 : -9223372036854775808 ≤ i3 ∧ i3 ≤ 9223372036854775807) (hf : -9223372036854775808 ≤ factor ∧ factor ≤ 9223372036854775807) :
    Calls Try.prog 8 #[.agg #[.int .i64 i0, .int .i64 i1, .int .i64 i2, .int .i64 i3], .int .i64 factor, .bool sign] w fun e w' => e = .returned (.bool true) ∧ Below w.heap.size w w' := by
  have P1 := Lib.hid (fun W => pick_any factor 1000000 W hf (by omega))
  have HSA := Lib.hid (fun W => sane_any W)
  have HLO := Lib.hid (fun W => rlong_any i0 i1 i2 i3 W h0 h1 h2 h3)
  have HIS := Lib.hid (fun W => is_any ⟨#[48]⟩ ⟨#[49]⟩ W)
  have hb0 : Below w.heap.size w (w.alloc (.cells #[.int .i64 i0, .int .i64 i1, .int .i64 i2, .int .i64 i3] 24)) := (Below.refl _ _).alloc (Nat.le_refl _) _
  have HB0 := Lib.hid hb0
  have hx := Blk.new w 24 #[.int .i64 i0, .int .i64 i1, .int .i64 i2, .int .i64 i3]
  have HX := Lib.hid hx
  clear h0 h1 h2 h3 hf hb0 hx
  go_enter Try.func8, Try.ntmps8
  go_wp2_with fail
  refine (HSA.out _).mono ?_
  rintro e w1 ⟨rfl, hb1⟩
  have hx1 := HX.out.below hb1 HX.out.lt
  have x0 := hx1.cell (i := 0) (v := .int .i64 i0) rfl; have x1 := hx1.cell (i := 1) (v := .int .i64 i1) rfl; have x2 := hx1.cell (i := 2) (v := .int .i64 i2) rfl; have x3 := hx1.cell (i := 3) (v := .int .i64 i3) rfl
  have HB1 := Lib.hid (HB0.out.trans (hb1.mono HB0.out.size))
  clear hb1 hx1
  go_wp2_with fail
  refine (HLO.out _).mono ?_
  rintro e w2 ⟨n, d, hl, hn9, hd9, rfl, hb2⟩
  have hk2 := HB1.out.trans (hb2.mono HB1.out.size)
  have HB2 := Lib.hid (hk2.alloc hk2.size (.cells #[.string (zS n), .string (zS d)] 23))
  have HR2 := Lib.hid (Blk.new w2 23 #[.string (zS n), .string (zS d)])
  have HL := Lib.hid hl; have HN := Lib.hid hn9; have HD := Lib.hid hd9
  clear hb2 hk2 hl hn9 hd9 x0 x1 x2 x3
  go_wp2_with fail
  refine (P1.out _).mono ?_
  rintro e wp ⟨k, hk, rfl, rfl⟩
  obtain ⟨K, hK⟩ : ∃ K : Int, K = if sign then -(1 + (k : Int)) else 1 + (k : Int) := ⟨_, rfl⟩
  have hK0 : K ≠ 0 ∧ K.natAbs < 10 ^ 7 := by rw [hK]; cases sign <;> simp <;> omega
  have b1 : n.natAbs < 10 ^ 200 := lt200 HN.out (by omega)
  have b2 : d.natAbs < 10 ^ 200 := lt200 HD.out (by omega)
  have b3 : K.natAbs < 10 ^ 200 := lt200 hK0.2 (by omega)
  have b4 : (n * K).natAbs < 10 ^ 200 := lt200 (abs_mul HN.out hK0.2) (by omega)
  have b5 : (d * K).natAbs < 10 ^ 200 := lt200 (abs_mul HD.out hK0.2) (by omega)
  have hdp := HL.out.1
  have HFI := Lib.hid (fun W => qfrom_any K W (by rw [hK]; cases sign <;> simp <;> omega) (by rw [hK]; cases sign <;> simp <;> omega))
  have hM1 := fun W => qmul_any (zS n) (zS K) W (zs n K b1 b3).1 (zs n K b1 b3).2
  have hM2 := fun W => qmul_any (zS d) (zS K) W (zs d K b2 b3).1 (zs d K b2 b3).2
  rw [opR_yes (zS_rd b1) (zS_rd b3), lim_some b4] at hM1
  rw [opR_yes (zS_rd b2) (zS_rd b3), lim_some b5] at hM2
  unfold OutO okS okE at hM1 hM2
  have A1 := Lib.hid (fun W => made_of W b4 b5 (Int.mul_ne_zero (by omega) hK0.1) (low_mul HL.out hK0.1))
  have A2 := Lib.hid (fun W => made_of W b1 b2 (by omega) (red_of_low HL.out))
  have hA3 := fun W => made_of (n := 0) W (by decide) b3 hK0.1 (low_zero hK0.1)
  rw [zS_zero, zS_one] at hA3
  have hV := fun W => fvalid_any (zS n) (zS d) W (zs n d b1 b2).1 (zs n d b1 b2).2
  have hC := fun W => fcmp_any (zS n) (zS d) (zS n) (zS d) W (zs n d b1 b2) (zs n d b1 b2)
  have hP := fun W => fprint_any (zS n) (zS d) W (zs n d b1 b2)
  rw [rdQ_yes (zS_rd b1) (zS_rd b2), if_pos HL.out] at hV
  rw [cmpQ_same] at hC
  unfold fV at hV hC hP
  obtain ⟨ps, hps⟩ : ∃ ps, ps = printQ (rdQ (zS n).data.toList (zS d).data.toList) := ⟨_, rfl⟩
  rw [← hps] at hP
  have M1 := Lib.hid hM1; have M2 := Lib.hid hM2; have A3 := Lib.hid hA3; have V := Lib.hid hV; have C := Lib.hid hC; have PR := Lib.hid hP
  have r0 := HR2.out.cell (i := 0) (v := .string (zS n)) rfl; have r1 := HR2.out.cell (i := 1) (v := .string (zS d)) rfl
  clear hM1 hM2 hA3 hV hC hP hps b1 b2 b3 b4 b5 hK0 hdp HLO HSA P1
  cases sign
  all_goals
    simp only [if_true, if_false, Bool.false_eq_true] at hK
    go_wp2_with fail
    rw [← hK]
    clear hK r0 r1
    refine (HFI.out _).mono ?_
    rintro e w3 ⟨rfl, hb3⟩
    have T3 := Lib.hid hb3
    have hr3 := HR2.out.below hb3 HR2.out.lt
    have r0 := hr3.cell (i := 0) (v := .string (zS n)) rfl; have r1 := hr3.cell (i := 1) (v := .string (zS d)) rfl
    clear hb3 hr3
    go_wp2_with fail
    refine (M1.out _).mono ?_
    rintro e w4 ⟨rfl, hb4⟩
    have T4 := Lib.hid (T3.out.trans (hb4.mono T3.out.size))
    have hr4 := HR2.out.below T4.out HR2.out.lt
    have r2 := hr4.cell (i := 0) (v := .string (zS n)) rfl; have r3 := hr4.cell (i := 1) (v := .string (zS d)) rfl
    clear hb4 hr4 r0 r1
    go_wp2_with fail
    refine (M2.out _).mono ?_
    rintro e w5 ⟨rfl, hb5⟩
    have T5 := Lib.hid (T4.out.trans (hb5.mono T4.out.size))
    clear hb5 r2 r3
    go_wp2_with fail
    refine (A1.out _).mono ?_
    rintro e w6 ⟨rfl, hb6⟩
    have t6 := T5.out.trans (hb6.mono T5.out.size)
    have T6 := Lib.hid (t6.alloc t6.size (.cells #[.string (zS n), .string (zS d)] 23))
    have HA6 := Lib.hid (Blk.new w6 23 #[.string (zS n), .string (zS d)])
    have hr6 := HR2.out.below T6.out HR2.out.lt
    have r0 := hr6.cell (i := 0) (v := .string (zS n)) rfl; have r1 := hr6.cell (i := 1) (v := .string (zS d)) rfl
    clear hb6 t6 hr6
    go_wp2_with fail
    refine (A2.out _).mono ?_
    rintro e w7 ⟨rfl, hb7⟩
    have t7 := T6.out.trans (hb7.mono T6.out.size)
    have T7 := Lib.hid (t7.alloc t7.size (.cells #[.string (zS n), .string (zS d)] 23))
    have HA7 := Lib.hid ((HA6.out.below hb7 HA6.out.lt).alloc (.cells #[.string (zS n), .string (zS d)] 23))
    have HB7 := Lib.hid (Blk.new w7 23 #[.string (zS n), .string (zS d)])
    clear hb7 t7 r0 r1
    go_wp2_with fail
    refine (A3.out _).mono ?_
    rintro e w8 ⟨rfl, hb8⟩
    have t8 := T7.out.trans (hb8.mono T7.out.size)
    have T8 := Lib.hid (t8.alloc t8.size (.cells #[.string ⟨#[48]⟩, .string ⟨#[49]⟩] 23))
    have HA8 := Lib.hid ((HA7.out.below hb8 HA7.out.lt).alloc (.cells #[.string ⟨#[48]⟩, .string ⟨#[49]⟩] 23))
    have HB8 := Lib.hid ((HB7.out.below hb8 HB7.out.lt).alloc (.cells #[.string ⟨#[48]⟩, .string ⟨#[49]⟩] 23))
    have HC8 := Lib.hid (Blk.new w8 23 #[.string ⟨#[48]⟩, .string ⟨#[49]⟩])
    have HR8 := Lib.hid (HR2.out.below T8.out HR2.out.lt)
    clear hb8 t8
    go_wp2_with fail
    have HK8 : Hid (∀ W, Below (w8.alloc (.cells #[.string ⟨#[48]⟩, .string ⟨#[49]⟩] 23)).heap.size (w8.alloc (.cells #[.string ⟨#[48]⟩, .string ⟨#[49]⟩] 23)) W → LowS w2.heap.size w6.heap.size w7.heap.size w8.heap.size n d W) := fun W hW => by
      have q1 := HR8.out.below hW HR8.out.lt
      have q2 := HA8.out.below hW HA8.out.lt
      have q3 := HB8.out.below hW HB8.out.lt
      have q4 := HC8.out.below hW HC8.out.lt
      exact ⟨⟨q1.cell (i := 0) rfl, q1.cell (i := 1) rfl⟩, ⟨q2.cell (i := 0) rfl, q2.cell (i := 1) rfl⟩, ⟨q3.cell (i := 0) rfl, q3.cell (i := 1) rfl⟩, ⟨q4.cell (i := 0) rfl, q4.cell (i := 1) rfl⟩⟩
    have HY : Hid (Below (w8.alloc (.cells #[.string ⟨#[48]⟩, .string ⟨#[49]⟩] 23)).heap.size (w8.alloc (.cells #[.string ⟨#[48]⟩, .string ⟨#[49]⟩] 23)) (w8.alloc (.cells #[.string ⟨#[48]⟩, .string ⟨#[49]⟩] 23)).drew) := (Below.refl _ _).drew
    have hk0 := HK8.out _ HY.out
    unfold LowS at hk0 HK8
    have HT := Lib.hid (HB2.out.trans (T8.out.mono HB2.out.size))
    clear M1 M2 A1 A2 A3 HFI
    go_region_held3 (fun w' => (w'.cell? ⟨w2.heap.size, 0, none⟩ = some (.string (zS n)) ∧ w'.cell? ⟨w2.heap.size, 1, none⟩ = some (.string (zS d))) ∧ (w'.cell? ⟨w6.heap.size, 0, none⟩ = some (.string (zS n)) ∧ w'.cell? ⟨w6.heap.size, 1, none⟩ = some (.string (zS d))) ∧
        (w'.cell? ⟨w7.heap.size, 0, none⟩ = some (.string (zS n)) ∧ w'.cell? ⟨w7.heap.size, 1, none⟩ = some (.string (zS d))) ∧ (w'.cell? ⟨w8.heap.size, 0, none⟩ = some (.string ⟨#[48]⟩) ∧ w'.cell? ⟨w8.heap.size, 1, none⟩ = some (.string ⟨#[49]⟩))) (first | exact HK8.out _ HY.out | exact hk0 | go_keep)
      (first
        | (go_at_call 27; (with_reducible refine (HIS.out _).mono ?_); rintro e v ⟨rfl, h9⟩; have HY := Lib.hid (HY.out.trans (h9.mono HY.out.size)); clear h9)
        | (go_at_call 13; (with_reducible refine (PR.out _).mono ?_); rintro e v ⟨rfl, h9⟩; have HY := Lib.hid (HY.out.trans (h9.mono HY.out.size)); clear h9)
        | (go_at_call 22; (with_reducible refine (C.out _).mono ?_); rintro e v ⟨rfl, h9⟩; have HY := Lib.hid (HY.out.trans (h9.mono HY.out.size)); clear h9)
        | (go_at_call 16; (with_reducible refine (V.out _).mono ?_); rintro e v ⟨rfl, h9⟩; have HY := Lib.hid (HY.out.trans (h9.mono HY.out.size)); clear h9))
    all_goals
      go_wp2_with fail
      go_ret
      exact ⟨rfl, HT.out.trans (HY.out.mono HT.out.size)⟩
end Go.Proofs.Ytnacgdkihkfjkaa
