/- The contract of divided. Conditions: the amounts read, and have at most 600 groups; the divisor is not zero. -/
import Derived.Test.YtgpppjfgdbloiaaQuot
namespace Go.Proofs.Ytgpppjfgdbloiaa
open Go.RowKit Go.Lib

/-- Quotient and remainder have been returned. -/
def OutQ (X T : Nat) (w : World) (e : Ending) (w' : World) : Prop :=
  ∃ A c A' c', e = .returned (.tuple #[.slice A (glen (X / T)) c, .slice A' (glen (X % T)) c']) ∧ Am w' A (glen (X / T)) c (X / T) ∧ Am w' A' (glen (X % T)) c' (X % T) ∧ Below w.heap.size w w'

theorem glen_shr (X f : Nat) : glen (X / 10000 ^ f) = glen X - f := by
  have h1 : glen (X / 10000 ^ f) ≤ glen X - f := by
    rw [glen_le, Nat.div_lt_iff_lt_mul (Nat.pow_pos (by omega)), ← Nat.pow_add]
    exact Nat.lt_of_lt_of_le (lt_glen X) (Nat.pow_le_pow_right (by omega) (by omega))
  have h2 : glen X ≤ glen (X / 10000 ^ f) + f := by
    rw [glen_le, Nat.pow_add, ← Nat.div_lt_iff_lt_mul (Nat.pow_pos (by omega))]
    exact lt_glen _
  omega
theorem dg4_shr (X f i : Nat) : dg4 (X / 10000 ^ f) i = dg4 X (f + i) := by unfold dg4; rw [Nat.div_div_eq_div_mul, ← Nat.pow_add]
/-- A slice expression 's[f:]' of an amount. -/
theorem run_from_am {w : World} {A : Option Addr} {n c X : Nat} (t : TypeId) (ht : Try.prog.underlying t = some (.slice 3)) (hA : Am w A n c X) (f : Nat) (hf : f ≤ n) :
    ∃ A2, (∀ w, (Instr.slice t (.slice A n c) (some (.int .i64 (f : Nat))) none none).run Try.prog w = .ok (.slice A2 (n - f) (c - f)) w) ∧ ∀ w, Am w A n c X → Am w A2 (n - f) (c - f) (X / 10000 ^ f) := by
  obtain ⟨i, hi, hz, hs, hb⟩ := info_of info_i64
  have hnc := hA.1
  by_cases h0 : 0 < n
  · obtain ⟨b, o, rfl, -, -⟩ := hA.2 h0
    have h1 : (f : Int) ≤ n := by omega
    by_cases hcf : c = f
    · refine ⟨some ⟨b, o, none⟩, fun w => ?_, fun w h => ⟨by omega, fun h => absurd h (by omega)⟩⟩
      have h3 : (⟨b, o, none⟩ : Addr).add 0 = ⟨b, o, none⟩ := by unfold Addr.add; rfl
      subst hcf
      simp [Instr.slice, run_underlying ht, Instr.sliceBounds, run_sliceBound, h1, sizeOf, typeInfo, hi, hs]
    · refine ⟨some ⟨b, o + f, none⟩, fun w => ?_, fun w h => ⟨by omega, fun h2 => ?_⟩⟩
      · have h3 : (⟨b, o, none⟩ : Addr).add f = ⟨b, o + f, none⟩ := by unfold Addr.add; split <;> simp_all
        simp [Instr.slice, run_underlying ht, Instr.sliceBounds, run_sliceBound, h1, sizeOf, typeInfo, hi, hs, h3, hcf]
      · obtain ⟨b', o', e, hl, hc⟩ := h.2 h0
        cases e
        exact ⟨_, _, rfl, hl, fun i hi => by rw [Nat.add_assoc, hc (f + i) (by omega), dg4_shr]⟩
  · obtain rfl : n = 0 := by omega
    obtain rfl : f = 0 := by omega
    refine ⟨A, fun w => ?_, fun w h => ⟨by omega, fun h => absurd h (by omega)⟩⟩
    cases A with
    | none => simp [Instr.slice, run_underlying ht, Instr.sliceBounds, run_sliceBound]
    | some a =>
      have h3 : a.add 0 = a := by unfold Addr.add; split <;> simp_all
      simp [Instr.slice, run_underlying ht, Instr.sliceBounds, run_sliceBound, sizeOf, typeInfo, hi, hs, h3]

/-- The groups of a quotient that are known so far. -/
def quos (Q f t : Nat) : List Int := (List.range f).map fun j => if j < t then 0 else (dg4 Q j : Int)
theorem quos_length (Q f t : Nat) : (quos Q f t).length = f := by simp [quos]
theorem quos_new (Q f : Nat) : (quos Q f f) = List.replicate f 0 := by
  apply List.ext_getElem
  · simp [quos]
  · intro i h1 h2
    have : i < f := by simpa [quos] using h1
    simp [quos, this]
theorem quos_all (Q f : Nat) : quos Q f 0 = grps Q f := by simp [quos, grps]
theorem quos_set (Q f k : Nat) : (quos Q f (k + 1)).set k (dg4 Q k : Int) = quos Q f k := by
  apply List.ext_getElem
  · simp [quos]
  · intro i h1 h2
    rw [List.getElem_set]
    have : i < f := by simpa [quos] using h2
    simp only [quos, List.getElem_map, List.getElem_range]
    by_cases h : k = i
    · subst h; simp
    · simp only [if_neg h]
      by_cases h3 : i < k + 1
      · rw [if_pos h3, if_pos (by omega)]
      · rw [if_neg h3, if_neg (by omega)]
theorem div_step {X T k : Nat} (hT : 0 < T) : dg4 (X / T) k = (10000 * (X / 10000 ^ (k + 1) % T) + dg4 X k) / T ∧ X / 10000 ^ k % T = (10000 * (X / 10000 ^ (k + 1) % T) + dg4 X k) % T ∧ 10000 * (X / 10000 ^ (k + 1) % T) + dg4 X k < T * 10000 := by
  have h1 := div_pred4 X k
  have hd := dg4_lt X k
  obtain ⟨U, hU⟩ : ∃ U, U = X / 10000 ^ (k + 1) := ⟨_, rfl⟩
  obtain ⟨d, hd2⟩ : ∃ d, d = dg4 X k := ⟨_, rfl⟩
  rw [← hU, ← hd2] at h1 ⊢
  rw [← hd2] at hd
  have hm := Nat.mod_lt U hT
  have hlt : 10000 * (U % T) + d < T * 10000 := by omega
  have hE : 10000 * U + d = (10000 * (U % T) + d) + T * (10000 * (U / T)) := by
    have := Nat.div_add_mod U T
    have h2 : T * (10000 * (U / T)) = 10000 * (T * (U / T)) := Nat.mul_left_comm _ _ _
    omega
  refine ⟨?_, ?_, hlt⟩
  · unfold dg4
    rw [Nat.div_div_eq_div_mul, Nat.mul_comm T, ← Nat.div_div_eq_div_mul, h1, hE, Nat.add_mul_div_left _ _ hT, Nat.add_mul_mod_self_left]
    exact Nat.mod_eq_of_lt (by rw [Nat.div_lt_iff_lt_mul hT]; omega)
  · rw [h1, hE, Nat.add_mul_mod_self_left]

set_option maxRecDepth 100000 in
set_option maxHeartbeats 1000000 in
theorem adiv_any (A A' : Option Addr) (c c' X T : Nat) (w : World) (hA : Am w A (glen X) c X) (hB : Am w A' (glen T) c' T) (hX : glen X ≤ 600) (hT : glen T ≤ 600) (hT0 : 0 < T) :
    Calls Try.prog 69 #[.slice A (glen X) c, .slice A' (glen T) c'] w (OutQ X T w) := by
  have hm0 := glen_pos hT0
  obtain ⟨f, hf⟩ : ∃ f, f = glen X + 1 - glen T := ⟨_, rfl⟩
  have hmk := fun w => run_make_ints 51 Try.underlying51 f f (Nat.le_refl _) (by omega) w
  obtain ⟨A2, hs2, hA2⟩ := run_from_am 51 Try.underlying51 hA f (by omega)
  have hb1 : Below w.heap.size w (w.alloc (.cells (zc f) 3)) := (Below.refl _ _).alloc (Nat.le_refl _) _
  have hg1 : Blk (w.alloc (.cells (zc f) 3)) w.heap.size 3 (zc f) := Blk.new w 3 (zc f)
  have hlow : X / 10000 ^ f < T := by
    refine Nat.lt_of_lt_of_le (glen_le.1 ?_) (pow_glen_le hT0)
    rw [glen_shr]; omega
  have hQ : X / T < 10000 ^ f := by
    rw [Nat.div_lt_iff_lt_mul hT0]
    refine Nat.lt_of_lt_of_le (lt_glen X) (Nat.le_trans (Nat.pow_le_pow_right (show 0 < 10000 by omega) (show glen X ≤ f + (glen T - 1) by omega)) ?_)
    rw [Nat.pow_add]
    exact Nat.mul_le_mul_left _ (pow_glen_le hT0)
  have hsl : glen X - f = glen (X / 10000 ^ f % T) := by rw [Nat.mod_eq_of_lt hlow, glen_shr]
  have hA3 := hA2 _ (hA.below hb1)
  rw [← Nat.mod_eq_of_lt hlow, hsl] at hA3
  rw [hsl] at hs2
  have hz : quos (X / T) f f = List.replicate f 0 := quos_new _ _
  have hG : Blk (w.alloc (.cells (zc f) 3)) w.heap.size 3 ((quos (X / T) f f).map iv).toArray := by rw [hz]; exact hg1
  have htr := fun W (h : Am W (some ⟨w.heap.size, 0, none⟩) f f (X / T)) => trimmed_any _ f f (X / T) W h hQ (by omega)
  have HTR := Lib.hid htr; have HG := Lib.hid hG; have HA3 := Lib.hid hA3; have HB1 := Lib.hid hb1; have HA := Lib.hid hA; have HB := Lib.hid hB; have HQ := Lib.hid hQ
  have HGL := Lib.hid (glen_le.2 hQ)
  by_cases hf0 : f = 0
  · subst hf0
    have hR0 : X / 10000 ^ 0 % T = X % T := by simp
    have hA4 := HA3.out
    rw [hR0] at hs2 hA4
    have hmk0 := hmk
    rw [show ((0 : Nat) : Int) = 0 from rfl] at hmk0 hs2
    have hQ0 : X / T = 0 := by have := HQ.out; simpa using this
    have e0 : ((glen X : Nat) : Int) - ((glen T : Nat) : Int) + 1 ≤ 0 := by omega
    have ht0 := htr _ (Am.zero (w := w.alloc (.cells (zc 0) 3)))
    have HT0 := Lib.hid ht0; have HQ0 := Lib.hid hQ0; have HA4 := Lib.hid hA4
    clear hmk hA hB hf hA2 hb1 hg1 hlow hQ hsl hA3 hz hG htr ht0 hQ0 hA4 hR0
    go_enter Try.func69, Try.ntmps69
    go_wp2
    clear e0 hmk0 hs2
    go_loopw [8, 9] (fun r i wr => r = .slice A2 (glen (X % T)) (c - 0) ∧ i = .int .i64 (-1) ∧ wr = w.alloc (.cells (zc 0) 3)) (fun _ _ _ => 0)
    case atStart => exact ⟨rfl, rfl, rfl⟩
    case round =>
      obtain ⟨rfl, rfl, rfl⟩ := hrel
      go_wp2_with (go_at_call 71; (with_reducible refine HT0.out.mono ?_); rintro e w2 ⟨rfl, rfl⟩)
      go_ret2
      exact ⟨_, _, _, _, rfl, (by rw [HQ0.out, glen_zero]; exact Am.zero), HA4.out, HB1.out⟩
  · have e0 : ((glen X : Nat) : Int) - ((glen T : Nat) : Int) + 1 = (f : Int) := by omega
    have e1 : (0 : Int) < (f : Int) := by omega
    have hT9 : glen T ≤ 600 := hT
    have hfX : f ≤ glen X := by omega
    have HTP := Lib.hid hT0
    obtain ⟨R0, hR0⟩ : ∃ R0, R0 = X / 10000 ^ f % T := ⟨_, rfl⟩
    rw [← hR0] at hs2
    have hA4 := HA3.out
    rw [← hR0] at hA4
    have HR0 := Lib.hid hR0; have HA4 := Lib.hid hA4
    clear hA hB hf hA2 hb1 hg1 hlow hQ hsl hA3 hz hG htr hA4 hR0 hf0 hm0 HA3
    go_enter Try.func69, Try.ntmps69
    go_wp2
    clear e0 hmk hs2
    go_loopw [8, 9] (fun r ii wr => ∃ (t : Nat) (i : Int) (Ar : Option Addr) (cr R : Nat), ii = .int .i64 i ∧ Hid (i = (t : Int) - 1) ∧ t ≤ f ∧ r = .slice Ar (glen R) cr ∧ Hid (R = X / 10000 ^ t % T) ∧ Am wr Ar (glen R) cr R ∧ Blk wr w.heap.size 3 ((quos (X / T) f t).map iv).toArray ∧ Below w.heap.size w wr)
      (fun _ ii _ => (intOf ii + 1).toNat)
    case atStart => exact ⟨f, _, _, _, R0, rfl, rfl, Nat.le_refl _, rfl, HR0.out, HA4.out, HG.out, HB1.out⟩
    case round =>
      obtain ⟨t, i, Ar, cr, R, rfl, HI, ht, rfl, HR, hAr, hG, hbl⟩ := hrel
      rcases t with _ | k
      · obtain rfl : i = -1 := by have := HI.out; omega
        have hR1 : R = X % T := by rw [HR.out]; simp
        rw [quos_all] at hG
        have hA5 := Am.of_blk hG (V := X / T) (by rw [grps_length])
        rw [grps_length] at hA5
        subst hR1
        have HT1 := Lib.hid (HTR.out wr hA5)
        have HA5 := Lib.hid (hA5.less HGL.out)
        have HAr := Lib.hid hAr
        clear hA5 hAr hG
        go_wp2_with (go_at_call 71; (with_reducible refine HT1.out.mono ?_); rintro e w2 ⟨rfl, rfl⟩)
        go_ret2
        exact ⟨_, _, _, _, rfl, HA5.out, HAr.out, hbl⟩
      · obtain rfl : i = (k : Int) := by have := HI.out; omega
        obtain ⟨s1, s2, s3⟩ := div_step (X := X) (k := k) hT0
        rw [← HR.out] at s1 s2 s3
        have hd := dg4_lt X k
        obtain ⟨b, o, rfl, hb, hc⟩ := (HA.out.below hbl).2 (by omega)
        have hcell := hc k (by omega)
        have hRlt : R < T := by rw [HR.out]; exact Nat.mod_lt _ HTP.out
        have hgR : glen R ≤ 600 := Nat.le_trans (glen_mono (Nat.le_of_lt hRlt)) hT
        obtain ⟨d, hd2⟩ : ∃ d, d = dg4 X k := ⟨_, rfl⟩
        rw [← hd2] at hcell hd s1 s2 s3
        have HC1 := Lib.hid (followed_any Ar cr R d wr hAr (by omega) hd)
        obtain ⟨R1, hR1⟩ : ∃ R1, R1 = 10000 * R + d := ⟨_, rfl⟩
        rw [← hR1] at s1 s2 s3 HC1
        obtain ⟨q, hq⟩ : ∃ q, q = R1 / T := ⟨_, rfl⟩
        have hq2 : q < 10000 := by rw [hq, Nat.div_lt_iff_lt_mul HTP.out, Nat.mul_comm]; exact s3
        have hgR1 : glen R1 ≤ 700 := by have := glen_prod s3; omega
        have hqT : T * q ≤ R1 := by rw [hq]; exact Nat.mul_div_le R1 T
        have hrem : R1 - T * q = R1 % T := by rw [hq]; have := Nat.div_add_mod R1 T; omega
        rw [← hq] at s1
        have q1 : (0 : Int) ≤ (k : Int) := by omega
        have q2 : (k : Int) < ((glen X : Nat) : Int) := by omega
        have q3 : (k : Int) < (f : Int) := by omega
        have HS1 := Lib.hid s1; have HS2 := Lib.hid s2; have HS3 := Lib.hid s3; have HQT := Lib.hid hqT; have HREM := Lib.hid hrem; have HG2 := Lib.hid hG; have HBL := Lib.hid hbl; have HQQ := Lib.hid hq
        clear hc hd2 hR1 hq s1 s2 s3 hqT hrem hG hAr hRlt
        go_wp2_with fail
        refine HC1.out.mono ?_
        rintro e w1 ⟨c1, rfl, hA1, hb1⟩
        have hbl1 := HBL.out.trans (hb1.mono HBL.out.size)
        have hqg := qgroup_any (some ⟨wr.heap.size, 0, none⟩) A' c1 c' R1 T w1 hA1 (HB.out.below hbl1) hT hgR1 HTP.out HS3.out
        rw [← HQQ.out] at hqg
        have HC2 := Lib.hid hqg; have HA1 := Lib.hid hA1; have HB1 := Lib.hid hb1
        clear hqg hA1 hb1
        have HBL1 := Lib.hid hbl1
        clear hbl1
        go_wp2_with fail
        refine HC2.out.mono ?_
        rintro e w2 ⟨rfl, hb2⟩
        have hbl2 := HBL1.out.trans (hb2.mono HBL1.out.size)
        have hG3 := HG2.out.below ((HB1.out).trans (hb2.mono HB1.out.size)) (Nat.lt_of_lt_of_le HG2.out.lt (Nat.le_refl _))
        have c0 := hG3.cell (iv_at (l := quos (X / T) f (k + 1)) (i := k) (by rw [quos_length]; omega))
        have f0 := hG3.frozen k
        obtain ⟨z, hz⟩ : ∃ z, z = (quos (X / T) f (k + 1))[k]'(by rw [quos_length]; omega) := ⟨_, rfl⟩
        rw [← hz, iv] at c0
        have hG4 := hG3.set k (iv (q : Nat))
        rw [iv_set, show (q : Int) = (dg4 (X / T) k : Nat) from by rw [HS1.out], quos_set] at hG4
        rw [← show (q : Int) = (dg4 (X / T) k : Nat) from by rw [HS1.out], iv] at hG4
        have hbl3 : Below w.heap.size w (w2.setCell ⟨w.heap.size, k, none⟩ (.int .i64 (q : Nat))) := hbl2.setCell (Nat.le_refl _) _
        have hlt1 := HG2.out.lt
        have hA1x := (HA1.out.below hb2).far (p := ⟨w.heap.size, k, none⟩) (by rintro b o h; cases h; exact Nat.ne_of_gt hlt1) (.int .i64 (q : Nat))
        have c1 := hG4.cell (iv_at (l := quos (X / T) f k) (i := k) (by rw [quos_length]; omega))
        have hqk : (quos (X / T) f k)[k]'(by rw [quos_length]; omega) = (q : Int) := by rw [← HS1.out]; simp [quos]
        rw [hqk, iv] at c1
        have hs2 : (w2.setCell ⟨w.heap.size, k, none⟩ (.int .i64 (q : Nat))).heap.size = w2.heap.size := by simp [World.setCell]
        have hb4 : Below w2.heap.size (w2.setCell ⟨w.heap.size, k, none⟩ (.int .i64 (q : Nat))) ((w2.setCell ⟨w.heap.size, k, none⟩ (.int .i64 (q : Nat))).alloc (.cells #[.int .i64 (q : Nat)] 3)) := (Below.refl _ _).alloc (by rw [hs2]; exact Nat.le_refl _) _
        have hb4' := hb4
        rw [← hs2] at hb4'
        have hbl4 := hbl3.trans (hb4.mono hbl2.size)
        have hG5 := hG4.alloc (.cells #[.int .i64 (q : Nat)] 3)
        have htm := atimes_one A' c' T q w2.heap.size _ (HB.out.below hbl4) (by omega) (by omega) (by simp [World.setCell]) (World.cell?_alloc_at _ _ _ _ (by simp [World.setCell]))
        have hA1y := hA1x.below hb4'
        have HC3 := Lib.hid htm; have HG5 := Lib.hid hG5; have HBL4 := Lib.hid hbl4; have HA1Y := Lib.hid hA1y
        clear hb4 hb4' hG4 hbl3 hA1x hbl2 hG3 hb2 hz hqk hs2 htm hG5 hbl4 hA1y
        go_wp2_with fail
        refine HC3.out.mono ?_
        rintro e w5 ⟨A5, c5, rfl, hA5, hb5⟩
        have hmi := aminus_any (some ⟨wr.heap.size, 0, none⟩) A5 _ c5 R1 (T * q) w5 (HA1Y.out.below hb5) hA5 (by omega) HQT.out
        rw [HREM.out] at hmi
        have hbl5 := HBL4.out.trans (hb5.mono HBL4.out.size)
        have hG6 := HG5.out.below hb5 HG5.out.lt
        have HC4 := Lib.hid hmi; have HG6 := Lib.hid hG6; have HBL5 := Lib.hid hbl5
        clear hmi hG6 hbl5 hb5 hA5
        go_wp2_with fail
        refine HC4.out.mono ?_
        rintro e w6 ⟨A6, c6, rfl, hA6, hb6⟩
        have hG7 := HG6.out.below hb6 HG6.out.lt
        have hbl6 := HBL5.out.trans (hb6.mono HBL5.out.size)
        go_wp2_with fail
        go_roundw
        case rel => exact ⟨k, (k : Int) - 1, _, _, R1 % T, rfl, rfl, by omega, rfl, HS2.out.symm, hA6, hG7, hbl6⟩
        case measure => simp [intOf]
end Go.Proofs.Ytgpppjfgdbloiaa
