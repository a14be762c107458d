/- The contract of text. Condition: the amount reads, and has at most 1,000 groups. -/
import Derived.Test.YtgpppjfgdbloiaaPboth
namespace Go.Proofs.Ytgpppjfgdbloiaa
open Go.RowKit Go.Lib

theorem info_u8 : (Try.prog.info? 5).map (fun i => (i.zero, i.size, i.bytes)) = some (some (.int .u8 0), 1, 1) := by kernel_rfl
/-- A byte as a value. -/
def bu (c : UInt8) : Value := .int .u8 c.toNat
theorem run_make_bytes (t : TypeId) (ht : Try.prog.underlying t = some (.slice 5)) (k : Nat) (hk : k ≤ 100000) (w : World) :
    (Instr.makeSlice t (.int .i64 (k : Nat)) (.int .i64 (k : Nat))).run Try.prog w = .ok (.slice (some ⟨w.heap.size, 0, none⟩) k k) (w.alloc (.cells ((List.replicate k (0 : UInt8)).map bu).toArray 5)) := by
  obtain ⟨i, hi, hz, hs, hb⟩ := info_of info_u8
  have h := run_make (P := Try.prog) w t 5 i (.int .u8 0) ht hi hz .i64 .i64 k k (by omega) (by omega) (by rw [hb]; omega) (by omega)
  rw [hs] at h
  have e : madeCells (Value.int .u8 0).cells k = ((List.replicate k (0 : UInt8)).map bu).toArray := by
    apply Array.ext
    · simp [madeCells]
    · intro j h1 h2
      simp [madeCells, Nat.mod_one, bu, Value.cells]
  simp only [Int.toNat_natCast, Nat.mul_one] at h
  rw [e] at h
  exact h
theorem run_slice_from (t e : TypeId) (b o n c k : Nat) (ht : Try.prog.underlying t = some (.slice e)) (he : (Try.prog.info? e).map (·.size) = some 1) (hk : k < n) (hc : n ≤ c) (w : World) :
    (Instr.slice t (.slice (some ⟨b, o, none⟩) n c) (some (.int .i64 (k : Nat))) none none).run Try.prog w = .ok (.slice (some ⟨b, o + k, none⟩) (n - k) (c - k)) w := by
  have h1 : (k : Int) ≤ n := by omega
  have hz : (sizeOf e).run Try.prog w = .ok 1 w := by
    cases hq : Try.prog.info? e with
    | none => simp [hq] at he
    | some i => have : i.size = 1 := by simpa [hq] using he
                simp [sizeOf, typeInfo, hq, this]
  have h2 : ¬ c = k := by omega
  have h3 : (⟨b, o, none⟩ : Addr).add k = ⟨b, o + k, none⟩ := by unfold Addr.add; split <;> simp_all
  simp [Instr.slice, run_underlying ht, Instr.sliceBounds, run_sliceBound, h1, h2, hz, h3]
theorem infoByte : (Try.prog.info? 5).map (·.size) = some 1 := by kernel_rfl
theorem bu_at {l : List UInt8} {i : Nat} (h : i < l.length) : ((l.map bu).toArray)[i]? = some (.int .u8 l[i].toNat) := by
  rw [List.getElem?_toArray, List.getElem?_map, List.getElem?_eq_getElem h]; rfl
theorem bu_set {l : List UInt8} {i : Nat} {c : UInt8} : ((l.map bu).toArray).setIfInBounds i (.int .u8 c.toNat) = ((l.set i c).map bu).toArray := by
  rw [List.setIfInBounds_toArray, List.map_set]; rfl
/-- The digits that have been written from the last one on. -/
def buf (X n t : Nat) : List UInt8 := (List.range (4 * n + 1)).map fun p => if 4 * n + 1 ≤ p + t then dch (d10 X (4 * n - p)) else 0
theorem buf_length (X n t : Nat) : (buf X n t).length = 4 * n + 1 := by simp [buf]
theorem buf_zero (X n : Nat) : buf X n 0 = List.replicate (4 * n + 1) 0 := by
  apply List.ext_getElem
  · simp [buf]
  · intro i h1 h2
    have : i < 4 * n + 1 := by simpa [buf] using h1
    simp only [buf, List.getElem_map, List.getElem_range, List.getElem_replicate]
    rw [if_neg (by omega)]
theorem buf_at {X n t p : Nat} (h : p < 4 * n + 1) (h2 : 4 * n + 1 ≤ p + t) : (buf X n t)[p]'(by rw [buf_length]; exact h) = dch (d10 X (4 * n - p)) := by
  simp only [buf, List.getElem_map, List.getElem_range]
  rw [if_pos h2]
theorem buf_set {X n t p : Nat} (h : p + t = 4 * n) : (buf X n t).set p (dch (d10 X t)) = buf X n (t + 1) := by
  apply List.ext_getElem
  · simp [buf]
  · intro i h1 h2
    have h3 : i < 4 * n + 1 := by simpa [buf] using h2
    rw [List.getElem_set]
    simp only [buf, List.getElem_map, List.getElem_range]
    by_cases hp : p = i
    · rw [if_pos hp, if_pos (by omega), show 4 * n - i = t by omega]
    · rw [if_neg hp]
      by_cases h4 : 4 * n + 1 ≤ i + t
      · rw [if_pos h4, if_pos (by omega)]
      · rw [if_neg h4, if_neg (by omega)]
theorem glen_dl (X : Nat) : X < 10 ^ (4 * glen X) := by
  have := lt_glen X
  rw [show (10000 : Nat) = 10 ^ 4 from rfl, ← Nat.pow_mul] at this
  exact this
theorem zL_sg {s : Bool} {X : Nat} (h : 0 < X) : zL (sg s X) = (if s then [45] else []) ++ dec10 X := by
  unfold zL sg
  have hx : X ≠ 0 := by omega
  cases s
  · simp [hx]
  · simp [hx, h]
theorem zL_zero (s : Bool) : zL (sg s 0) = [48] := by cases s <;> rfl

set_option maxRecDepth 100000 in
set_option maxHeartbeats 1000000 in
theorem text_any (s : Bool) (A : Option Addr) (c X : Nat) (w : World) (hA : Am w A (glen X) c X) (hX : glen X ≤ 1000) :
    Calls Try.prog 50 #[.agg #[.bool s, .slice A (glen X) c]] w fun e w' => e = .returned (.string (zS (sg s X))) ∧ Below w.heap.size w w' := by
  have hB0 : Blk (w.alloc (.cells #[.bool s, .slice A (glen X) c] 53)) w.heap.size 53 #[.bool s, .slice A (glen X) c] := Blk.new w _ _
  have hb0 : Below w.heap.size w (w.alloc (.cells #[.bool s, .slice A (glen X) c] 53)) := (Below.refl _ _).alloc (Nat.le_refl _) _
  rcases Nat.eq_zero_or_pos X with h0 | h0
  · have hz := iszero_any s A c (glen X) (w.alloc (.cells #[.bool s, .slice A (glen X) c] 53)) true (by rw [h0, glen_zero]; rfl)
    have hzz : zS (sg s X) = ⟨#[48]⟩ := by rw [h0]; unfold zS; rw [zL_zero]
    rw [hzz]
    have HZ := Lib.hid hz; have HB := Lib.hid hb0
    clear hz hzz hB0 hb0 hA h0
    go_enter Try.func50, Try.ntmps50
    go_wp2_with fail
    refine HZ.out.mono ?_
    rintro e w1 ⟨rfl, hb1⟩
    go_wp2_with fail
    go_ret
    exact ⟨rfl, HB.out.trans (hb1.mono HB.out.size)⟩
  · have hg := glen_pos h0
    have hz := iszero_any s A c (glen X) (w.alloc (.cells #[.bool s, .slice A (glen X) c] 53)) false (by symm; rw [decide_eq_false_iff_not]; omega)
    obtain ⟨n, hn⟩ : ∃ n, n = glen X := ⟨_, rfl⟩
    have hlt := glen_dl X
    have hzz := zL_sg (s := s) h0
    rw [← hn] at hz hA hX hg hlt hB0 hb0 ⊢
    have hmk := fun w => run_make_bytes 76 Try.underlying76 (4 * n + 1) (by omega) w
    have hrep : ((List.replicate (4 * n + 1) (0 : UInt8)).map bu).toArray = Array.replicate (4 * n + 1) (bu 0) := by simp
    rw [show ((4 * n + 1 : Nat) : Int) = 1 + 4 * (n : Int) from by omega, hrep] at hmk
    have HZ := Lib.hid hz; have HB := Lib.hid hb0; have HBX := Lib.hid hB0; have HA := Lib.hid hA; have HZZ := Lib.hid hzz; have HLT := Lib.hid hlt; have H0 := Lib.hid h0
    have HN := Lib.hid hn
    clear hz hzz hB0 hb0 hA h0 hlt hn
    go_enter Try.func50, Try.ntmps50
    go_wp2_with fail
    refine HZ.out.mono ?_
    rintro e w1 ⟨rfl, hb1⟩
    have hBX1 := HBX.out.below hb1 HBX.out.lt
    have k0 := hBX1.cell (i := 0) rfl; have k1 := hBX1.cell (i := 1) rfl
    have HBX1 := Lib.hid hBX1
    have HB1 := Lib.hid (HB.out.trans (hb1.mono HB.out.size))
    have n1 : w.heap.size < w1.heap.size := by have := hb1.size; simp at this; omega
    have hG0 : Blk (w1.alloc (.cells (Array.replicate (4 * n + 1) (bu 0)) 5)) w1.heap.size 5 ((buf X n 0).map bu).toArray := by rw [buf_zero, hrep]; exact Blk.new _ _ _
    have hBX2 := hBX1.alloc (.cells (Array.replicate (4 * n + 1) (bu 0)) 5)
    have hb2 : Below w.heap.size w (w1.alloc (.cells (Array.replicate (4 * n + 1) (bu 0)) 5)) := HB1.out.alloc (by omega) _
    have hA2 := (HA.out.below hb2)
    have HG0 := Lib.hid hG0; have HBX2 := Lib.hid hBX2; have HB2 := Lib.hid hb2; have HA2 := Lib.hid hA2
    clear hBX1 hb1 hG0 hBX2 hb2 hA2 hrep
    go_wp2_with fail
    clear k0 k1 hmk
    go_loopw [4, 20] (fun at_ ii wr => ∃ (i : Nat) (a : Int), at_ = .int .i64 a ∧ ii = .int .i64 i ∧ i ≤ n ∧ Hid (a = 4 * (n : Int) + 1 - 4 * (i : Int)) ∧ Blk wr w.heap.size 53 #[.bool s, .slice A n c] ∧ Blk wr w1.heap.size 5 ((buf X n (4 * i)).map bu).toArray ∧ Below w.heap.size w wr)
      (fun _ ii _ => n - (intOf ii).toNat)
    case atStart => exact ⟨0, _, rfl, rfl, Nat.zero_le _, (by show _ = _; omega), HBX2.out, HG0.out, HB2.out⟩
    case round =>
      obtain ⟨i, a, rfl, rfl, hi, HAT, hBX, hG, hbl⟩ := hrel
      by_cases hlt : i < n
      · obtain ⟨b, o, rfl, hb, hc⟩ := (HA.out.below hbl).2 hg
        have hcell := hc i hlt
        have hd := dg4_lt X i
        have q1 : (0 : Int) ≤ (i : Int) := by omega
        have q2 : (i : Int) < (n : Int) := by omega
        obtain ⟨d, hdd⟩ : ∃ d, d = dg4 X i := ⟨_, rfl⟩
        rw [← hdd] at hcell hd
        have HBX := Lib.hid hBX; have HG := Lib.hid hG; have HBL := Lib.hid hbl; have HDD := Lib.hid hdd
        have HD0 := Lib.hid (show (d : Int) = ((dg4 X i / 10 ^ 0 : Nat) : Int) from by rw [← hdd]; simp)
        clear hc hBX hG hbl hdd
        go_wp2_with fail
        go_loopw [4, 6, 24] (fun at_ gg jj wr => ∃ (j : Nat) (a q : Int), at_ = .int .i64 a ∧ gg = .int .i64 q ∧ jj = .int .i64 j ∧ j ≤ 4 ∧ Hid (a = 4 * (n : Int) + 1 - 4 * (i : Int) - (j : Int)) ∧ Hid (q = ((dg4 X i / 10 ^ j : Nat) : Int)) ∧ Blk wr w.heap.size 53 #[.bool s, .slice (some ⟨b, o, none⟩) n c] ∧ Blk wr w1.heap.size 5 ((buf X n (4 * i + j)).map bu).toArray ∧ Below w.heap.size w wr)
          (fun _ _ jj _ => 4 - (intOf jj).toNat)
        case atStart => exact ⟨0, _, _, rfl, rfl, rfl, Nat.zero_le _, (by have := HAT.out; show _ = _; omega), HD0.out, HBX.out, HG.out, HBL.out⟩
        case round =>
          obtain ⟨j, a2, q, rfl, rfl, rfl, hj, HA2, HQ, hBX, hG, hbl⟩ := hrel
          by_cases hj4 : j < 4
          · obtain ⟨p, hp⟩ : ∃ p : Nat, a2 = (p : Int) + 1 := ⟨(a2 - 1).toNat, by have := HA2.out; omega⟩
            subst hp
            have hpt : p + (4 * i + j) = 4 * n := by have := HA2.out; omega
            have hpl : p < (buf X n (4 * i + j)).length := by rw [buf_length]; omega
            have c0 := hG.cell (bu_at hpl)
            have f0 := hG.frozen p
            obtain ⟨z, hz⟩ : ∃ z : Int, z = ((buf X n (4 * i + j))[p].toNat : Int) := ⟨_, rfl⟩
            rw [← hz] at c0
            have hdig := d10_group X i j hj4
            obtain ⟨Q, hQ⟩ : ∃ Q, Q = dg4 X i / 10 ^ j := ⟨_, rfl⟩
            have hQ9 : Q ≤ 9999 := by rw [hQ]; exact Nat.le_trans (Nat.div_le_self _ _) (by have := dg4_lt X i; omega)
            obtain rfl : q = (Q : Int) := by rw [HQ.out, hQ]
            rw [← hQ] at hdig
            obtain ⟨y, hy⟩ : ∃ y, y = d10 X (4 * i + j) := ⟨_, rfl⟩
            have hy9 : y < 10 := by rw [hy]; exact d10_lt _ _
            rw [← hy] at hdig
            have e3 : (Q : Int) % 10 = (y : Int) := by omega
            have HQ2 : Hid ((Q : Int) / 10 = ((dg4 X i / 10 ^ (j + 1) : Nat) : Int)) := by
              show _ = _
              rw [Nat.pow_succ, ← Nat.div_div_eq_div_mul, ← hQ]; omega
            have HA3 : Hid ((p : Int) = 4 * (n : Int) + 1 - 4 * (i : Int) - ((j + 1 : Nat) : Int)) := by show _ = _; omega
            have hG2 := hG.set p (.int .u8 (dch y).toNat)
            rw [bu_set, hy, buf_set hpt, ← hy, dch_nat hy9] at hG2
            rw [show ((48 + y : Nat) : Int) = 48 + (y : Int) from by omega] at hG2
            have hBX2 := hBX.far (p := ⟨w1.heap.size, p, none⟩) (by show w.heap.size ≠ w1.heap.size; omega) (.int .u8 (48 + (y : Int)))
            have hbl2 := hbl.setCell (p := ⟨w1.heap.size, p, none⟩) (by show w.heap.size ≤ w1.heap.size; omega) (.int .u8 (48 + (y : Int)))
            have HG2 := Lib.hid hG2; have HBX2 := Lib.hid hBX2; have HBL2 := Lib.hid hbl2
            have q3 : (0 : Int) ≤ (p : Int) := by omega
            have q4 : (p : Int) < 4 * (n : Int) + 1 := by omega
            have hpn : p < 4 * n + 1 := by omega
            clear hG hBX hbl hG2 hBX2 hbl2 hQ hy hz hdig hpt hpl HQ HA2
            go_wp2_with fail
            go_roundw
            case rel => exact ⟨j + 1, (p : Int), _, rfl, rfl, by go_num, by omega, HA3.out, HQ2.out, HBX2.out, HG2.out, HBL2.out⟩
            case measure => simp [intOf]; omega
          · obtain rfl : j = 4 := by omega
            have HA3 : Hid (a2 = 4 * (n : Int) + 1 - 4 * ((i + 1 : Nat) : Int)) := by have := HA2.out; show _ = _; omega
            clear HQ
            go_wp2_with fail
            go_roundw
            case rel => exact ⟨i + 1, a2, rfl, by go_num, by omega, HA3.out, hBX, hG, hbl⟩
            case measure => simp [intOf]; omega
      · obtain rfl : i = n := by omega
        obtain rfl : a = 1 := by have := HAT.out; omega
        have HG := Lib.hid hG; have HBX := Lib.hid hBX; have HBL := Lib.hid hbl
        have kk := hBX.cell (i := 0) rfl
        have HX1 : Hid (X < 10 ^ (4 * i - 0)) := by exact HLT.out
        have HKK := Lib.hid kk
        clear hG hBX hbl HAT kk
        go_wp2_with fail
        go_loop [4] (fun at_ => ∃ p : Nat, at_ = .int .i64 ((p : Int) + 1) ∧ p < 4 * i ∧ Hid (X < 10 ^ (4 * i - p))) (fun at_ => 4 * i + 1 - (intOf at_).toNat)
        case atStart => exact ⟨0, rfl, by omega, HX1.out⟩
        case round =>
          obtain ⟨p, rfl, hp, HXP⟩ := hrel
          have q1 : (0 : Int) ≤ (p : Int) + 1 := by omega
          have q2 : (p : Int) + 1 < 4 * (i : Int) + 1 := by omega
          have q3 : ((p : Int) + 1).toNat = p + 1 := by omega
          have q4 : p + 1 < 4 * i + 1 := by omega
          have hpl : p + 1 < (buf X i (4 * i)).length := by rw [buf_length]; omega
          have c0 := HG.out.cell (bu_at hpl)
          rw [buf_at q4 (by omega), dch_nat (d10_lt _ _)] at c0
          by_cases hz : d10 X (4 * i - (p + 1)) = 0
          · rw [hz] at c0
            rw [show ((48 + 0 : Nat) : Int) = 48 from rfl] at c0
            have hx2 : X < 10 ^ (4 * i - (p + 1)) := by
              have := HXP.out
              rw [show 4 * i - p = 4 * i - (p + 1) + 1 by omega] at this
              exact dlt_pred this hz
            have hp2 : p + 1 < 4 * i := by
              rcases Nat.lt_or_ge (p + 1) (4 * i) with h | h
              · exact h
              · rw [show 4 * i - (p + 1) = 0 by omega] at hx2
                have := H0.out
                omega
            have HX2 := Lib.hid hx2
            clear hz hx2 HXP
            go_wp2_with fail
            go_round
            case rel => exact ⟨p + 1, by go_num, hp2, HX2.out⟩
            case measure => simp [intOf]; omega
          · obtain ⟨z, hzz⟩ : ∃ z : Int, z = ((48 + d10 X (4 * i - (p + 1)) : Nat) : Int) := ⟨_, rfl⟩
            rw [← hzz] at c0
            have h48 : (z == 48) = false := by rw [beq_eq_false_iff_ne, hzz]; omega
            have hdl : dl X = 4 * i - p := dl_eq HXP.out (.inr (by rw [show 4 * i - p - 1 = 4 * i - (p + 1) by omega]; exact hz))
            have hk0 := HKK.out
            have HDL := Lib.hid hdl
            have HC := Lib.hid c0
            clear hz hzz hdl HXP
            cases s with
            | false =>
              have hsl := fun w => run_slice_from 76 5 w1.heap.size 0 (4 * i + 1) (4 * i + 1) (p + 1) Try.underlying76 infoByte (by omega) (Nat.le_refl _) w
              rw [show ((p + 1 : Nat) : Int) = (p : Int) + 1 from by omega, Nat.zero_add, show 4 * i + 1 - (p + 1) = 4 * i - p by omega] at hsl
              have hcv : (convert 76 9 (.slice (some ⟨w1.heap.size, p + 1, none⟩) (4 * i - p) (4 * i - p))).run Try.prog wr = .ok (.string (zS (sg false X))) wr := by
                have hl : (zL (sg false X)).length = 4 * i - p := by rw [HZZ.out]; simp [dec10_length, HDL.out]
                rw [← hl]
                refine run_convert_bytes_back (P := Try.prog) wr 76 9 5 ⟨w1.heap.size, p + 1, none⟩ _ (zL (sg false X)) Try.underlying76 Try.underlying5 Try.underlying9 (fun j hj => ?_)
                have e1 : (⟨w1.heap.size, p + 1, none⟩ : Addr).add j = ⟨w1.heap.size, p + 1 + j, none⟩ := by unfold Addr.add; split <;> simp_all
                have hj2 : j < 4 * i - p := by rw [hl] at hj; omega
                have e2 : (zL (sg false X))[j] = dch (d10 X (4 * i - (p + 1 + j))) := by
                  simp only [HZZ.out]
                  simp only [Bool.false_eq_true, if_false, List.nil_append]
                  unfold dec10
                  rw [pad_at, HDL.out]
                  congr 2
                  omega
                rw [e1, e2, HG.out.cell (bu_at (i := p + 1 + j) (by rw [buf_length]; omega)), buf_at (by omega) (by omega)]
              clear HC
              go_wp2_with fail
              go_ret
              exact ⟨rfl, HBL.out⟩
            | true =>
              have hpl0 : p < (buf X i (4 * i)).length := by omega
              have d0 := HG.out.cell (bu_at hpl0)
              obtain ⟨y, hy⟩ : ∃ y : Int, y = ((buf X i (4 * i))[p].toNat : Int) := ⟨_, rfl⟩
              rw [← hy] at d0
              have g0 := HG.out.frozen p
              have q5 : p < 4 * i + 1 := by omega
              have q6 : (p : Int) < 4 * (i : Int) + 1 := by omega
              have q7 : (0 : Int) ≤ (p : Int) := by omega
              have hG2 := HG.out.set p (.int .u8 (45 : UInt8).toNat)
              rw [bu_set] at hG2
              rw [show (((45 : UInt8).toNat : Nat) : Int) = 45 from rfl] at hG2
              have hb9 := Lib.hid (HBL.out.setCell (p := ⟨w1.heap.size, p, none⟩) (by show w.heap.size ≤ w1.heap.size; omega) (.int .u8 45))
              have hsl := fun w => run_slice_from 76 5 w1.heap.size 0 (4 * i + 1) (4 * i + 1) p Try.underlying76 infoByte (by omega) (Nat.le_refl _) w
              rw [Nat.zero_add] at hsl
              have hcv : (convert 76 9 (.slice (some ⟨w1.heap.size, p, none⟩) (4 * i + 1 - p) (4 * i + 1 - p))).run Try.prog (wr.setCell ⟨w1.heap.size, p, none⟩ (.int .u8 45)) = .ok (.string (zS (sg true X))) (wr.setCell ⟨w1.heap.size, p, none⟩ (.int .u8 45)) := by
                have hl : (zL (sg true X)).length = 4 * i + 1 - p := by rw [HZZ.out]; simp [dec10_length, HDL.out]; omega
                rw [← hl]
                refine run_convert_bytes_back (P := Try.prog) _ 76 9 5 ⟨w1.heap.size, p, none⟩ _ (zL (sg true X)) Try.underlying76 Try.underlying5 Try.underlying9 (fun j hj => ?_)
                have e1 : (⟨w1.heap.size, p, none⟩ : Addr).add j = ⟨w1.heap.size, p + j, none⟩ := by unfold Addr.add; split <;> simp_all
                have hj2 : j < 4 * i + 1 - p := by rw [hl] at hj; exact hj
                rw [e1, hG2.cell (bu_at (i := p + j) (by rw [List.length_set, buf_length]; omega))]
                rcases j with _ | j
                · have e2 : (zL (sg true X))[0] = 45 := by simp only [HZZ.out]; rfl
                  rw [e2]
                  simp
                · have e2 : (zL (sg true X))[j + 1] = dch (d10 X (4 * i - (p + (j + 1)))) := by
                    simp only [HZZ.out]
                    simp only [if_true, List.cons_append, List.nil_append, List.getElem_cons_succ]
                    unfold dec10
                    rw [pad_at, HDL.out]
                    congr 2
                    omega
                  rw [e2, List.getElem_set_ne (by omega), buf_at (by omega) (by omega)]
              clear HC hy hG2
              go_wp2_with fail
              go_ret
              exact ⟨rfl, hb9.out⟩
end Go.Proofs.Ytgpppjfgdbloiaa
