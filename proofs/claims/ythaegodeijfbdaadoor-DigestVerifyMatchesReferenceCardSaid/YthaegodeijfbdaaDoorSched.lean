/- The contract of schedule: the words of a block. Condition: a block of 64 bytes. -/
import Derived.Test.YthaegodeijfbdaaDoorBlk
import Derived.RegionTactic
import Derived.BigRegion
import Derived.ChangeAlike
import Derived.LoopTactic
import Derived.IntWalk
namespace Go.Proofs.YthaegodeijfbdaaDoor
open Go.RowKit Go.Lib

theorem word_at {bl : List UInt8} {B : Array Value} (hB : B = (bl.map bv).toArray) (hl : bl.length = 64) {i : Nat} (hi : i < 16) :
    ∃ x0 x1 x2 x3 : Nat, B[4 * i]? = some (.int .u8 x0) ∧ B[4 * i + 1]? = some (.int .u8 x1) ∧ B[4 * i + 2]? = some (.int .u8 x2) ∧ B[4 * i + 3]? = some (.int .u8 x3) ∧
      (x0 : Int) < 256 ∧ (x1 : Int) < 256 ∧ (x2 : Int) < 256 ∧ (x3 : Int) < 256 ∧
      bits .or .u32 (bits .or .u32 (bits .or .u32 ((x0 : Int) * 16777216) ((x1 : Int) * 65536)) ((x2 : Int) * 256)) (x3 : Int) = (word bl i : Nat) := by
  have at_ : ∀ j, j < 64 → B[j]? = some (.int .u8 ((bl.getD j 0).toNat : Nat)) := fun j hj => by
    rw [hB, List.getElem?_toArray, List.getElem?_map, List.getD_eq_getElem?_getD, List.getElem?_eq_getElem (show j < bl.length by omega)]; rfl
  have b0 := (bl.getD (4 * i) 0).toNat_lt
  have b1 := (bl.getD (4 * i + 1) 0).toNat_lt
  have b2 := (bl.getD (4 * i + 2) 0).toNat_lt
  have b3 := (bl.getD (4 * i + 3) 0).toNat_lt
  refine ⟨_, _, _, _, at_ (4 * i) (by omega), at_ (4 * i + 1) (by omega), at_ (4 * i + 2) (by omega), at_ (4 * i + 3) (by omega), by omega, by omega, by omega, by omega, ?_⟩
  unfold word
  generalize (bl.getD (4 * i) 0).toNat = x0 at *
  generalize (bl.getD (4 * i + 1) 0).toNat = x1 at *
  generalize (bl.getD (4 * i + 2) 0).toNat = x2 at *
  generalize (bl.getD (4 * i + 3) 0).toNat = x3 at *
  have o1 := Nat.two_pow_add_eq_or_of_lt (i := 24) (show x1 * 65536 < 2 ^ 24 by omega) x0
  have o2 := Nat.two_pow_add_eq_or_of_lt (i := 16) (show x2 * 256 < 2 ^ 16 by omega) (x0 * 256 + x1)
  have o3 := Nat.two_pow_add_eq_or_of_lt (i := 8) (show x3 < 2 ^ 8 by omega) (x0 * 65536 + x1 * 256 + x2)
  have e1 := u32_or_nat (x0 * 16777216) (x1 * 65536) (by omega) (by omega)
  rw [show x0 * 16777216 ||| x1 * 65536 = x0 * 16777216 + x1 * 65536 from by rw [show x0 * 16777216 = 2 ^ 24 * x0 from by omega]; exact o1.symm] at e1
  have e2 := u32_or_nat (x0 * 16777216 + x1 * 65536) (x2 * 256) (by omega) (by omega)
  rw [show x0 * 16777216 + x1 * 65536 ||| x2 * 256 = x0 * 16777216 + x1 * 65536 + x2 * 256 from by rw [show x0 * 16777216 + x1 * 65536 = 2 ^ 16 * (x0 * 256 + x1) from by omega]; exact o2.symm] at e2
  have e3 := u32_or_nat (x0 * 16777216 + x1 * 65536 + x2 * 256) x3 (by omega) (by omega)
  rw [show x0 * 16777216 + x1 * 65536 + x2 * 256 ||| x3 = x0 * 16777216 + x1 * 65536 + x2 * 256 + x3 from by rw [show x0 * 16777216 + x1 * 65536 + x2 * 256 = 2 ^ 8 * (x0 * 65536 + x1 * 256 + x2) from by omega]; exact o3.symm] at e3
  rw [Int.natCast_mul, Int.natCast_mul] at e1
  rw [Int.natCast_mul] at e2
  rw [show ((16777216 : Nat) : Int) = 16777216 from rfl, show ((65536 : Nat) : Int) = 65536 from rfl] at e1
  rw [show ((256 : Nat) : Int) = 256 from rfl] at e2
  rw [e1, e2, e3]

theorem store_word (bl : List UInt8) {i : Nat} (hi : i < 64) {wr : World} {g : Nat} {t : TypeId} (h : Blk wr g t (rowN 64 (.int .u32 0) ((sched bl i).map wv))) {x : Int}
    (hx : x = ((if i < 16 then word bl i else nextW (sched bl i) i : Nat) : Int)) : Blk (wr.setCell ⟨g, i, none⟩ (.int .u32 x)) g t (rowN 64 (.int .u32 0) ((sched bl (i + 1)).map wv)) := by
  have h2 := h.set i (.int .u32 x)
  have hl : ((sched bl i).map wv).length = i := by rw [List.length_map, sched_length]
  have h3 := rowN_set (n := 64) (z := .int .u32 0) (l := (sched bl i).map wv) (by omega) (.int .u32 x)
  rw [hl] at h3
  rw [h3] at h2
  rw [sched, List.map_append, List.map_singleton, wv, ← hx]
  exact h2

theorem sched_cell (bl : List UInt8) {i j : Nat} (hj : j < i) : (rowN 64 (.int .u32 0) ((sched bl i).map wv))[j]? = some (.int .u32 ((sched bl i).getD j 0 : Nat)) := by
  rw [rowN_at (by rw [List.length_map, sched_length]; exact hj), List.getElem_map, List.getD_eq_getElem?_getD, List.getElem?_eq_getElem (by rw [sched_length]; exact hj)]; rfl
theorem sx_bits {x : Nat} (h : x < 4294967296) : bits .xor .u32 (bits .xor .u32 (rotr x 7 : Nat) (rotr x 18 : Nat)) ((x : Int) / 8) = (sx x : Nat) := by
  rw [show (x : Int) / 8 = ((x / 8 : Nat) : Int) from by omega, u32_xor_nat _ _ (rotr_lt h) (rotr_lt h), u32_xor_nat _ _ (xor_lt (rotr_lt h) (rotr_lt h)) (by omega)]; rfl
theorem sy_bits {x : Nat} (h : x < 4294967296) : bits .xor .u32 (bits .xor .u32 (rotr x 17 : Nat) (rotr x 19 : Nat)) ((x : Int) / 1024) = (sy x : Nat) := by
  rw [show (x : Int) / 1024 = ((x / 1024 : Nat) : Int) from by omega, u32_xor_nat _ _ (rotr_lt h) (rotr_lt h), u32_xor_nat _ _ (xor_lt (rotr_lt h) (rotr_lt h)) (by omega)]; rfl
/-- The four words from which the next one is made. -/
theorem next_at (bl : List UInt8) {i : Nat} (hi : 16 ≤ i) : ∃ a b c d : Nat, (sched bl i).getD (i - 16) 0 = a ∧ (sched bl i).getD (i - 15) 0 = b ∧ (sched bl i).getD (i - 7) 0 = c ∧ (sched bl i).getD (i - 2) 0 = d ∧
    a < 4294967296 ∧ b < 4294967296 ∧ c < 4294967296 ∧ d < 4294967296 ∧ ((if i < 16 then word bl i else nextW (sched bl i) i : Nat) : Int) = ((a + sx b + c + sy d) % 4294967296 : Nat) := by
  refine ⟨_, _, _, _, rfl, rfl, rfl, rfl, sched_at _ _ _, sched_at _ _ _, sched_at _ _ _, sched_at _ _ _, ?_⟩
  rw [if_neg (by omega)]; rfl

theorem blk_zeros {bl : List UInt8} {w : World} {g : Nat} {t : TypeId} {Z : Array Value} (hg : g = w.heap.size) (hZ : Z = rowN 64 (.int .u32 0) ((sched bl 0).map wv) := by rfl) : Blk (w.alloc (.cells Z t)) g t (rowN 64 (.int .u32 0) ((sched bl 0).map wv)) := by
  rw [hg, ← hZ]; exact Blk.new w t Z

theorem info64 : (Tryd.prog.info? 58).map (·.size) = some 64 := by kernel_rfl

set_option maxRecDepth 100000 in
set_option maxHeartbeats 2000000 in
theorem schedule_any (bl : List UInt8) (B : Array Value) (w : World) (hB : B = (bl.map bv).toArray) (hl : bl.length = 64) :
    Calls Tryd.prog 44 #[.agg B] w fun e w' => e = .returned (.agg ((sched bl 64).map wv).toArray) ∧ Below w.heap.size w w' := by
  have AT := Lib.hid fun (i : Nat) (hi : i < 16) => word_at hB hl hi
  clear hB
  have HS0 : Hid ((sched bl 0).map wv = []) := Lib.hid rfl
  go_enter Tryd.func44, Tryd.ntmps44
  go_wp2
  go_loopw [4, 8] (fun _ ii wr => ∃ i : Nat, ii = .int .i64 i ∧ i ≤ 16 ∧ Blk wr w.heap.size 56 B ∧ (∃ R, Blk wr (w.heap.size + 1) 58 R ∧ R.size = 64) ∧ Blk wr (w.heap.size + 1 + 1) 58 (rowN 64 (.int .u32 0) ((sched bl i).map wv)) ∧ wr.heap.size = w.heap.size + 3 ∧ Below w.heap.size w wr)
    (fun _ ii _ => 16 - (intOf ii).toNat)
  case atStart =>
    exact ⟨0, rfl, by omega, ((Blk.new w _ B).alloc _).alloc _, ⟨_, (by simpa using (Blk.new (w.alloc (.cells B 56)) _ _).alloc _), rfl⟩, blk_zeros (bl := bl) (by rw [World.size_alloc, World.size_alloc]), by simp, (((Below.refl _ w).alloc (Nat.le_refl _) _).alloc (by simp) _).alloc (by simp; omega) _⟩
  case round =>
    obtain ⟨i, rfl, hi, hbB, hbR, hbS, hsz, hbw⟩ := hrel
    by_cases hlt : i < 16
    · obtain ⟨x0, x1, x2, x3, d0, d1, d2, d3, l0, l1, l2, l3, hw⟩ := AT.out i hlt
      have c0 := hbB.cell d0
      have c1 := hbB.cell d1
      have c2 := hbB.cell d2
      have c3 := hbB.cell d3
      obtain ⟨v, hv⟩ := rowN_ex (z := .int .u32 0) (n := 64) (l := (sched bl i).map wv) (i := i) (by rw [List.length_map, sched_length]; omega) (by omega)
      have cS := hbS.cell hv
      have fS := hbS.frozen i
      have HW := Lib.hid hw
      clear hv d0 d1 d2 d3 hw
      go_wp2
      go_region
      all_goals
        go_wp2
        go_roundw
        case rel => exact ⟨i + 1, by go_num, by omega, hbB.far (by simp; omega) _, (by obtain ⟨R, h1, h2⟩ := hbR; exact ⟨R, h1.far (by simp) _, h2⟩), store_word bl (by omega) hbS (by rw [if_pos hlt, ← HW.out]), by simpa using hsz, (hbw.setCell (by simp; omega) _).drew⟩
        case measure => simp [intOf]; omega
    · obtain ⟨i0, hi0, rfl⟩ : ∃ i0 : Nat, i0 = 16 ∧ i = i0 := ⟨i, by omega, rfl⟩
      rw [hi0] at hbS
      clear hi hi0
      obtain ⟨wo, rfl⟩ : ∃ wo : World, wo = wr := ⟨_, rfl⟩
      go_wp2
      go_loopw [5, 6, 7] (fun ii _ _ wr => ∃ i : Nat, ii = .int .i64 i ∧ 16 ≤ i ∧ i ≤ 64 ∧ (∃ R, Blk wr (w.heap.size + 1) 58 R ∧ R.size = 64) ∧ Blk wr (w.heap.size + 1 + 1) 58 (rowN 64 (.int .u32 0) ((sched bl i).map wv)) ∧ wr.heap.size = w.heap.size + 3 ∧ Below w.heap.size w wr)
        (fun ii _ _ _ => 64 - (intOf ii).toNat)
      case atStart => exact ⟨16, rfl, by omega, by omega, hbR, hbS, hsz, hbw⟩
      case round =>
        clear hbR hbS hsz hbw
        obtain ⟨i, rfl, hi1, hi2, hbR, hbS, hsz, hbw⟩ := hrel
        by_cases hlt : i < 64
        · obtain ⟨a, b, c, d, ea, eb, ec, ed, la, lb, lc, ld, hx⟩ := next_at bl hi1
          have ca := hbS.cell (sched_cell bl (i := i) (j := i - 16) (by omega))
          have cb := hbS.cell (sched_cell bl (i := i) (j := i - 15) (by omega))
          have cc := hbS.cell (sched_cell bl (i := i) (j := i - 7) (by omega))
          have cd := hbS.cell (sched_cell bl (i := i) (j := i - 2) (by omega))
          rw [ea] at ca; rw [eb] at cb; rw [ec] at cc; rw [ed] at cd
          obtain ⟨v, hv⟩ := rowN_ex (z := .int .u32 0) (n := 64) (l := (sched bl i).map wv) (i := i) (by rw [List.length_map, sched_length]; omega) (by omega)
          have cS := hbS.cell hv
          have fS := hbS.frozen i
          have hX := sx_bits lb
          have hY := sy_bits ld
          have lx := sx_lt lb
          have ly := sy_lt ld
          have HX := Lib.hid hx
          have q1 : (0 : Int) ≤ (i : Int) - 15 := by omega
          have q2 : (i : Int) - 15 < 64 := by omega
          have q3 : (0 : Int) ≤ (i : Int) - 2 := by omega
          have q4 : (i : Int) - 2 < 64 := by omega
          have q5 : IntKind.i64.wrap ((i : Int) - 15) = (i : Int) - 15 := IntWalk.i64_in _ (by omega)
          have q6 : IntKind.i64.wrap ((i : Int) - 2) = (i : Int) - 2 := IntWalk.i64_in _ (by omega)
          have q7 : ((i : Int) - 15).toNat = i - 15 := by omega
          have q8 : ((i : Int) - 2).toNat = i - 2 := by omega
          have p1 : (15 : Int) ≤ (i : Int) := by omega
          have p2 : (2 : Int) ≤ (i : Int) := by omega
          clear hv ea eb ec ed hx
          go_wp2
          go_quiet ((go_at_call 51; exact Calls.quiet_of (right_at b _ _ lb (by omega) (by omega))))
          go_wp2
          clear hX q1 q2 q5 q7 p1
          go_quiet ((go_at_call 51; exact quiet_on (right_at d _ _ ld (by omega) (by omega))))
          clear hY q3 q4 q6 q8 p2
          have r1 : (0 : Int) ≤ (i : Int) - 16 := by omega
          have r2 : (i : Int) - 16 < 64 := by omega
          have r3 : (0 : Int) ≤ (i : Int) - 7 := by omega
          have r4 : (i : Int) - 7 < 64 := by omega
          have r7 : ((i : Int) - 16).toNat = i - 16 := by omega
          have r8 : ((i : Int) - 7).toNat = i - 7 := by omega
          have r9 : (16 : Int) ≤ (i : Int) := by omega
          have r0 : (7 : Int) ≤ (i : Int) := by omega
          go_wp2
          go_region
          all_goals
            go_wp2
            go_roundw
            case rel => exact ⟨i + 1, by go_num, by omega, by omega, (by obtain ⟨R, h1, h2⟩ := hbR; exact ⟨R, h1.far (by simp) _, h2⟩), store_word bl (by omega) hbS (by rw [HX.out]; omega), by simpa using hsz, (below_drewN hbw _).setCell (by show w.heap.size ≤ w.heap.size + 1 + 1; omega) _⟩
            case measure => simp [intOf]; omega
        · have hi64 : i = 64 := by omega
          have hS : Blk wr (w.heap.size + 1 + 1) 58 ((sched bl 64).map wv).toArray := by
            have e := rowN_full (n := 64) (z := .int .u32 0) (l := (sched bl 64).map wv) (by rw [List.length_map, sched_length])
            rw [hi64, e] at hbS
            exact hbS
          obtain ⟨F, hF⟩ : ∃ F, F = ((sched bl 64).map wv).toArray := ⟨_, rfl⟩
          have hF1 : F.size = 64 := by rw [hF]; simp [sched_length]
          have hF2 : F.all (·.oneCell') = true := by rw [hF]; exact wv_one _
          rw [← hF] at hS
          have HF := Lib.hid hF; have HS := Lib.hid hS; have HR := Lib.hid hbR; have HF2 := Lib.hid hF2; have HF1 := Lib.hid hF1
          clear hi64 hF hbS hS hbR hF2 hF1
          obtain ⟨R, hR1, hR2⟩ := HR.out
          have HR1 := Lib.hid hR1; have HR2 := Lib.hid hR2; clear hR1 hR2
          go_wp2_with (first
            | (refine wpList_load_row rfl 58 (.tmp 3) rfl (w.heap.size + 1 + 1) rfl 58 F (0, 0) _ HS.out Tryd.underlying58 rfl (info64.trans (congrArg some HF1.out.symm)) ?_)
            | (refine wpList_store_row rfl 58 (.tmp 2) (.tmp 96) rfl (w.heap.size + 1) F rfl rfl 58 R HR1.out (info64.trans (congrArg some HF1.out.symm)) (HR2.out.trans HF1.out.symm) HF2.out ?_))
          refine bodyPost_ret (results_cell_row rfl _ _ (w.heap.size + 1) 58 F (0, 0) _ rfl (HR1.out.setRow F) Tryd.underlying58 rfl (info64.trans (congrArg some HF1.out.symm))) rfl ?_
          exact ⟨by rw [← HF.out], below_setRow hbw (by omega) _⟩
end Go.Proofs.YthaegodeijfbdaaDoor
