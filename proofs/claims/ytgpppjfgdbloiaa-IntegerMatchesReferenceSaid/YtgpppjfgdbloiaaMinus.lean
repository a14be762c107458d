/- The contract of minus of amounts. Conditions: the amounts read, the first has at most 1,000 groups, and the second is not greater. -/
import Derived.Test.YtgpppjfgdbloiaaPlus
namespace Go.Proofs.Ytgpppjfgdbloiaa
open Go.RowKit Go.Lib

set_option maxRecDepth 100000 in
theorem aminus_any (A A' : Option Addr) (c c' X Y : Nat) (w : World) (hA : Am w A (glen X) c X) (hB : Am w A' (glen Y) c' Y) (hX : glen X ≤ 1000) (hle : Y ≤ X) :
    Calls Try.prog 67 #[.slice A (glen X) c, .slice A' (glen Y) c'] w (OutN (X - Y) w) := by
  obtain ⟨k, hk⟩ : ∃ k, k = glen X := ⟨_, rfl⟩
  have hmk := fun w => run_make_ints 44 Try.underlying44 k k (Nat.le_refl _) (by omega) w
  have hcp := run_copy_am (c := c) 44 51 3 Try.underlying44 (Blk.new w 3 (zc k)) (hA.below ((Below.refl _ _).alloc (Nat.le_refl _) _)) (show glen X ≤ k by omega)
  have hsum : X < 10000 ^ k := hk ▸ lt_glen X
  have hcX : colv (grps X k) = X := colv_full hsum
  have hmod : Y % 10000 ^ glen Y = Y := Nat.mod_eq_of_lt (lt_glen Y)
  have hb1 : Below w.heap.size w ((w.alloc (.cells (zc k) 3)).setRow w.heap.size ((grps X k).map iv).toArray) := below_setRow ((Below.refl _ _).alloc (Nat.le_refl _) _) (Nat.le_refl _) _
  have hg1 : Blk ((w.alloc (.cells (zc k) 3)).setRow w.heap.size ((grps X k).map iv).toArray) w.heap.size 3 ((grps X k).map iv).toArray := (Blk.new w 3 (zc k)).setRow _
  have hk3 : k ≤ 3000 := by omega
  have hm : glen Y ≤ k := by rw [hk]; exact glen_mono hle
  have e1 : ((glen X : Nat) : Int) = k := by omega
  obtain ⟨w0, hw0⟩ : ∃ w0, w0 = (w.alloc (.cells (zc k) 3)).setRow w.heap.size ((grps X k).map iv).toArray := ⟨_, rfl⟩
  rw [← hw0] at hcp hb1 hg1
  have HA := Lib.hid hA; have HB := Lib.hid hB; have HK := Lib.hid hk; have HS := Lib.hid hsum; have HCX := Lib.hid hcX; have HM := Lib.hid hmod; have HB1 := Lib.hid hb1; have HG1 := Lib.hid hg1
  clear hA hB hk hsum hcX hmod hb1 hg1 hw0
  go_enter Try.func67, Try.ntmps67
  go_wp2
  clear e1 hmk hcp
  go_loopw [16] (fun ii wr => ∃ (i : Nat) (L : List Int), ii = .int .i64 i ∧ i ≤ glen Y ∧ Hid (L.length = k ∧ colv L = X - (Y % 10000 ^ i : Nat) ∧ ∀ c ∈ L, -(10000 * ((i : Int) + 1)) ≤ c ∧ c ≤ 10000 * ((i : Int) + 1)) ∧ Blk wr w.heap.size 3 (L.map iv).toArray ∧ Below w.heap.size w wr)
    (fun ii _ => glen Y - (intOf ii).toNat)
  case atStart => exact ⟨0, _, rfl, Nat.zero_le _, ⟨grps_length _ _, by rw [HCX.out, Nat.pow_zero, Nat.mod_one]; simp, by simpa using grps_bd X k⟩, HG1.out, HB1.out⟩
  case round =>
    obtain ⟨i, L, rfl, hi, HL, hG, hbl⟩ := hrel
    by_cases hlt : i < glen Y
    · obtain ⟨b, o, rfl, hb, hc⟩ := (HB.out.below hbl).2 (by omega)
      have hcell := hc i hlt
      have hil : i < L.length := by rw [HL.out.1]; omega
      have c0 := hG.cell (iv_at hil)
      have f0 := hG.frozen i
      have hd := dg4_lt Y i
      have hy := HL.out.2.2 L[i] (List.getElem_mem _)
      obtain ⟨d, hd2⟩ : ∃ d, d = dg4 Y i := ⟨_, rfl⟩
      rw [← hd2] at hcell hd
      obtain ⟨y, hy2⟩ : ∃ y, y = L[i] := ⟨_, rfl⟩
      rw [← hy2] at c0 hy
      rw [iv] at c0
      have p1 : (0 : Int) ≤ (i : Int) := by omega
      have p2 : (i : Int) < ((glen Y : Nat) : Int) := by omega
      have p3 : (i : Int) < (k : Int) := by omega
      have HL2 : Hid ((L.set i (y - d)).length = k ∧ colv (L.set i (y - d)) = X - (Y % 10000 ^ (i + 1) : Nat) ∧ ∀ c ∈ L.set i (y - d), -(10000 * (((i + 1 : Nat) : Int) + 1)) ≤ c ∧ c ≤ 10000 * (((i + 1 : Nat) : Int) + 1)) := by
        refine ⟨by rw [List.length_set, HL.out.1], ?_, ?_⟩
        · rw [colv_set L i _ hil, HL.out.2.1, ← hy2, mod_succ4, ← hd2]
          push_cast
          grind
        · have := bd_set (L := L) (i := i) (x := -d) (N := 10000 * ((i : Int) + 1)) (M := 10000) hil HL.out.2.2 (by omega)
          rw [← hy2, ← Int.sub_eq_add_neg] at this
          intro c hc; have := this c hc; omega
      clear hc hy2 hd2 HL
      go_wp2
      go_roundw
      case rel => exact ⟨i + 1, _, by go_num, by omega, HL2, by rw [← iv_set]; exact hG.set i _, hbl.setCell (Nat.le_refl _) _⟩
      case measure => simp [intOf]; omega
    · obtain rfl : i = glen Y := by omega
      have hcar := carried_any w.heap.size w.heap.size k (X - Y) L wr hG HL.out.1 hk3 (by rw [HL.out.2.1, HM.out]; omega) (Nat.lt_of_le_of_lt (Nat.sub_le _ _) HS.out) (by intro c hc; have := HL.out.2.2 c hc; omega) (Nat.le_refl _)
      have HC := Lib.hid hcar
      clear hcar hG
      go_wp2_with (go_at_call 74; refine HC.out.mono ?_; rintro e w2 ⟨rfl, hA2, hb2⟩)
      go_ret
      exact ⟨_, _, rfl, hA2, hbl.trans hb2⟩
end Go.Proofs.Ytgpppjfgdbloiaa
