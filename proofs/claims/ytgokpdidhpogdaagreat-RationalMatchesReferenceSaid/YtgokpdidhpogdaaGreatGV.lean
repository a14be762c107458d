/- The contracts of the reference's rounding and of its Compare. Conditions: the strings' lengths are ints. | The contract of the reference's Compare. Conditions: the strings' lengths are ints. -/
import Derived.Test.YtgokpdidhpogdaaGreatGU
import Derived.Test.YtgokpdidhpogdaaGreatGN
namespace Go.Proofs.YtgokpdidhpogdaaGreat
open Go.RowKit Go.Lib

set_option maxRecDepth 100000 in
theorem rpower_any (k : Nat) (hk : k ≤ 30) (w : World) : Calls Tryz.prog 76 #[.int .i64 (k : Nat)] w fun e w' => e = .returned (.string (tz k)) ∧ Below w.heap.size w w' := by
  have HTS := Lib.hid tz_succ
  go_enter Tryz.func76, Tryz.ntmps76
  go_wp2_with fail
  go_loopw [3, 4] (fun s ii wr => ∃ j : Nat, ii = .int .i64 j ∧ j ≤ k ∧ s = .string (tz j) ∧ w = wr) (fun _ ii _ => k - (intOf ii).toNat)
  case atStart => exact ⟨0, rfl, Nat.zero_le _, rfl, rfl⟩
  case round =>
    obtain ⟨j, rfl, hj, rfl, rfl⟩ := hrel
    have hsz := tz_size j
    by_cases hlt : j < k
    · have h2 := HTS.out j
      go_wp2_with fail
      go_roundw
      case rel => exact ⟨j + 1, by go_num, by omega, rfl, trivial⟩
      case measure => simp [intOf]; omega
    · obtain rfl : k = j := by omega
      clear hj hsz hlt HTS
      go_wp2_with fail
      go_ret
      exact ⟨rfl, Below.refl _ _⟩
theorem ten_pos (k : Nat) : ((10 ^ k : Nat) : Int) ≠ 0 := by have : 0 < 10 ^ k := Nat.pow_pos (by omega); omega
set_option maxRecDepth 100000 in
theorem rzero_any (r : Int) (_hr : r.natAbs < 10 ^ 200) (w : World) : Calls Tryz.prog 42 #[.string (zS r)] w fun e w' => e = .returned (.string (zS (if r = 0 then 0 else 1))) ∧ Below w.heap.size w w' := by
  by_cases h : r = 0
  · have k1 := is0_z r true (by simp [h])
    rw [if_pos h, show zS 0 = zS r from by rw [h]]
    clear h
    go_enter Tryz.func42, Tryz.ntmps42
    go_wp2_with fail
    go_ret
    exact ⟨rfl, Below.refl _ _⟩
  · have k1 := is0_z r false (by simp [h])
    rw [if_neg h, zS_one]
    clear h
    go_enter Tryz.func42, Tryz.ntmps42
    go_wp2_with fail
    go_ret
    exact ⟨rfl, Below.refl _ _⟩
/-- What grid answers. -/
def grdS (m : Option Int) (d : Int) (k : Nat) : Value := match m with
  | some m => .tuple #[.string (zS (m / d)), .string (zS (m % d)), .string (tz k), .bool true]
  | none => .tuple #[.string ⟨#[]⟩, .string ⟨#[]⟩, .string ⟨#[]⟩, .bool false]
set_option maxRecDepth 100000 in
set_option maxHeartbeats 4000000 in
theorem rgrid_no (an ad : ByteArray) (k : Int) (w : World) (ha : an.size ≤ 9000000000000000000 ∧ ad.size ≤ 9000000000000000000) (_hk9 : -9223372036854775808 ≤ k ∧ k ≤ 9223372036854775807) (h : rdQ an.data.toList ad.data.toList = none ∨ k < 0 ∨ 30 < k) :
    Calls Tryz.prog 45 #[.agg #[.string an, .string ad], .int .i64 k] w fun e w' => e = .returned (.tuple #[.string ⟨#[]⟩, .string ⟨#[]⟩, .string ⟨#[]⟩, .bool false]) ∧ Below w.heap.size w w' := by
  have hva := fun W => rvalid_any an ad W ha.1 ha.2
  unfold fV at hva
  cases hp : rdQ an.data.toList ad.data.toList with
  | none =>
    rw [hp] at hva
    have VA := Lib.hid hva
    clear hva hp ha h _hk9
    have A_0 : Hid (Blk (w.alloc (.cells #[.string an, .string ad] 23)) w.heap.size 23 #[.string an, .string ad]) := allocs_blk [(#[.string an, .string ad], 23)] w 0 _ rfl
    have HB_0 : Hid (Below w.heap.size w (w.alloc (.cells #[.string an, .string ad] 23))) := allocs_below [(#[.string an, .string ad], 23)] w (Below.refl w.heap.size w) (Nat.le_refl _)
    go_enter Tryz.func45, Tryz.ntmps45
    have yy0 := A_0.out.cell (i := 0) (v := .string an) rfl; have yy1 := A_0.out.cell (i := 1) (v := .string ad) rfl
    go_wp2_with fail
    refine (VA.out _).mono ?_
    rintro e v0 ⟨rfl, hb⟩
    clear yy0 yy1
    have A_1 : Hid (Blk v0 w.heap.size 23 #[.string an, .string ad]) := Lib.hid (A_0.out.below hb A_0.out.lt)
    have HB_1 : Hid (Below w.heap.size w v0) := Lib.hid (HB_0.out.trans (hb.mono HB_0.out.size))
    clear hb A_0 HB_0
    go_wp2_with fail
    exact bodyPost_ret (v := .tuple #[.string ⟨#[]⟩, .string ⟨#[]⟩, .string ⟨#[]⟩, .bool false]) (by kernel_rfl) rfl ⟨rfl, HB_1.out⟩
  | some p =>
    rw [hp] at hva h
    have VA := Lib.hid hva
    have h2 : k < 0 ∨ 30 < k := h.resolve_left (by simp)
    clear hva hp ha h _hk9
    by_cases h3 : k < 0
    · have d1 : decide (k < 0) = true := by rw [decide_eq_true_eq]; exact h3
      clear h2 h3
      have A_0 : Hid (Blk (w.alloc (.cells #[.string an, .string ad] 23)) w.heap.size 23 #[.string an, .string ad]) := allocs_blk [(#[.string an, .string ad], 23)] w 0 _ rfl
      have HB_0 : Hid (Below w.heap.size w (w.alloc (.cells #[.string an, .string ad] 23))) := allocs_below [(#[.string an, .string ad], 23)] w (Below.refl w.heap.size w) (Nat.le_refl _)
      go_enter Tryz.func45, Tryz.ntmps45
      have yy0 := A_0.out.cell (i := 0) (v := .string an) rfl; have yy1 := A_0.out.cell (i := 1) (v := .string ad) rfl
      go_wp2_with fail
      refine (VA.out _).mono ?_
      rintro e v0 ⟨rfl, hb⟩
      clear yy0 yy1
      have A_1 : Hid (Blk v0 w.heap.size 23 #[.string an, .string ad]) := Lib.hid (A_0.out.below hb A_0.out.lt)
      have HB_1 : Hid (Below w.heap.size w v0) := Lib.hid (HB_0.out.trans (hb.mono HB_0.out.size))
      clear hb A_0 HB_0
      go_wp2_with fail
      exact bodyPost_ret (v := .tuple #[.string ⟨#[]⟩, .string ⟨#[]⟩, .string ⟨#[]⟩, .bool false]) (by kernel_rfl) rfl ⟨rfl, HB_1.out⟩
    · have d1 : decide (k < 0) = false := by rw [decide_eq_false_iff_not]; exact h3
      have d2 : decide (30 < k) = true := by rw [decide_eq_true_eq]; omega
      clear h2 h3
      have A_0 : Hid (Blk (w.alloc (.cells #[.string an, .string ad] 23)) w.heap.size 23 #[.string an, .string ad]) := allocs_blk [(#[.string an, .string ad], 23)] w 0 _ rfl
      have HB_0 : Hid (Below w.heap.size w (w.alloc (.cells #[.string an, .string ad] 23))) := allocs_below [(#[.string an, .string ad], 23)] w (Below.refl w.heap.size w) (Nat.le_refl _)
      go_enter Tryz.func45, Tryz.ntmps45
      have yy0 := A_0.out.cell (i := 0) (v := .string an) rfl; have yy1 := A_0.out.cell (i := 1) (v := .string ad) rfl
      go_wp2_with fail
      refine (VA.out _).mono ?_
      rintro e v0 ⟨rfl, hb⟩
      clear yy0 yy1
      have A_1 : Hid (Blk v0 w.heap.size 23 #[.string an, .string ad]) := Lib.hid (A_0.out.below hb A_0.out.lt)
      have HB_1 : Hid (Below w.heap.size w v0) := Lib.hid (HB_0.out.trans (hb.mono HB_0.out.size))
      clear hb A_0 HB_0
      go_wp2_with fail
      exact bodyPost_ret (v := .tuple #[.string ⟨#[]⟩, .string ⟨#[]⟩, .string ⟨#[]⟩, .bool false]) (by kernel_rfl) rfl ⟨rfl, HB_1.out⟩
set_option maxRecDepth 100000 in
set_option maxHeartbeats 4000000 in
theorem rgrid_yes {n d : Int} (hg : Good (n, d)) (k : Nat) (hk : k ≤ 30) (w : World) :
    Calls Tryz.prog 45 #[.agg #[.string (zS n), .string (zS d)], .int .i64 (k : Nat)] w fun e w' => e = .returned (grdS (lim (n * ((10 ^ k : Nat) : Int))) d k) ∧ Below w.heap.size w w' := by
  have hva := fun W => rvalid_any (zS n) (zS d) W (good_zs hg).1 (good_zs hg).2
  rw [good_rd hg] at hva
  unfold fV at hva
  have hd := hg.1.1; have b1 := hg.2.1; have b2 := hg.2.2
  have bt := ten_lt (k := k) (by omega)
  have VA := Lib.hid hva; have PW := Lib.hid (fun W => rpower_any k hk W)
  have d1 : decide ((k : Int) < 0) = false := by rw [decide_eq_false_iff_not]; omega
  have d2 : decide (30 < (k : Int)) = false := by rw [decide_eq_false_iff_not]; omega
  cases hm : lim (n * ((10 ^ k : Nat) : Int)) with
  | none =>
    have ML : Hid (∀ W, Calls Tryz.prog 37 #[.string (zS n), .string (tz k)] W fun e w' => e = .returned (.tuple #[.string ⟨#[]⟩, .int .i64 30]) ∧ Below W.heap.size W w') := fun W => by have h := qmul_z (x := n) b1 bt W hm; rw [tz_z (by omega)] at h; exact h
    show Calls _ _ _ _ fun e w' => e = .returned (.tuple #[.string ⟨#[]⟩, .string ⟨#[]⟩, .string ⟨#[]⟩, .bool false]) ∧ Below w.heap.size w w'
    clear hva hd b1 b2 bt hm hg hk
    have A_0 : Hid (Blk (w.alloc (.cells #[.string (zS n), .string (zS d)] 23)) w.heap.size 23 #[.string (zS n), .string (zS d)]) := allocs_blk [(#[.string (zS n), .string (zS d)], 23)] w 0 _ rfl
    have HB_0 : Hid (Below w.heap.size w (w.alloc (.cells #[.string (zS n), .string (zS d)] 23))) := allocs_below [(#[.string (zS n), .string (zS d)], 23)] w (Below.refl w.heap.size w) (Nat.le_refl _)
    go_enter Tryz.func45, Tryz.ntmps45
    have yy0 := A_0.out.cell (i := 0) (v := .string (zS n)) rfl; have yy1 := A_0.out.cell (i := 1) (v := .string (zS d)) rfl
    go_wp2_with fail
    refine (VA.out _).mono ?_
    rintro e v0 ⟨rfl, hb⟩
    clear yy0 yy1
    have A_1 : Hid (Blk v0 w.heap.size 23 #[.string (zS n), .string (zS d)]) := Lib.hid (A_0.out.below hb A_0.out.lt)
    have HB_1 : Hid (Below w.heap.size w v0) := Lib.hid (HB_0.out.trans (hb.mono HB_0.out.size))
    clear hb A_0 HB_0
    go_wp2_with fail
    refine (PW.out _).mono ?_
    rintro e v1 ⟨rfl, hb⟩
    have A_2 : Hid (Blk v1 w.heap.size 23 #[.string (zS n), .string (zS d)]) := Lib.hid (A_1.out.below hb A_1.out.lt)
    have HB_2 : Hid (Below w.heap.size w v1) := Lib.hid (HB_1.out.trans (hb.mono HB_1.out.size))
    clear hb A_1 HB_1
    have yy0 := A_2.out.cell (i := 0) (v := .string (zS n)) rfl; have yy1 := A_2.out.cell (i := 1) (v := .string (zS d)) rfl
    go_wp2_with fail
    refine (ML.out _).mono ?_
    rintro e v2 ⟨rfl, hb⟩
    clear yy0 yy1
    have A_3 : Hid (Blk v2 w.heap.size 23 #[.string (zS n), .string (zS d)]) := Lib.hid (A_2.out.below hb A_2.out.lt)
    have HB_3 : Hid (Below w.heap.size w v2) := Lib.hid (HB_2.out.trans (hb.mono HB_2.out.size))
    clear hb A_2 HB_2
    go_wp2_with fail
    exact bodyPost_ret (v := .tuple #[.string ⟨#[]⟩, .string ⟨#[]⟩, .string ⟨#[]⟩, .bool false]) (by kernel_rfl) rfl ⟨rfl, HB_3.out⟩
  | some m =>
    have ML : Hid (∀ W, Calls Tryz.prog 37 #[.string (zS n), .string (tz k)] W fun e w' => e = .returned (.tuple #[.string (zS m), .int .i64 0]) ∧ Below W.heap.size W w') := fun W => by have h := qmul_z (x := n) b1 bt W hm; rw [tz_z (by omega)] at h; exact h
    have DV := Lib.hid (fun W => qdiv_z (lim_abs hm).2 b2 W (by omega))
    show Calls _ _ _ _ fun e w' => e = .returned (.tuple #[.string (zS (m / d)), .string (zS (m % d)), .string (tz k), .bool true]) ∧ Below w.heap.size w w'
    obtain ⟨x, hx⟩ : ∃ x, x = zS (m / d) := ⟨_, rfl⟩
    obtain ⟨y, hy⟩ : ∃ x, x = zS (m % d) := ⟨_, rfl⟩
    rw [← hx, ← hy] at DV ⊢
    clear hva hd b1 b2 bt hm hg hk hx hy
    have A_0 : Hid (Blk (w.alloc (.cells #[.string (zS n), .string (zS d)] 23)) w.heap.size 23 #[.string (zS n), .string (zS d)]) := allocs_blk [(#[.string (zS n), .string (zS d)], 23)] w 0 _ rfl
    have HB_0 : Hid (Below w.heap.size w (w.alloc (.cells #[.string (zS n), .string (zS d)] 23))) := allocs_below [(#[.string (zS n), .string (zS d)], 23)] w (Below.refl w.heap.size w) (Nat.le_refl _)
    go_enter Tryz.func45, Tryz.ntmps45
    have yy0 := A_0.out.cell (i := 0) (v := .string (zS n)) rfl; have yy1 := A_0.out.cell (i := 1) (v := .string (zS d)) rfl
    go_wp2_with fail
    refine (VA.out _).mono ?_
    rintro e v0 ⟨rfl, hb⟩
    clear yy0 yy1
    have A_1 : Hid (Blk v0 w.heap.size 23 #[.string (zS n), .string (zS d)]) := Lib.hid (A_0.out.below hb A_0.out.lt)
    have HB_1 : Hid (Below w.heap.size w v0) := Lib.hid (HB_0.out.trans (hb.mono HB_0.out.size))
    clear hb A_0 HB_0
    go_wp2_with fail
    refine (PW.out _).mono ?_
    rintro e v1 ⟨rfl, hb⟩
    have A_2 : Hid (Blk v1 w.heap.size 23 #[.string (zS n), .string (zS d)]) := Lib.hid (A_1.out.below hb A_1.out.lt)
    have HB_2 : Hid (Below w.heap.size w v1) := Lib.hid (HB_1.out.trans (hb.mono HB_1.out.size))
    clear hb A_1 HB_1
    have yy0 := A_2.out.cell (i := 0) (v := .string (zS n)) rfl; have yy1 := A_2.out.cell (i := 1) (v := .string (zS d)) rfl
    go_wp2_with fail
    refine (ML.out _).mono ?_
    rintro e v2 ⟨rfl, hb⟩
    clear yy0 yy1
    have A_3 : Hid (Blk v2 w.heap.size 23 #[.string (zS n), .string (zS d)]) := Lib.hid (A_2.out.below hb A_2.out.lt)
    have HB_3 : Hid (Below w.heap.size w v2) := Lib.hid (HB_2.out.trans (hb.mono HB_2.out.size))
    clear hb A_2 HB_2
    have yy0 := A_3.out.cell (i := 0) (v := .string (zS n)) rfl; have yy1 := A_3.out.cell (i := 1) (v := .string (zS d)) rfl
    go_wp2_with fail
    refine (DV.out _).mono ?_
    rintro e v3 ⟨rfl, hb⟩
    clear yy0 yy1
    have A_4 : Hid (Blk v3 w.heap.size 23 #[.string (zS n), .string (zS d)]) := Lib.hid (A_3.out.below hb A_3.out.lt)
    have HB_4 : Hid (Below w.heap.size w v3) := Lib.hid (HB_3.out.trans (hb.mono HB_3.out.size))
    clear hb A_3 HB_3
    go_wp2_with fail
    exact bodyPost_ret (v := .tuple #[.string x, .string y, .string (tz k), .bool true]) (by kernel_rfl) rfl ⟨rfl, HB_4.out⟩
set_option maxRecDepth 100000 in
set_option maxHeartbeats 4000000 in
theorem rdown_any (an ad : ByteArray) (k : Int) (w : World) (ha : an.size ≤ 9000000000000000000 ∧ ad.size ≤ 9000000000000000000) (hk9 : -9223372036854775808 ≤ k ∧ k ≤ 9223372036854775807) :
    Calls Tryz.prog 17 #[.agg #[.string an, .string ad], .int .i64 k] w fun e w' => e = .returned (.tuple #[.agg #[.string (qN (gridQ false (rdQ an.data.toList ad.data.toList) k)), .string (qD (gridQ false (rdQ an.data.toList ad.data.toList) k))], .int .i64 (qE (gridQ false (rdQ an.data.toList ad.data.toList) k))]) ∧ Below w.heap.size w w' := by
  by_cases hno : rdQ an.data.toList ad.data.toList = none ∨ k < 0 ∨ 30 < k
  · have hq : gridQ false (rdQ an.data.toList ad.data.toList) k = none := by
      unfold gridQ
      split
      · rfl
      · rename_i h; rw [hno.resolve_right h]; rfl
    rw [hq]
    have GR := Lib.hid (fun W => rgrid_no an ad k W ha hk9 hno)
    clear hq hno ha hk9
    have A_0 : Hid (Blk ((w.alloc (.cells #[.string an, .string ad] 23)).alloc (.cells #[.string ⟨#[]⟩, .string ⟨#[]⟩] 23)) w.heap.size 23 #[.string an, .string ad]) := allocs_blk [(#[.string an, .string ad], 23), (#[.string ⟨#[]⟩, .string ⟨#[]⟩], 23)] w 0 _ rfl
    have R_0 : Hid (Blk ((w.alloc (.cells #[.string an, .string ad] 23)).alloc (.cells #[.string ⟨#[]⟩, .string ⟨#[]⟩] 23)) (w.heap.size + 1) 23 #[.string ⟨#[]⟩, .string ⟨#[]⟩]) := allocs_blk [(#[.string an, .string ad], 23), (#[.string ⟨#[]⟩, .string ⟨#[]⟩], 23)] w 1 _ rfl
    have HB_0 : Hid (Below w.heap.size w ((w.alloc (.cells #[.string an, .string ad] 23)).alloc (.cells #[.string ⟨#[]⟩, .string ⟨#[]⟩] 23))) := allocs_below [(#[.string an, .string ad], 23), (#[.string ⟨#[]⟩, .string ⟨#[]⟩], 23)] w (Below.refl w.heap.size w) (Nat.le_refl _)
    go_enter Tryz.func17, Tryz.ntmps17
    have yy0 := A_0.out.cell (i := 0) (v := .string an) rfl; have yy1 := A_0.out.cell (i := 1) (v := .string ad) rfl
    go_wp2_with fail
    refine (GR.out _).mono ?_
    rintro e v0 ⟨rfl, hb⟩
    clear yy0 yy1
    have A_1 : Hid (Blk v0 w.heap.size 23 #[.string an, .string ad]) := Lib.hid (A_0.out.below hb A_0.out.lt)
    have R_1 : Hid (Blk v0 (w.heap.size + 1) 23 #[.string ⟨#[]⟩, .string ⟨#[]⟩]) := Lib.hid (R_0.out.below hb R_0.out.lt)
    have HB_1 : Hid (Below w.heap.size w v0) := Lib.hid (HB_0.out.trans (hb.mono HB_0.out.size))
    clear hb A_0 R_0 HB_0
    have x0 := R_1.out.cell (i := 0) (v := .string ⟨#[]⟩) rfl; have x1 := R_1.out.cell (i := 1) (v := .string ⟨#[]⟩) rfl
    have f0 := R_1.out.frozen 0; have f1 := R_1.out.frozen 1
    obtain ⟨r0, r1⟩ := R_1.out.two (u := .string ⟨#[]⟩) (v := .string ⟨#[]⟩)
    have RR0 := Lib.hid r0; have RR1 := Lib.hid r1; clear r0 r1
    go_wp2_with fail
    have r0 := RR0.out; have r1 := RR1.out
    exact bodyPost_ret (v := .tuple #[.agg #[.string ⟨#[]⟩, .string ⟨#[]⟩], .int .i64 40]) (by simp [results, Tryz.results17, go_sem, r0, r1]) rfl ⟨rfl, (HB_1.out.setCell (p := ⟨(w.heap.size + 1), 0, none⟩) (by show w.heap.size ≤ (w.heap.size + 1); omega) _).setCell (p := ⟨(w.heap.size + 1), 1, none⟩) (by show w.heap.size ≤ (w.heap.size + 1); omega) _⟩
  · skip
    obtain ⟨hk0, hk1⟩ : 0 ≤ k ∧ k ≤ 30 := by omega
    cases hp : rdQ an.data.toList ad.data.toList with
    | none => exact absurd (.inl hp) hno
    | some p =>
      obtain ⟨p1, p2, p3⟩ := rdQ_some hp
      have e1 := bs_of_rd p1; have e2 := bs_of_rd p2
      have hg : Good (p.1, p.2) := ⟨p3, (rd_some p1).2.1, (rd_some p2).2.1⟩
      subst e1 e2
      obtain ⟨j, rfl⟩ : ∃ j : Nat, k = (j : Int) := ⟨k.toNat, by omega⟩
      have hj : j ≤ 30 := by omega
      have hq : gridQ false (some p) (j : Int) = (lim (p.1 * ((10 ^ j : Nat) : Int))).bind fun m => mk2 (if false = true ∧ m % p.2 ≠ 0 then lim (m / p.2 + 1) else some (m / p.2)) (some ((10 ^ j : Nat) : Int)) := by
        unfold gridQ
        rw [if_neg (by omega), show ((j : Int)).toNat = j from by omega]
        rfl
      rw [hq]
      have hgr := fun W => rgrid_yes hg j hj W
      have bt := ten_lt (k := j) (by omega)
      have hz := tz_z (k := j) (by omega)
      cases hm : lim (p.1 * ((10 ^ j : Nat) : Int)) with
      | none =>
        rw [hm] at hgr
        have GR : Hid (∀ W, Calls Tryz.prog 45 #[.agg #[.string (zS p.1), .string (zS p.2)], .int .i64 (j : Nat)] W fun e w' => e = .returned (.tuple #[.string ⟨#[]⟩, .string ⟨#[]⟩, .string ⟨#[]⟩, .bool false]) ∧ Below W.heap.size W w') := hgr
        show Calls _ _ _ _ fun e w' => e = .returned (.tuple #[.agg #[.string ⟨#[]⟩, .string ⟨#[]⟩], .int .i64 40]) ∧ Below w.heap.size w w'
        clear hgr hq hno ha hk9 hg hp p1 p2 p3 hj bt hz hm hk0 hk1
        have A_0 : Hid (Blk ((w.alloc (.cells #[.string (zS p.1), .string (zS p.2)] 23)).alloc (.cells #[.string ⟨#[]⟩, .string ⟨#[]⟩] 23)) w.heap.size 23 #[.string (zS p.1), .string (zS p.2)]) := allocs_blk [(#[.string (zS p.1), .string (zS p.2)], 23), (#[.string ⟨#[]⟩, .string ⟨#[]⟩], 23)] w 0 _ rfl
        have R_0 : Hid (Blk ((w.alloc (.cells #[.string (zS p.1), .string (zS p.2)] 23)).alloc (.cells #[.string ⟨#[]⟩, .string ⟨#[]⟩] 23)) (w.heap.size + 1) 23 #[.string ⟨#[]⟩, .string ⟨#[]⟩]) := allocs_blk [(#[.string (zS p.1), .string (zS p.2)], 23), (#[.string ⟨#[]⟩, .string ⟨#[]⟩], 23)] w 1 _ rfl
        have HB_0 : Hid (Below w.heap.size w ((w.alloc (.cells #[.string (zS p.1), .string (zS p.2)] 23)).alloc (.cells #[.string ⟨#[]⟩, .string ⟨#[]⟩] 23))) := allocs_below [(#[.string (zS p.1), .string (zS p.2)], 23), (#[.string ⟨#[]⟩, .string ⟨#[]⟩], 23)] w (Below.refl w.heap.size w) (Nat.le_refl _)
        go_enter Tryz.func17, Tryz.ntmps17
        have yy0 := A_0.out.cell (i := 0) (v := .string (zS p.1)) rfl; have yy1 := A_0.out.cell (i := 1) (v := .string (zS p.2)) rfl
        go_wp2_with fail
        refine (GR.out _).mono ?_
        rintro e v0 ⟨rfl, hb⟩
        clear yy0 yy1
        have A_1 : Hid (Blk v0 w.heap.size 23 #[.string (zS p.1), .string (zS p.2)]) := Lib.hid (A_0.out.below hb A_0.out.lt)
        have R_1 : Hid (Blk v0 (w.heap.size + 1) 23 #[.string ⟨#[]⟩, .string ⟨#[]⟩]) := Lib.hid (R_0.out.below hb R_0.out.lt)
        have HB_1 : Hid (Below w.heap.size w v0) := Lib.hid (HB_0.out.trans (hb.mono HB_0.out.size))
        clear hb A_0 R_0 HB_0
        have x0 := R_1.out.cell (i := 0) (v := .string ⟨#[]⟩) rfl; have x1 := R_1.out.cell (i := 1) (v := .string ⟨#[]⟩) rfl
        have f0 := R_1.out.frozen 0; have f1 := R_1.out.frozen 1
        obtain ⟨r0, r1⟩ := R_1.out.two (u := .string ⟨#[]⟩) (v := .string ⟨#[]⟩)
        have RR0 := Lib.hid r0; have RR1 := Lib.hid r1; clear r0 r1
        go_wp2_with fail
        have r0 := RR0.out; have r1 := RR1.out
        exact bodyPost_ret (v := .tuple #[.agg #[.string ⟨#[]⟩, .string ⟨#[]⟩], .int .i64 40]) (by simp [results, Tryz.results17, go_sem, r0, r1]) rfl ⟨rfl, (HB_1.out.setCell (p := ⟨(w.heap.size + 1), 0, none⟩) (by show w.heap.size ≤ (w.heap.size + 1); omega) _).setCell (p := ⟨(w.heap.size + 1), 1, none⟩) (by show w.heap.size ≤ (w.heap.size + 1); omega) _⟩
      | some m =>
        rw [hm] at hgr
        have hm9 := (lim_abs hm).2
        have hq9 : (m / p.2).natAbs < 10 ^ 200 := Nat.lt_of_le_of_lt (Int.natAbs_ediv_le_natAbs _ _) hm9
        have GR : Hid (∀ W, Calls Tryz.prog 45 #[.agg #[.string (zS p.1), .string (zS p.2)], .int .i64 (j : Nat)] W fun e w' => e = .returned (.tuple #[.string (zS (m / p.2)), .string (zS (m % p.2)), .string (tz j), .bool true]) ∧ Below W.heap.size W w') := hgr
        show Calls _ _ _ _ fun e w' => e = .returned (.tuple #[.agg #[.string (qN (mk2 (if false = true ∧ m % p.2 ≠ 0 then lim (m / p.2 + 1) else some (m / p.2)) (some ((10 ^ j : Nat) : Int)))), .string (qD (mk2 (if false = true ∧ m % p.2 ≠ 0 then lim (m / p.2 + 1) else some (m / p.2)) (some ((10 ^ j : Nat) : Int))))], .int .i64 (qE (mk2 (if false = true ∧ m % p.2 ≠ 0 then lim (m / p.2 + 1) else some (m / p.2)) (some ((10 ^ j : Nat) : Int))))]) ∧ Below w.heap.size w w'
        rw [if_neg (by simp)]
        have hmk := fun W => rmake_z hq9 bt W
        rw [hz] at hmk
        generalize mk2 (some (m / p.2)) (some ((10 ^ j : Nat) : Int)) = r at *
        have MK := Lib.hid hmk
        clear hmk hgr hq hno ha hk9 hg hp p1 p2 p3 hj bt hz hm hk0 hk1 hm9 hq9
        have A_0 : Hid (Blk ((w.alloc (.cells #[.string (zS p.1), .string (zS p.2)] 23)).alloc (.cells #[.string ⟨#[]⟩, .string ⟨#[]⟩] 23)) w.heap.size 23 #[.string (zS p.1), .string (zS p.2)]) := allocs_blk [(#[.string (zS p.1), .string (zS p.2)], 23), (#[.string ⟨#[]⟩, .string ⟨#[]⟩], 23)] w 0 _ rfl
        have R_0 : Hid (Blk ((w.alloc (.cells #[.string (zS p.1), .string (zS p.2)] 23)).alloc (.cells #[.string ⟨#[]⟩, .string ⟨#[]⟩] 23)) (w.heap.size + 1) 23 #[.string ⟨#[]⟩, .string ⟨#[]⟩]) := allocs_blk [(#[.string (zS p.1), .string (zS p.2)], 23), (#[.string ⟨#[]⟩, .string ⟨#[]⟩], 23)] w 1 _ rfl
        have HB_0 : Hid (Below w.heap.size w ((w.alloc (.cells #[.string (zS p.1), .string (zS p.2)] 23)).alloc (.cells #[.string ⟨#[]⟩, .string ⟨#[]⟩] 23))) := allocs_below [(#[.string (zS p.1), .string (zS p.2)], 23), (#[.string ⟨#[]⟩, .string ⟨#[]⟩], 23)] w (Below.refl w.heap.size w) (Nat.le_refl _)
        go_enter Tryz.func17, Tryz.ntmps17
        have yy0 := A_0.out.cell (i := 0) (v := .string (zS p.1)) rfl; have yy1 := A_0.out.cell (i := 1) (v := .string (zS p.2)) rfl
        go_wp2_with fail
        refine (GR.out _).mono ?_
        rintro e v0 ⟨rfl, hb⟩
        clear yy0 yy1
        have A_1 : Hid (Blk v0 w.heap.size 23 #[.string (zS p.1), .string (zS p.2)]) := Lib.hid (A_0.out.below hb A_0.out.lt)
        have R_1 : Hid (Blk v0 (w.heap.size + 1) 23 #[.string ⟨#[]⟩, .string ⟨#[]⟩]) := Lib.hid (R_0.out.below hb R_0.out.lt)
        have HB_1 : Hid (Below w.heap.size w v0) := Lib.hid (HB_0.out.trans (hb.mono HB_0.out.size))
        clear hb A_0 R_0 HB_0
        go_wp2_with fail
        refine (MK.out _).mono ?_
        rintro e v1 ⟨rfl, hb⟩
        have A_2 : Hid (Blk v1 w.heap.size 23 #[.string (zS p.1), .string (zS p.2)]) := Lib.hid (A_1.out.below hb A_1.out.lt)
        have R_2 : Hid (Blk v1 (w.heap.size + 1) 23 #[.string ⟨#[]⟩, .string ⟨#[]⟩]) := Lib.hid (R_1.out.below hb R_1.out.lt)
        have HB_2 : Hid (Below w.heap.size w v1) := Lib.hid (HB_1.out.trans (hb.mono HB_1.out.size))
        clear hb A_1 R_1 HB_1
        have x0 := R_2.out.cell (i := 0) (v := .string ⟨#[]⟩) rfl; have x1 := R_2.out.cell (i := 1) (v := .string ⟨#[]⟩) rfl
        have f0 := R_2.out.frozen 0; have f1 := R_2.out.frozen 1
        obtain ⟨r0, r1⟩ := R_2.out.two (u := .string (qN r)) (v := .string (qD r))
        have RR0 := Lib.hid r0; have RR1 := Lib.hid r1; clear r0 r1
        go_wp2_with fail
        have r0 := RR0.out; have r1 := RR1.out
        exact bodyPost_ret (v := .tuple #[.agg #[.string (qN r), .string (qD r)], .int .i64 (qE r)]) (by simp [results, Tryz.results17, go_sem, r0, r1]) rfl ⟨rfl, (HB_2.out.setCell (p := ⟨(w.heap.size + 1), 0, none⟩) (by show w.heap.size ≤ (w.heap.size + 1); omega) _).setCell (p := ⟨(w.heap.size + 1), 1, none⟩) (by show w.heap.size ≤ (w.heap.size + 1); omega) _⟩
set_option maxRecDepth 100000 in
set_option maxHeartbeats 4000000 in
theorem rup_any (an ad : ByteArray) (k : Int) (w : World) (ha : an.size ≤ 9000000000000000000 ∧ ad.size ≤ 9000000000000000000) (hk9 : -9223372036854775808 ≤ k ∧ k ≤ 9223372036854775807) :
    Calls Tryz.prog 19 #[.agg #[.string an, .string ad], .int .i64 k] w fun e w' => e = .returned (.tuple #[.agg #[.string (qN (gridQ true (rdQ an.data.toList ad.data.toList) k)), .string (qD (gridQ true (rdQ an.data.toList ad.data.toList) k))], .int .i64 (qE (gridQ true (rdQ an.data.toList ad.data.toList) k))]) ∧ Below w.heap.size w w' := by
  by_cases hno : rdQ an.data.toList ad.data.toList = none ∨ k < 0 ∨ 30 < k
  · have hq : gridQ true (rdQ an.data.toList ad.data.toList) k = none := by
      unfold gridQ
      split
      · rfl
      · rename_i h; rw [hno.resolve_right h]; rfl
    rw [hq]
    have GR := Lib.hid (fun W => rgrid_no an ad k W ha hk9 hno)
    clear hq hno ha hk9
    have A_0 : Hid (Blk ((w.alloc (.cells #[.string an, .string ad] 23)).alloc (.cells #[.string ⟨#[]⟩, .string ⟨#[]⟩] 23)) w.heap.size 23 #[.string an, .string ad]) := allocs_blk [(#[.string an, .string ad], 23), (#[.string ⟨#[]⟩, .string ⟨#[]⟩], 23)] w 0 _ rfl
    have R_0 : Hid (Blk ((w.alloc (.cells #[.string an, .string ad] 23)).alloc (.cells #[.string ⟨#[]⟩, .string ⟨#[]⟩] 23)) (w.heap.size + 1) 23 #[.string ⟨#[]⟩, .string ⟨#[]⟩]) := allocs_blk [(#[.string an, .string ad], 23), (#[.string ⟨#[]⟩, .string ⟨#[]⟩], 23)] w 1 _ rfl
    have HB_0 : Hid (Below w.heap.size w ((w.alloc (.cells #[.string an, .string ad] 23)).alloc (.cells #[.string ⟨#[]⟩, .string ⟨#[]⟩] 23))) := allocs_below [(#[.string an, .string ad], 23), (#[.string ⟨#[]⟩, .string ⟨#[]⟩], 23)] w (Below.refl w.heap.size w) (Nat.le_refl _)
    go_enter Tryz.func19, Tryz.ntmps19
    have yy0 := A_0.out.cell (i := 0) (v := .string an) rfl; have yy1 := A_0.out.cell (i := 1) (v := .string ad) rfl
    go_wp2_with fail
    refine (GR.out _).mono ?_
    rintro e v0 ⟨rfl, hb⟩
    clear yy0 yy1
    have A_1 : Hid (Blk v0 w.heap.size 23 #[.string an, .string ad]) := Lib.hid (A_0.out.below hb A_0.out.lt)
    have R_1 : Hid (Blk v0 (w.heap.size + 1) 23 #[.string ⟨#[]⟩, .string ⟨#[]⟩]) := Lib.hid (R_0.out.below hb R_0.out.lt)
    have HB_1 : Hid (Below w.heap.size w v0) := Lib.hid (HB_0.out.trans (hb.mono HB_0.out.size))
    clear hb A_0 R_0 HB_0
    have x0 := R_1.out.cell (i := 0) (v := .string ⟨#[]⟩) rfl; have x1 := R_1.out.cell (i := 1) (v := .string ⟨#[]⟩) rfl
    have f0 := R_1.out.frozen 0; have f1 := R_1.out.frozen 1
    obtain ⟨r0, r1⟩ := R_1.out.two (u := .string ⟨#[]⟩) (v := .string ⟨#[]⟩)
    have RR0 := Lib.hid r0; have RR1 := Lib.hid r1; clear r0 r1
    go_wp2_with fail
    have r0 := RR0.out; have r1 := RR1.out
    exact bodyPost_ret (v := .tuple #[.agg #[.string ⟨#[]⟩, .string ⟨#[]⟩], .int .i64 40]) (by simp [results, Tryz.results19, go_sem, r0, r1]) rfl ⟨rfl, (HB_1.out.setCell (p := ⟨(w.heap.size + 1), 0, none⟩) (by show w.heap.size ≤ (w.heap.size + 1); omega) _).setCell (p := ⟨(w.heap.size + 1), 1, none⟩) (by show w.heap.size ≤ (w.heap.size + 1); omega) _⟩
  · skip
    obtain ⟨hk0, hk1⟩ : 0 ≤ k ∧ k ≤ 30 := by omega
    cases hp : rdQ an.data.toList ad.data.toList with
    | none => exact absurd (.inl hp) hno
    | some p =>
      obtain ⟨p1, p2, p3⟩ := rdQ_some hp
      have e1 := bs_of_rd p1; have e2 := bs_of_rd p2
      have hg : Good (p.1, p.2) := ⟨p3, (rd_some p1).2.1, (rd_some p2).2.1⟩
      subst e1 e2
      obtain ⟨j, rfl⟩ : ∃ j : Nat, k = (j : Int) := ⟨k.toNat, by omega⟩
      have hj : j ≤ 30 := by omega
      have hq : gridQ true (some p) (j : Int) = (lim (p.1 * ((10 ^ j : Nat) : Int))).bind fun m => mk2 (if true = true ∧ m % p.2 ≠ 0 then lim (m / p.2 + 1) else some (m / p.2)) (some ((10 ^ j : Nat) : Int)) := by
        unfold gridQ
        rw [if_neg (by omega), show ((j : Int)).toNat = j from by omega]
        rfl
      rw [hq]
      have hgr := fun W => rgrid_yes hg j hj W
      have bt := ten_lt (k := j) (by omega)
      have hz := tz_z (k := j) (by omega)
      cases hm : lim (p.1 * ((10 ^ j : Nat) : Int)) with
      | none =>
        rw [hm] at hgr
        have GR : Hid (∀ W, Calls Tryz.prog 45 #[.agg #[.string (zS p.1), .string (zS p.2)], .int .i64 (j : Nat)] W fun e w' => e = .returned (.tuple #[.string ⟨#[]⟩, .string ⟨#[]⟩, .string ⟨#[]⟩, .bool false]) ∧ Below W.heap.size W w') := hgr
        show Calls _ _ _ _ fun e w' => e = .returned (.tuple #[.agg #[.string ⟨#[]⟩, .string ⟨#[]⟩], .int .i64 40]) ∧ Below w.heap.size w w'
        clear hgr hq hno ha hk9 hg hp p1 p2 p3 hj bt hz hm hk0 hk1
        have A_0 : Hid (Blk ((w.alloc (.cells #[.string (zS p.1), .string (zS p.2)] 23)).alloc (.cells #[.string ⟨#[]⟩, .string ⟨#[]⟩] 23)) w.heap.size 23 #[.string (zS p.1), .string (zS p.2)]) := allocs_blk [(#[.string (zS p.1), .string (zS p.2)], 23), (#[.string ⟨#[]⟩, .string ⟨#[]⟩], 23)] w 0 _ rfl
        have R_0 : Hid (Blk ((w.alloc (.cells #[.string (zS p.1), .string (zS p.2)] 23)).alloc (.cells #[.string ⟨#[]⟩, .string ⟨#[]⟩] 23)) (w.heap.size + 1) 23 #[.string ⟨#[]⟩, .string ⟨#[]⟩]) := allocs_blk [(#[.string (zS p.1), .string (zS p.2)], 23), (#[.string ⟨#[]⟩, .string ⟨#[]⟩], 23)] w 1 _ rfl
        have HB_0 : Hid (Below w.heap.size w ((w.alloc (.cells #[.string (zS p.1), .string (zS p.2)] 23)).alloc (.cells #[.string ⟨#[]⟩, .string ⟨#[]⟩] 23))) := allocs_below [(#[.string (zS p.1), .string (zS p.2)], 23), (#[.string ⟨#[]⟩, .string ⟨#[]⟩], 23)] w (Below.refl w.heap.size w) (Nat.le_refl _)
        go_enter Tryz.func19, Tryz.ntmps19
        have yy0 := A_0.out.cell (i := 0) (v := .string (zS p.1)) rfl; have yy1 := A_0.out.cell (i := 1) (v := .string (zS p.2)) rfl
        go_wp2_with fail
        refine (GR.out _).mono ?_
        rintro e v0 ⟨rfl, hb⟩
        clear yy0 yy1
        have A_1 : Hid (Blk v0 w.heap.size 23 #[.string (zS p.1), .string (zS p.2)]) := Lib.hid (A_0.out.below hb A_0.out.lt)
        have R_1 : Hid (Blk v0 (w.heap.size + 1) 23 #[.string ⟨#[]⟩, .string ⟨#[]⟩]) := Lib.hid (R_0.out.below hb R_0.out.lt)
        have HB_1 : Hid (Below w.heap.size w v0) := Lib.hid (HB_0.out.trans (hb.mono HB_0.out.size))
        clear hb A_0 R_0 HB_0
        have x0 := R_1.out.cell (i := 0) (v := .string ⟨#[]⟩) rfl; have x1 := R_1.out.cell (i := 1) (v := .string ⟨#[]⟩) rfl
        have f0 := R_1.out.frozen 0; have f1 := R_1.out.frozen 1
        obtain ⟨r0, r1⟩ := R_1.out.two (u := .string ⟨#[]⟩) (v := .string ⟨#[]⟩)
        have RR0 := Lib.hid r0; have RR1 := Lib.hid r1; clear r0 r1
        go_wp2_with fail
        have r0 := RR0.out; have r1 := RR1.out
        exact bodyPost_ret (v := .tuple #[.agg #[.string ⟨#[]⟩, .string ⟨#[]⟩], .int .i64 40]) (by simp [results, Tryz.results19, go_sem, r0, r1]) rfl ⟨rfl, (HB_1.out.setCell (p := ⟨(w.heap.size + 1), 0, none⟩) (by show w.heap.size ≤ (w.heap.size + 1); omega) _).setCell (p := ⟨(w.heap.size + 1), 1, none⟩) (by show w.heap.size ≤ (w.heap.size + 1); omega) _⟩
      | some m =>
        rw [hm] at hgr
        have hm9 := (lim_abs hm).2
        have hq9 : (m / p.2).natAbs < 10 ^ 200 := Nat.lt_of_le_of_lt (Int.natAbs_ediv_le_natAbs _ _) hm9
        have GR : Hid (∀ W, Calls Tryz.prog 45 #[.agg #[.string (zS p.1), .string (zS p.2)], .int .i64 (j : Nat)] W fun e w' => e = .returned (.tuple #[.string (zS (m / p.2)), .string (zS (m % p.2)), .string (tz j), .bool true]) ∧ Below W.heap.size W w') := hgr
        show Calls _ _ _ _ fun e w' => e = .returned (.tuple #[.agg #[.string (qN (mk2 (if true = true ∧ m % p.2 ≠ 0 then lim (m / p.2 + 1) else some (m / p.2)) (some ((10 ^ j : Nat) : Int)))), .string (qD (mk2 (if true = true ∧ m % p.2 ≠ 0 then lim (m / p.2 + 1) else some (m / p.2)) (some ((10 ^ j : Nat) : Int))))], .int .i64 (qE (mk2 (if true = true ∧ m % p.2 ≠ 0 then lim (m / p.2 + 1) else some (m / p.2)) (some ((10 ^ j : Nat) : Int))))]) ∧ Below w.heap.size w w'
        by_cases h0 : m % p.2 = 0
        · have k1 := is0_z (m % p.2) true (by simp [h0])
          rw [if_neg (by simp [h0])]
          have hmk := fun W => rmake_z hq9 bt W
          rw [hz] at hmk
          generalize mk2 (some (m / p.2)) (some ((10 ^ j : Nat) : Int)) = r at *
          have MK := Lib.hid hmk
          clear hmk hgr hq hno ha hk9 hg hp p1 p2 p3 hj bt hz hm hk0 hk1 hm9 hq9 h0
          have A_0 : Hid (Blk ((w.alloc (.cells #[.string (zS p.1), .string (zS p.2)] 23)).alloc (.cells #[.string ⟨#[]⟩, .string ⟨#[]⟩] 23)) w.heap.size 23 #[.string (zS p.1), .string (zS p.2)]) := allocs_blk [(#[.string (zS p.1), .string (zS p.2)], 23), (#[.string ⟨#[]⟩, .string ⟨#[]⟩], 23)] w 0 _ rfl
          have R_0 : Hid (Blk ((w.alloc (.cells #[.string (zS p.1), .string (zS p.2)] 23)).alloc (.cells #[.string ⟨#[]⟩, .string ⟨#[]⟩] 23)) (w.heap.size + 1) 23 #[.string ⟨#[]⟩, .string ⟨#[]⟩]) := allocs_blk [(#[.string (zS p.1), .string (zS p.2)], 23), (#[.string ⟨#[]⟩, .string ⟨#[]⟩], 23)] w 1 _ rfl
          have HB_0 : Hid (Below w.heap.size w ((w.alloc (.cells #[.string (zS p.1), .string (zS p.2)] 23)).alloc (.cells #[.string ⟨#[]⟩, .string ⟨#[]⟩] 23))) := allocs_below [(#[.string (zS p.1), .string (zS p.2)], 23), (#[.string ⟨#[]⟩, .string ⟨#[]⟩], 23)] w (Below.refl w.heap.size w) (Nat.le_refl _)
          go_enter Tryz.func19, Tryz.ntmps19
          have yy0 := A_0.out.cell (i := 0) (v := .string (zS p.1)) rfl; have yy1 := A_0.out.cell (i := 1) (v := .string (zS p.2)) rfl
          go_wp2_with fail
          refine (GR.out _).mono ?_
          rintro e v0 ⟨rfl, hb⟩
          clear yy0 yy1
          have A_1 : Hid (Blk v0 w.heap.size 23 #[.string (zS p.1), .string (zS p.2)]) := Lib.hid (A_0.out.below hb A_0.out.lt)
          have R_1 : Hid (Blk v0 (w.heap.size + 1) 23 #[.string ⟨#[]⟩, .string ⟨#[]⟩]) := Lib.hid (R_0.out.below hb R_0.out.lt)
          have HB_1 : Hid (Below w.heap.size w v0) := Lib.hid (HB_0.out.trans (hb.mono HB_0.out.size))
          clear hb A_0 R_0 HB_0
          go_wp2_with fail
          refine (MK.out _).mono ?_
          rintro e v1 ⟨rfl, hb⟩
          have A_2 : Hid (Blk v1 w.heap.size 23 #[.string (zS p.1), .string (zS p.2)]) := Lib.hid (A_1.out.below hb A_1.out.lt)
          have R_2 : Hid (Blk v1 (w.heap.size + 1) 23 #[.string ⟨#[]⟩, .string ⟨#[]⟩]) := Lib.hid (R_1.out.below hb R_1.out.lt)
          have HB_2 : Hid (Below w.heap.size w v1) := Lib.hid (HB_1.out.trans (hb.mono HB_1.out.size))
          clear hb A_1 R_1 HB_1
          have x0 := R_2.out.cell (i := 0) (v := .string ⟨#[]⟩) rfl; have x1 := R_2.out.cell (i := 1) (v := .string ⟨#[]⟩) rfl
          have f0 := R_2.out.frozen 0; have f1 := R_2.out.frozen 1
          obtain ⟨r0, r1⟩ := R_2.out.two (u := .string (qN r)) (v := .string (qD r))
          have RR0 := Lib.hid r0; have RR1 := Lib.hid r1; clear r0 r1
          go_wp2_with fail
          have r0 := RR0.out; have r1 := RR1.out
          exact bodyPost_ret (v := .tuple #[.agg #[.string (qN r), .string (qD r)], .int .i64 (qE r)]) (by simp [results, Tryz.results19, go_sem, r0, r1]) rfl ⟨rfl, (HB_2.out.setCell (p := ⟨(w.heap.size + 1), 0, none⟩) (by show w.heap.size ≤ (w.heap.size + 1); omega) _).setCell (p := ⟨(w.heap.size + 1), 1, none⟩) (by show w.heap.size ≤ (w.heap.size + 1); omega) _⟩
        · have k1 := is0_z (m % p.2) false (by simp [h0])
          rw [if_pos ⟨rfl, h0⟩]
          have b1 : (1 : Int).natAbs < 10 ^ 200 := by decide
          cases hn : lim (m / p.2 + 1) with
          | none =>
            have AD : Hid (∀ W, Calls Tryz.prog 35 #[.string (zS (m / p.2)), .string ⟨#[49]⟩] W fun e w' => e = .returned (.tuple #[.string ⟨#[]⟩, .int .i64 30]) ∧ Below W.heap.size W w') := fun W => by have h := qadd_z hq9 b1 W hn; rw [zS_one] at h; exact h
            show Calls _ _ _ _ fun e w' => e = .returned (.tuple #[.agg #[.string ⟨#[]⟩, .string ⟨#[]⟩], .int .i64 40]) ∧ Below w.heap.size w w'
            clear hgr hq hno ha hk9 hg hp p1 p2 p3 hj bt hz hm hk0 hk1 hm9 hq9 h0 hn b1
            have A_0 : Hid (Blk ((w.alloc (.cells #[.string (zS p.1), .string (zS p.2)] 23)).alloc (.cells #[.string ⟨#[]⟩, .string ⟨#[]⟩] 23)) w.heap.size 23 #[.string (zS p.1), .string (zS p.2)]) := allocs_blk [(#[.string (zS p.1), .string (zS p.2)], 23), (#[.string ⟨#[]⟩, .string ⟨#[]⟩], 23)] w 0 _ rfl
            have R_0 : Hid (Blk ((w.alloc (.cells #[.string (zS p.1), .string (zS p.2)] 23)).alloc (.cells #[.string ⟨#[]⟩, .string ⟨#[]⟩] 23)) (w.heap.size + 1) 23 #[.string ⟨#[]⟩, .string ⟨#[]⟩]) := allocs_blk [(#[.string (zS p.1), .string (zS p.2)], 23), (#[.string ⟨#[]⟩, .string ⟨#[]⟩], 23)] w 1 _ rfl
            have HB_0 : Hid (Below w.heap.size w ((w.alloc (.cells #[.string (zS p.1), .string (zS p.2)] 23)).alloc (.cells #[.string ⟨#[]⟩, .string ⟨#[]⟩] 23))) := allocs_below [(#[.string (zS p.1), .string (zS p.2)], 23), (#[.string ⟨#[]⟩, .string ⟨#[]⟩], 23)] w (Below.refl w.heap.size w) (Nat.le_refl _)
            go_enter Tryz.func19, Tryz.ntmps19
            have yy0 := A_0.out.cell (i := 0) (v := .string (zS p.1)) rfl; have yy1 := A_0.out.cell (i := 1) (v := .string (zS p.2)) rfl
            go_wp2_with fail
            refine (GR.out _).mono ?_
            rintro e v0 ⟨rfl, hb⟩
            clear yy0 yy1
            have A_1 : Hid (Blk v0 w.heap.size 23 #[.string (zS p.1), .string (zS p.2)]) := Lib.hid (A_0.out.below hb A_0.out.lt)
            have R_1 : Hid (Blk v0 (w.heap.size + 1) 23 #[.string ⟨#[]⟩, .string ⟨#[]⟩]) := Lib.hid (R_0.out.below hb R_0.out.lt)
            have HB_1 : Hid (Below w.heap.size w v0) := Lib.hid (HB_0.out.trans (hb.mono HB_0.out.size))
            clear hb A_0 R_0 HB_0
            go_wp2_with fail
            refine (AD.out _).mono ?_
            rintro e v1 ⟨rfl, hb⟩
            have A_2 : Hid (Blk v1 w.heap.size 23 #[.string (zS p.1), .string (zS p.2)]) := Lib.hid (A_1.out.below hb A_1.out.lt)
            have R_2 : Hid (Blk v1 (w.heap.size + 1) 23 #[.string ⟨#[]⟩, .string ⟨#[]⟩]) := Lib.hid (R_1.out.below hb R_1.out.lt)
            have HB_2 : Hid (Below w.heap.size w v1) := Lib.hid (HB_1.out.trans (hb.mono HB_1.out.size))
            clear hb A_1 R_1 HB_1
            have x0 := R_2.out.cell (i := 0) (v := .string ⟨#[]⟩) rfl; have x1 := R_2.out.cell (i := 1) (v := .string ⟨#[]⟩) rfl
            have f0 := R_2.out.frozen 0; have f1 := R_2.out.frozen 1
            obtain ⟨r0, r1⟩ := R_2.out.two (u := .string ⟨#[]⟩) (v := .string ⟨#[]⟩)
            have RR0 := Lib.hid r0; have RR1 := Lib.hid r1; clear r0 r1
            go_wp2_with fail
            have r0 := RR0.out; have r1 := RR1.out
            exact bodyPost_ret (v := .tuple #[.agg #[.string ⟨#[]⟩, .string ⟨#[]⟩], .int .i64 40]) (by simp [results, Tryz.results19, go_sem, r0, r1]) rfl ⟨rfl, (HB_2.out.setCell (p := ⟨(w.heap.size + 1), 0, none⟩) (by show w.heap.size ≤ (w.heap.size + 1); omega) _).setCell (p := ⟨(w.heap.size + 1), 1, none⟩) (by show w.heap.size ≤ (w.heap.size + 1); omega) _⟩
          | some x =>
            have AD : Hid (∀ W, Calls Tryz.prog 35 #[.string (zS (m / p.2)), .string ⟨#[49]⟩] W fun e w' => e = .returned (.tuple #[.string (zS x), .int .i64 0]) ∧ Below W.heap.size W w') := fun W => by have h := qadd_z hq9 b1 W hn; rw [zS_one] at h; exact h
            have hmk := fun W => rmake_z (lim_abs hn).2 bt W
            rw [hz] at hmk
            generalize mk2 (some x) (some ((10 ^ j : Nat) : Int)) = r at *
            have MK := Lib.hid hmk
            clear hmk hgr hq hno ha hk9 hg hp p1 p2 p3 hj bt hz hm hk0 hk1 hm9 hq9 h0 hn b1
            have A_0 : Hid (Blk ((w.alloc (.cells #[.string (zS p.1), .string (zS p.2)] 23)).alloc (.cells #[.string ⟨#[]⟩, .string ⟨#[]⟩] 23)) w.heap.size 23 #[.string (zS p.1), .string (zS p.2)]) := allocs_blk [(#[.string (zS p.1), .string (zS p.2)], 23), (#[.string ⟨#[]⟩, .string ⟨#[]⟩], 23)] w 0 _ rfl
            have R_0 : Hid (Blk ((w.alloc (.cells #[.string (zS p.1), .string (zS p.2)] 23)).alloc (.cells #[.string ⟨#[]⟩, .string ⟨#[]⟩] 23)) (w.heap.size + 1) 23 #[.string ⟨#[]⟩, .string ⟨#[]⟩]) := allocs_blk [(#[.string (zS p.1), .string (zS p.2)], 23), (#[.string ⟨#[]⟩, .string ⟨#[]⟩], 23)] w 1 _ rfl
            have HB_0 : Hid (Below w.heap.size w ((w.alloc (.cells #[.string (zS p.1), .string (zS p.2)] 23)).alloc (.cells #[.string ⟨#[]⟩, .string ⟨#[]⟩] 23))) := allocs_below [(#[.string (zS p.1), .string (zS p.2)], 23), (#[.string ⟨#[]⟩, .string ⟨#[]⟩], 23)] w (Below.refl w.heap.size w) (Nat.le_refl _)
            go_enter Tryz.func19, Tryz.ntmps19
            have yy0 := A_0.out.cell (i := 0) (v := .string (zS p.1)) rfl; have yy1 := A_0.out.cell (i := 1) (v := .string (zS p.2)) rfl
            go_wp2_with fail
            refine (GR.out _).mono ?_
            rintro e v0 ⟨rfl, hb⟩
            clear yy0 yy1
            have A_1 : Hid (Blk v0 w.heap.size 23 #[.string (zS p.1), .string (zS p.2)]) := Lib.hid (A_0.out.below hb A_0.out.lt)
            have R_1 : Hid (Blk v0 (w.heap.size + 1) 23 #[.string ⟨#[]⟩, .string ⟨#[]⟩]) := Lib.hid (R_0.out.below hb R_0.out.lt)
            have HB_1 : Hid (Below w.heap.size w v0) := Lib.hid (HB_0.out.trans (hb.mono HB_0.out.size))
            clear hb A_0 R_0 HB_0
            go_wp2_with fail
            refine (AD.out _).mono ?_
            rintro e v1 ⟨rfl, hb⟩
            have A_2 : Hid (Blk v1 w.heap.size 23 #[.string (zS p.1), .string (zS p.2)]) := Lib.hid (A_1.out.below hb A_1.out.lt)
            have R_2 : Hid (Blk v1 (w.heap.size + 1) 23 #[.string ⟨#[]⟩, .string ⟨#[]⟩]) := Lib.hid (R_1.out.below hb R_1.out.lt)
            have HB_2 : Hid (Below w.heap.size w v1) := Lib.hid (HB_1.out.trans (hb.mono HB_1.out.size))
            clear hb A_1 R_1 HB_1
            go_wp2_with fail
            refine (MK.out _).mono ?_
            rintro e v2 ⟨rfl, hb⟩
            have A_3 : Hid (Blk v2 w.heap.size 23 #[.string (zS p.1), .string (zS p.2)]) := Lib.hid (A_2.out.below hb A_2.out.lt)
            have R_3 : Hid (Blk v2 (w.heap.size + 1) 23 #[.string ⟨#[]⟩, .string ⟨#[]⟩]) := Lib.hid (R_2.out.below hb R_2.out.lt)
            have HB_3 : Hid (Below w.heap.size w v2) := Lib.hid (HB_2.out.trans (hb.mono HB_2.out.size))
            clear hb A_2 R_2 HB_2
            have x0 := R_3.out.cell (i := 0) (v := .string ⟨#[]⟩) rfl; have x1 := R_3.out.cell (i := 1) (v := .string ⟨#[]⟩) rfl
            have f0 := R_3.out.frozen 0; have f1 := R_3.out.frozen 1
            obtain ⟨r0, r1⟩ := R_3.out.two (u := .string (qN r)) (v := .string (qD r))
            have RR0 := Lib.hid r0; have RR1 := Lib.hid r1; clear r0 r1
            go_wp2_with fail
            have r0 := RR0.out; have r1 := RR1.out
            exact bodyPost_ret (v := .tuple #[.agg #[.string (qN r), .string (qD r)], .int .i64 (qE r)]) (by simp [results, Tryz.results19, go_sem, r0, r1]) rfl ⟨rfl, (HB_3.out.setCell (p := ⟨(w.heap.size + 1), 0, none⟩) (by show w.heap.size ≤ (w.heap.size + 1); omega) _).setCell (p := ⟨(w.heap.size + 1), 1, none⟩) (by show w.heap.size ≤ (w.heap.size + 1); omega) _⟩
end Go.Proofs.YtgokpdidhpogdaaGreat
namespace Go.Proofs.YtgokpdidhpogdaaGreat
open Go.RowKit Go.Lib

theorem ordI_anti (x y : Int) : ordI y x = -ordI x y := by
  rcases Int.lt_trichotomy x y with h | h | h
  · rw [ordI_lt h, ordI_gt h]; rfl
  · rw [ordI_eq h, ordI_eq h.symm]; rfl
  · rw [ordI_gt h, ordI_lt h]
theorem ordI_unit {r v : Int} (hr : 0 ≤ r) (hv : 0 ≤ v) (h : r = 0 ∨ v = 0) : ordI (if r = 0 then 0 else 1) (if v = 0 then 0 else 1) = ordI r v := by
  rcases h with h | h
  · rw [if_pos h, h]
    split
    · rename_i h2; rw [h2]
    · rw [ordI_lt (by omega), ordI_lt (by omega)]
  · rw [if_pos h, h]
    split
    · rename_i h2; rw [h2]
    · rw [ordI_gt (by omega), ordI_gt (by omega)]
def zOf : Value → Int
  | .string x => (rd x.data.toList).getD 0
  | _ => 0
theorem zOf_z {z : Int} (h : z.natAbs < 10 ^ 200) : zOf (.string (zS z)) = z := by show (rd (zS z).data.toList).getD 0 = z; rw [zS_rd h]; rfl
set_option maxRecDepth 100000 in
set_option maxHeartbeats 4000000 in
theorem rcmp_any (an ad bn bd : ByteArray) (w : World) (ha : an.size ≤ 9000000000000000000 ∧ ad.size ≤ 9000000000000000000) (hb : bn.size ≤ 9000000000000000000 ∧ bd.size ≤ 9000000000000000000) :
    Calls Tryz.prog 14 #[.agg #[.string an, .string ad], .agg #[.string bn, .string bd]] w fun e w' => e = .returned (.int .i64 (cmpQ (rdQ an.data.toList ad.data.toList) (rdQ bn.data.toList bd.data.toList))) ∧ Below w.heap.size w w' := by
  have hva := fun W => rvalid_any an ad W ha.1 ha.2
  have hvb := fun W => rvalid_any bn bd W hb.1 hb.2
  unfold fV at hva hvb
  cases hp : rdQ an.data.toList ad.data.toList with
  | none =>
    rw [hp] at hva
    obtain ⟨vb, hvb2⟩ : ∃ v, v = (rdQ bn.data.toList bd.data.toList).isSome := ⟨_, rfl⟩
    rw [← hvb2] at hvb
    have VA := Lib.hid hva; have VB := Lib.hid hvb
    generalize rdQ bn.data.toList bd.data.toList = Q at *
    clear hva hvb hvb2 hp ha hb
    have A_0 : Hid (Blk ((w.alloc (.cells #[.string an, .string ad] 23)).alloc (.cells #[.string bn, .string bd] 23)) w.heap.size 23 #[.string an, .string ad]) := allocs_blk [(#[.string an, .string ad], 23), (#[.string bn, .string bd], 23)] w 0 _ rfl
    have B_0 : Hid (Blk ((w.alloc (.cells #[.string an, .string ad] 23)).alloc (.cells #[.string bn, .string bd] 23)) (w.heap.size + 1) 23 #[.string bn, .string bd]) := allocs_blk [(#[.string an, .string ad], 23), (#[.string bn, .string bd], 23)] w 1 _ rfl
    have HB_0 : Hid (Below w.heap.size w ((w.alloc (.cells #[.string an, .string ad] 23)).alloc (.cells #[.string bn, .string bd] 23))) := allocs_below [(#[.string an, .string ad], 23), (#[.string bn, .string bd], 23)] w (Below.refl w.heap.size w) (Nat.le_refl _)
    go_enter Tryz.func14, Tryz.ntmps14
    have yy0 := A_0.out.cell (i := 0) (v := .string an) rfl; have yy1 := A_0.out.cell (i := 1) (v := .string ad) rfl
    go_wp2_with fail
    refine (VA.out _).mono ?_
    rintro e v0 ⟨rfl, hb⟩
    clear yy0 yy1
    have A_1 : Hid (Blk v0 w.heap.size 23 #[.string an, .string ad]) := Lib.hid (A_0.out.below hb A_0.out.lt)
    have B_1 : Hid (Blk v0 (w.heap.size + 1) 23 #[.string bn, .string bd]) := Lib.hid (B_0.out.below hb B_0.out.lt)
    have HB_1 : Hid (Below w.heap.size w v0) := Lib.hid (HB_0.out.trans (hb.mono HB_0.out.size))
    clear hb A_0 B_0 HB_0
    have yy0 := B_1.out.cell (i := 0) (v := .string bn) rfl; have yy1 := B_1.out.cell (i := 1) (v := .string bd) rfl
    go_wp2_with fail
    refine (VB.out _).mono ?_
    rintro e v1 ⟨rfl, hb⟩
    clear yy0 yy1
    have A_2 : Hid (Blk v1 w.heap.size 23 #[.string an, .string ad]) := Lib.hid (A_1.out.below hb A_1.out.lt)
    have B_2 : Hid (Blk v1 (w.heap.size + 1) 23 #[.string bn, .string bd]) := Lib.hid (B_1.out.below hb B_1.out.lt)
    have HB_2 : Hid (Below w.heap.size w v1) := Lib.hid (HB_1.out.trans (hb.mono HB_1.out.size))
    clear hb A_1 B_1 HB_1
    have hz : cmpQ none Q = 0 := by cases Q <;> rfl
    skip
    go_wp2_with fail
    go_ret
    exact ⟨by cases Q <;> rfl, HB_2.out⟩
  | some p =>
    rw [hp] at hva
    obtain ⟨p1, p2, p3⟩ := rdQ_some hp
    cases hq : rdQ bn.data.toList bd.data.toList with
    | none =>
      rw [hq] at hvb
      have VA := Lib.hid hva; have VB := Lib.hid hvb
      clear hva hvb hp hq ha hb p1 p2 p3
      have A_0 : Hid (Blk ((w.alloc (.cells #[.string an, .string ad] 23)).alloc (.cells #[.string bn, .string bd] 23)) w.heap.size 23 #[.string an, .string ad]) := allocs_blk [(#[.string an, .string ad], 23), (#[.string bn, .string bd], 23)] w 0 _ rfl
      have B_0 : Hid (Blk ((w.alloc (.cells #[.string an, .string ad] 23)).alloc (.cells #[.string bn, .string bd] 23)) (w.heap.size + 1) 23 #[.string bn, .string bd]) := allocs_blk [(#[.string an, .string ad], 23), (#[.string bn, .string bd], 23)] w 1 _ rfl
      have HB_0 : Hid (Below w.heap.size w ((w.alloc (.cells #[.string an, .string ad] 23)).alloc (.cells #[.string bn, .string bd] 23))) := allocs_below [(#[.string an, .string ad], 23), (#[.string bn, .string bd], 23)] w (Below.refl w.heap.size w) (Nat.le_refl _)
      go_enter Tryz.func14, Tryz.ntmps14
      have yy0 := A_0.out.cell (i := 0) (v := .string an) rfl; have yy1 := A_0.out.cell (i := 1) (v := .string ad) rfl
      go_wp2_with fail
      refine (VA.out _).mono ?_
      rintro e v0 ⟨rfl, hb⟩
      clear yy0 yy1
      have A_1 : Hid (Blk v0 w.heap.size 23 #[.string an, .string ad]) := Lib.hid (A_0.out.below hb A_0.out.lt)
      have B_1 : Hid (Blk v0 (w.heap.size + 1) 23 #[.string bn, .string bd]) := Lib.hid (B_0.out.below hb B_0.out.lt)
      have HB_1 : Hid (Below w.heap.size w v0) := Lib.hid (HB_0.out.trans (hb.mono HB_0.out.size))
      clear hb A_0 B_0 HB_0
      have yy0 := B_1.out.cell (i := 0) (v := .string bn) rfl; have yy1 := B_1.out.cell (i := 1) (v := .string bd) rfl
      go_wp2_with fail
      refine (VB.out _).mono ?_
      rintro e v1 ⟨rfl, hb⟩
      clear yy0 yy1
      have A_2 : Hid (Blk v1 w.heap.size 23 #[.string an, .string ad]) := Lib.hid (A_1.out.below hb A_1.out.lt)
      have B_2 : Hid (Blk v1 (w.heap.size + 1) 23 #[.string bn, .string bd]) := Lib.hid (B_1.out.below hb B_1.out.lt)
      have HB_2 : Hid (Below w.heap.size w v1) := Lib.hid (HB_1.out.trans (hb.mono HB_1.out.size))
      clear hb A_1 B_1 HB_1
      go_wp2_with fail
      go_ret
      exact ⟨rfl, HB_2.out⟩
    | some q =>
      rw [hq] at hvb
      obtain ⟨q1, q2, q3⟩ := rdQ_some hq
      have e1 := bs_of_rd p1; have e2 := bs_of_rd p2; have e3 := bs_of_rd q1; have e4 := bs_of_rd q2
      have b1 := (rd_some p1).2.1; have b2 := (rd_some p2).2.1; have b3 := (rd_some q1).2.1; have b4 := (rd_some q2).2.1
      subst e1 e2 e3 e4
      have VA := Lib.hid hva; have VB := Lib.hid hvb
      obtain ⟨t, ht⟩ : ∃ t, t = ordI (p.1 * q.2) (q.1 * p.2) := ⟨_, rfl⟩
      show Calls _ _ _ _ fun e w' => e = .returned (.int .i64 (ordI (p.1 * q.2) (q.1 * p.2))) ∧ Below w.heap.size w w'
      rw [← ht]
      have H0 : Hid (∃ sg N D M C : Int, (Value.int .i64 1 = .int .i64 sg) ∧ (Value.string (zS p.1) = .string (zS N)) ∧ (Value.string (zS p.2) = .string (zS D)) ∧ (Value.string (zS q.1) = .string (zS M)) ∧ (Value.string (zS q.2) = .string (zS C)) ∧ (sg = 1 ∨ sg = -1) ∧ (0 < D ∧ 0 < C) ∧
          (N.natAbs < 10 ^ 200 ∧ D.natAbs < 10 ^ 200 ∧ M.natAbs < 10 ^ 200 ∧ C.natAbs < 10 ^ 200) ∧ sg * ordI (N * C) (M * D) = t) :=
        ⟨1, p.1, p.2, q.1, q.2, rfl, rfl, rfl, rfl, rfl, .inl rfl, ⟨p3.1, q3.1⟩, ⟨b1, b2, b3, b4⟩, by rw [ht]; omega⟩
      clear hva hvb hp hq ha hb p1 p2 p3 q1 q2 q3 b1 b2 b3 b4 ht
      have A_0 : Hid (Blk ((w.alloc (.cells #[.string (zS p.1), .string (zS p.2)] 23)).alloc (.cells #[.string (zS q.1), .string (zS q.2)] 23)) w.heap.size 23 #[.string (zS p.1), .string (zS p.2)]) := allocs_blk [(#[.string (zS p.1), .string (zS p.2)], 23), (#[.string (zS q.1), .string (zS q.2)], 23)] w 0 _ rfl
      have B_0 : Hid (Blk ((w.alloc (.cells #[.string (zS p.1), .string (zS p.2)] 23)).alloc (.cells #[.string (zS q.1), .string (zS q.2)] 23)) (w.heap.size + 1) 23 #[.string (zS q.1), .string (zS q.2)]) := allocs_blk [(#[.string (zS p.1), .string (zS p.2)], 23), (#[.string (zS q.1), .string (zS q.2)], 23)] w 1 _ rfl
      have HB_0 : Hid (Below w.heap.size w ((w.alloc (.cells #[.string (zS p.1), .string (zS p.2)] 23)).alloc (.cells #[.string (zS q.1), .string (zS q.2)] 23))) := allocs_below [(#[.string (zS p.1), .string (zS p.2)], 23), (#[.string (zS q.1), .string (zS q.2)], 23)] w (Below.refl w.heap.size w) (Nat.le_refl _)
      go_enter Tryz.func14, Tryz.ntmps14
      have yy0 := A_0.out.cell (i := 0) (v := .string (zS p.1)) rfl; have yy1 := A_0.out.cell (i := 1) (v := .string (zS p.2)) rfl
      go_wp2_with fail
      refine (VA.out _).mono ?_
      rintro e v0 ⟨rfl, hb⟩
      clear yy0 yy1
      have A_1 : Hid (Blk v0 w.heap.size 23 #[.string (zS p.1), .string (zS p.2)]) := Lib.hid (A_0.out.below hb A_0.out.lt)
      have B_1 : Hid (Blk v0 (w.heap.size + 1) 23 #[.string (zS q.1), .string (zS q.2)]) := Lib.hid (B_0.out.below hb B_0.out.lt)
      have HB_1 : Hid (Below w.heap.size w v0) := Lib.hid (HB_0.out.trans (hb.mono HB_0.out.size))
      clear hb A_0 B_0 HB_0
      have yy0 := B_1.out.cell (i := 0) (v := .string (zS q.1)) rfl; have yy1 := B_1.out.cell (i := 1) (v := .string (zS q.2)) rfl
      go_wp2_with fail
      refine (VB.out _).mono ?_
      rintro e v1 ⟨rfl, hb⟩
      clear yy0 yy1
      have A_2 : Hid (Blk v1 w.heap.size 23 #[.string (zS p.1), .string (zS p.2)]) := Lib.hid (A_1.out.below hb A_1.out.lt)
      have B_2 : Hid (Blk v1 (w.heap.size + 1) 23 #[.string (zS q.1), .string (zS q.2)]) := Lib.hid (B_1.out.below hb B_1.out.lt)
      have HB_2 : Hid (Below w.heap.size w v1) := Lib.hid (HB_1.out.trans (hb.mono HB_1.out.size))
      clear hb A_1 B_1 HB_1
      have yy0 := A_2.out.cell (i := 0) (v := .string (zS p.1)) rfl; have yy1 := A_2.out.cell (i := 1) (v := .string (zS p.2)) rfl
      have yy2 := B_2.out.cell (i := 0) (v := .string (zS q.1)) rfl; have yy3 := B_2.out.cell (i := 1) (v := .string (zS q.2)) rfl
      go_wp2_with fail
      go_loopw [7, 8, 9, 10, 11] (fun s n d m c wr => (∃ sg N D M C : Int, (s = .int .i64 sg) ∧ (n = .string (zS N)) ∧ (d = .string (zS D)) ∧ (m = .string (zS M)) ∧ (c = .string (zS C)) ∧ (sg = 1 ∨ sg = -1) ∧ (0 < D ∧ 0 < C) ∧
          (N.natAbs < 10 ^ 200 ∧ D.natAbs < 10 ^ 200 ∧ M.natAbs < 10 ^ 200 ∧ C.natAbs < 10 ^ 200) ∧ sg * ordI (N * C) (M * D) = t) ∧ Below w.heap.size w wr) (fun _ _ d _ c _ => (zOf d + zOf c).toNat)
      case atStart => exact ⟨H0.out, HB_2.out⟩
      case round =>
        obtain ⟨⟨sg, N, D, M, C, rfl, rfl, rfl, rfl, rfl, hsg, ⟨hD, hC⟩, ⟨b1, b2, b3, b4⟩, ht⟩, hb⟩ := hrel
        have hr0 := Int.emod_nonneg N (show D ≠ 0 by omega); have hr1 := Int.emod_lt_of_pos N hD
        have hv0 := Int.emod_nonneg M (show C ≠ 0 by omega); have hv1 := Int.emod_lt_of_pos M hC
        have hq9 : (N / D).natAbs < 10 ^ 200 := Nat.lt_of_le_of_lt (Int.natAbs_ediv_le_natAbs _ _) b1
        have hp9 : (M / C).natAbs < 10 ^ 200 := Nat.lt_of_le_of_lt (Int.natAbs_ediv_le_natAbs _ _) b3
        have hr9 : (N % D).natAbs < 10 ^ 200 := by omega
        have hv9 : (M % C).natAbs < 10 ^ 200 := by omega
        have hwh := @cmp_whole N D M C hD hC
        have hle := @cmp_left N D M C
        have d1 := fun W => qdiv_z b1 b2 W (show D ≠ 0 by omega)
        have d2 := fun W => qdiv_z b3 b4 W (show C ≠ 0 by omega)
        generalize N / D = q' at *; generalize N % D = r at *; generalize M / C = p' at *; generalize M % C = v at *
        have c1 := fun W => qcmp_z hq9 hp9 W
        have D1 := Lib.hid d1; have D2 := Lib.hid d2
        have sgb : -1 ≤ sg ∧ sg ≤ 1 := by omega
        have H_1 := Lib.hid hb
        by_cases hqp : q' = p'
        case neg =>
          have hne : (ordI q' p' == 0) = false := by
            rw [beq_eq_false_iff_ne]
            rcases Int.lt_or_gt_of_ne hqp with h | h
            · rw [ordI_lt h]; decide
            · rw [ordI_gt h]; decide
          have hw : IntKind.i64.wrap (sg * ordI q' p') = t := by
            rw [hwh hqp, ht]
            have := ordI_le (N * C) (M * D)
            refine IntWalk.i64_in _ ?_
            rw [← ht]
            rcases hsg with h | h <;> subst h <;> omega
          generalize ordI q' p' = W at *
          have C1 := Lib.hid c1
          clear hb hsg hD hC b1 b2 b3 b4 ht hr0 hr1 hv0 hv1 hq9 hp9 hr9 hv9 hwh hle d1 d2 c1 hqp
          go_wp2_with fail
          refine (D1.out _).mono ?_
          rintro e u1 ⟨rfl, hb⟩
          have H_2 := Lib.hid (H_1.out.trans (hb.mono H_1.out.size)); clear hb H_1
          go_wp2_with fail
          refine (D2.out _).mono ?_
          rintro e u2 ⟨rfl, hb⟩
          have H_3 := Lib.hid (H_2.out.trans (hb.mono H_2.out.size)); clear hb H_2
          go_wp2_with fail
          refine (C1.out _).mono ?_
          rintro e u3 ⟨rfl, hb⟩
          have H_4 := Lib.hid (H_3.out.trans (hb.mono H_3.out.size)); clear hb H_3
          go_wp2_with fail
          go_ret
          exact ⟨rfl, H_4.out⟩
        case pos =>
          rw [ordI_eq hqp] at c1
          have ht2 : sg * ordI (r * C) (v * D) = t := by rw [← hle hqp]; exact ht
          have C1 := Lib.hid c1
          by_cases hz : r = 0 ∨ v = 0
          case pos =>
            have hu := ordI_unit hr0 hv0 hz
            have hcz := cmp_zero hD hC hr0 hv0 hz
            have hw : IntKind.i64.wrap (sg * ordI (if r = 0 then 0 else 1) (if v = 0 then 0 else 1)) = t := by
              rw [hu, hcz, ht2]
              have := ordI_le (r * C) (v * D)
              refine IntWalk.i64_in _ ?_
              rw [← ht2]
              rcases hsg with h | h <;> subst h <;> omega
            have Z1 := Lib.hid (fun W => rzero_any r hr9 W); have Z2 := Lib.hid (fun W => rzero_any v hv9 W)
            have i1 : ((if r = 0 then 0 else 1 : Int)).natAbs < 10 ^ 200 := by split <;> decide
            have i2 : ((if v = 0 then 0 else 1 : Int)).natAbs < 10 ^ 200 := by split <;> decide
            have c2 := fun W => qcmp_z i1 i2 W
            generalize ordI (if r = 0 then 0 else 1) (if v = 0 then 0 else 1) = W2 at *
            obtain ⟨y1, hy1⟩ : ∃ x, x = zS (if r = 0 then 0 else 1) := ⟨_, rfl⟩
            obtain ⟨y2, hy2⟩ : ∃ x, x = zS (if v = 0 then 0 else 1) := ⟨_, rfl⟩
            rw [← hy1] at Z1 c2; rw [← hy2] at Z2 c2
            have C2 := Lib.hid c2
            have hkz : ((zS r).toList == [48]) = true ∨ (((zS r).toList == [48]) = false ∧ ((zS v).toList == [48]) = true) := by
              by_cases h : r = 0
              · exact .inl (is0_z r true (by simp [h]))
              · exact .inr ⟨is0_z r false (by simp [h]), is0_z v true (by simp [hz.resolve_left h])⟩
            clear hb hsg hD hC b1 b2 b3 b4 ht hr0 hr1 hv0 hv1 hq9 hp9 hr9 hv9 hwh hle d1 d2 c1 hqp ht2 hz hu hcz i1 i2 c2 hy1 hy2
            rcases hkz with k1 | ⟨k1, k2⟩
            all_goals
              go_wp2_with fail
              refine (D1.out _).mono ?_
              rintro e u1 ⟨rfl, hb⟩
              have H_2 := Lib.hid (H_1.out.trans (hb.mono H_1.out.size)); clear hb H_1
              go_wp2_with fail
              refine (D2.out _).mono ?_
              rintro e u2 ⟨rfl, hb⟩
              have H_3 := Lib.hid (H_2.out.trans (hb.mono H_2.out.size)); clear hb H_2
              go_wp2_with fail
              refine (C1.out _).mono ?_
              rintro e u3 ⟨rfl, hb⟩
              have H_4 := Lib.hid (H_3.out.trans (hb.mono H_3.out.size)); clear hb H_3
              go_wp2_with fail
              refine (Z1.out _).mono ?_
              rintro e u4 ⟨rfl, hb⟩
              have H_5 := Lib.hid (H_4.out.trans (hb.mono H_4.out.size)); clear hb H_4
              go_wp2_with fail
              refine (Z2.out _).mono ?_
              rintro e u5 ⟨rfl, hb⟩
              have H_6 := Lib.hid (H_5.out.trans (hb.mono H_5.out.size)); clear hb H_5
              go_wp2_with fail
              refine (C2.out _).mono ?_
              rintro e u6 ⟨rfl, hb⟩
              have H_7 := Lib.hid (H_6.out.trans (hb.mono H_6.out.size)); clear hb H_6
              go_wp2_with fail
              go_ret
              exact ⟨rfl, H_7.out⟩
          case neg =>
            have k1 := is0_z r false (by simp [show r ≠ 0 from fun h => hz (.inl h)])
            have k2 := is0_z v false (by simp [show v ≠ 0 from fun h => hz (.inr h)])
            have HR : Hid ((-sg = 1 ∨ -sg = -1) ∧ (0 < r ∧ 0 < v) ∧ (D.natAbs < 10 ^ 200 ∧ r.natAbs < 10 ^ 200 ∧ C.natAbs < 10 ^ 200 ∧ v.natAbs < 10 ^ 200) ∧ -sg * ordI (D * v) (C * r) = t) :=
              ⟨by omega, ⟨by have : r ≠ 0 := fun h => hz (.inl h)
                             omega, by have : v ≠ 0 := fun h => hz (.inr h)
                                       omega⟩, ⟨b2, hr9, b4, hv9⟩, by rw [ordI_anti (C * r), ← cmp_turn, ← ht2, Int.neg_mul_neg]⟩
            have HM : Hid ((zOf (.string (zS r)) + zOf (.string (zS v))).toNat < (zOf (.string (zS D)) + zOf (.string (zS C))).toNat) := by
              show _ < _
              rw [zOf_z hr9, zOf_z hv9, zOf_z b2, zOf_z b4]; omega
            clear hb hsg hD hC b1 b2 b3 b4 ht hr0 hr1 hv0 hv1 hq9 hp9 hr9 hv9 hwh hle d1 d2 c1 hqp ht2 hz
            go_wp2_with fail
            refine (D1.out _).mono ?_
            rintro e u1 ⟨rfl, hb⟩
            have H_2 := Lib.hid (H_1.out.trans (hb.mono H_1.out.size)); clear hb H_1
            go_wp2_with fail
            refine (D2.out _).mono ?_
            rintro e u2 ⟨rfl, hb⟩
            have H_3 := Lib.hid (H_2.out.trans (hb.mono H_2.out.size)); clear hb H_2
            go_wp2_with fail
            refine (C1.out _).mono ?_
            rintro e u3 ⟨rfl, hb⟩
            have H_4 := Lib.hid (H_3.out.trans (hb.mono H_3.out.size)); clear hb H_3
            go_wp2_with fail
            go_roundw
            case rel => exact ⟨⟨-sg, D, r, C, v, rfl, rfl, rfl, rfl, rfl, HR.out⟩, H_4.out⟩
            case measure => exact HM.out
end Go.Proofs.YtgokpdidhpogdaaGreat
