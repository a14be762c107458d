/- The contract of IntegerText. Conditions: an int; a string's length is an int's. -/
import Derived.Test.YtgpppjfgdbloiaaDvd
namespace Go.Proofs.Ytgpppjfgdbloiaa
open Go.RowKit Go.Lib

theorem cut_at {P : Program} (t : TypeId) (ht : P.underlying t = some .string) (s : ByteArray) (N : Nat) :
    (if (N : Int) < (s.size : Int) then (N : Int) else (s.size : Int)) = (min s.size N : Nat) ∧
      ∀ w, (Instr.slice t (.string s) none (some (.int .i64 ((min s.size N : Nat) : Int))) none).run P w = .ok (.string (s.extract 0 (min s.size N))) w := by
  refine ⟨by split <;> omega, fun w => ?_⟩
  obtain ⟨m, hm⟩ : ∃ m, m = min s.size N := ⟨_, rfl⟩
  rw [← hm, run_slice_string_h w t s ht .i64 m (by omega) (by omega)]
  simp
theorem toR_some {L : List UInt8} {z : Int} (h : toR L = some z) : L = zL z ∧ z.natAbs < 10 ^ 200 ∧ -9223372036854775808 ≤ z ∧ z ≤ 9223372036854775807 := by
  unfold toR at h
  cases hq : rd L with
  | none => rw [hq] at h; cases h
  | some y =>
    rw [hq] at h
    simp at h
    obtain ⟨⟨h1, h2⟩, rfl⟩ := h
    exact ⟨(rd_some hq).1, (rd_some hq).2.1, h1, h2⟩
set_option maxRecDepth 100000 in
set_option maxHeartbeats 4000000 in
theorem text_law (n : Int) (s : ByteArray) (w : World) (hn : -9223372036854775808 ≤ n ∧ n ≤ 9223372036854775807) :
    Calls Try.prog 5 #[.int .i64 n, .string s] w fun e w' => e = .returned (.bool true) ∧ Below w.heap.size w w' := by
  obtain ⟨hif, hsl⟩ := cut_at (P := Try.prog) 9 Try.underlying9 s 30
  obtain ⟨m, hm⟩ : ∃ m, m = min s.size 30 := ⟨_, rfl⟩
  obtain ⟨T, hT⟩ : ∃ T, T = s.extract 0 (min s.size 30) := ⟨_, rfl⟩
  rw [← hT, ← hm] at hsl
  rw [← hm] at hif
  have hTs : T.size ≤ 30 := by rw [hT, ByteArray.size_extract]; omega
  rw [show ((30 : Nat) : Int) = 30 from rfl] at hif
  have ln : n.natAbs < 10 ^ 200 := by omega
  have C1 := Lib.hid fun W => fromInt_any n W hn.1 hn.2
  have C2 := Lib.hid fun W => toInt_zz n W ln hn.1 hn.2
  have C4 := Lib.hid fun W => valid_zz n W ln
  have hto := fun W => toInt_any T W (by omega)
  cases hr : toR T.data.toList with
  | none =>
    rw [hr] at hto
    have C3 := Lib.hid hto
    clear hto hr hTs hT hm ln hn
    go_enter Try.func5, Try.ntmps5
    go_wp2_with fail
    refine (sane_any _).mono ?_
    rintro e w1 ⟨rfl, hb1⟩
    have HB1 := Lib.hid hb1; clear hb1
    go_wp2_with fail
    refine (C1.out _).mono ?_
    rintro e w2 ⟨rfl, hb2⟩
    have HB2 := Lib.hid (HB1.out.trans (hb2.mono HB1.out.size)); clear hb2
    go_wp2_with fail
    refine (C2.out _).mono ?_
    rintro e w3 ⟨rfl, hb3⟩
    have HB3 := Lib.hid (HB2.out.trans (hb3.mono HB2.out.size)); clear hb3
    go_wp2_with fail
    refine (C3.out _).mono ?_
    rintro e w4 ⟨rfl, hb4⟩
    have HB4 := Lib.hid (HB3.out.trans (hb4.mono HB3.out.size)); clear hb4
    go_wp2_with fail
    refine (C4.out _).mono ?_
    rintro e w5 ⟨rfl, k5, rfl⟩
    have hbd := below_drewN HB4.out k5
    try rw [World.drewN_drewN] at hbd
    have HB5 := Lib.hid hbd; clear hbd
    go_wp2_with fail
    go_ret
    exact ⟨rfl, HB5.out⟩
  | some z =>
    rw [hr] at hto
    obtain ⟨h1, h2, h3, h4⟩ := toR_some hr
    obtain rfl : T = zS z := by rw [← bs_self T, h1]; rfl
    have C3 := Lib.hid hto
    have C5 := Lib.hid fun W => valid_zz z W h2
    have C6 := Lib.hid fun W => fromInt_any z W h3 h4
    clear hto hr hTs hT hm ln hn h1 h2 h3 h4
    go_enter Try.func5, Try.ntmps5
    go_wp2_with fail
    refine (sane_any _).mono ?_
    rintro e w1 ⟨rfl, hb1⟩
    have HB1 := Lib.hid hb1; clear hb1
    go_wp2_with fail
    refine (C1.out _).mono ?_
    rintro e w2 ⟨rfl, hb2⟩
    have HB2 := Lib.hid (HB1.out.trans (hb2.mono HB1.out.size)); clear hb2
    go_wp2_with fail
    refine (C2.out _).mono ?_
    rintro e w3 ⟨rfl, hb3⟩
    have HB3 := Lib.hid (HB2.out.trans (hb3.mono HB2.out.size)); clear hb3
    go_wp2_with fail
    refine (C3.out _).mono ?_
    rintro e w4 ⟨rfl, hb4⟩
    have HB4 := Lib.hid (HB3.out.trans (hb4.mono HB3.out.size)); clear hb4
    go_wp2_with fail
    refine (C4.out _).mono ?_
    rintro e w5 ⟨rfl, k5, rfl⟩
    have hbd := below_drewN HB4.out k5
    try rw [World.drewN_drewN] at hbd
    have HB5 := Lib.hid hbd; clear hbd
    go_wp2_with fail
    refine (C5.out _).mono ?_
    rintro e w6 ⟨rfl, k6, rfl⟩
    have hbd := below_drewN HB5.out k6
    try rw [World.drewN_drewN] at hbd
    have HB6 := Lib.hid hbd; clear hbd
    go_wp2_with fail
    refine (C6.out _).mono ?_
    rintro e w7 ⟨rfl, hb7⟩
    have HB7 := Lib.hid (HB6.out.trans (hb7.mono HB6.out.size)); clear hb7
    go_wp2_with fail
    go_ret
    exact ⟨rfl, HB7.out⟩
end Go.Proofs.Ytgpppjfgdbloiaa
