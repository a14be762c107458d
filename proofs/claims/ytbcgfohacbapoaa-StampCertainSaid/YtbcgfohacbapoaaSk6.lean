
/- The contracts of skewOf, areSkews, areMeets, Proper, isTold, When. Conditions: the slices read. -/
import Derived.Test.YtbcgfohacbapoaaSa6
namespace Go.Proofs.Ytbcgfohacbapoaa
open Go.RowKit Go.Lib

/-- As values. -/
abbrev skv (s : Sk) : Value := .agg #[.int .i64 s.p, .int .i64 s.lo, .int .i64 s.hi]
abbrev smv (s : Sm) : Value := .agg #[.int .i64 s.t, .int .i64 s.p, .int .i64 s.n]
abbrev mtv (m : Mt) : Value := .agg #[.int .i64 m.a, .int .i64 m.ta, .int .i64 m.b, .int .i64 m.tb]
theorem fnd_at {l : List Sk} {q : Int} {i : Nat} (h : i < l.length) (hp : l[i].p = q) (hno : ∀ j (hj : j < l.length), j < i → l[j].p ≠ q) : fnd l q = some l[i] := by
  unfold fnd
  rw [List.find?_eq_some_iff_getElem]
  refine ⟨by simpa using hp, i, h, rfl, fun j hj => ?_⟩
  simpa using hno j (by omega) hj
theorem fnd_none {l : List Sk} {q : Int} (hno : ∀ j (hj : j < l.length), l[j].p ≠ q) : fnd l q = none := by
  unfold fnd
  rw [List.find?_eq_none]
  intro x hx
  obtain ⟨j, hj, rfl⟩ := List.getElem_of_mem hx
  simpa using hno j hj
set_option maxRecDepth 100000 in
set_option maxHeartbeats 4000000 in
theorem pskewof_any (l : List Sk) (q : Int) (A : Option Addr) (c : Nat) (w : World) (hA : Kz w A l) (hz : l.length ≤ 9000000000000000000) :
    Calls Try.prog 101 #[.slice A l.length c, .int .i64 q] w fun e w' => e = .returned (.tuple #[skv ((fnd l q).getD z0), .bool (fnd l q).isSome]) ∧ Below w.heap.size w w' := by
  have HA := Lib.hid hA; clear hA
  have R_0 : Hid (Blk (w.alloc (.cells #[.int .i64 0, .int .i64 0, .int .i64 0] 77)) w.heap.size 77 #[.int .i64 0, .int .i64 0, .int .i64 0]) := allocs_blk [(#[.int .i64 0, .int .i64 0, .int .i64 0], 77)] w 0 _ rfl
  have HB_0 : Hid (Below w.heap.size w (w.alloc (.cells #[.int .i64 0, .int .i64 0, .int .i64 0] 77))) := allocs_below [(#[.int .i64 0, .int .i64 0, .int .i64 0], 77)] w (Below.refl w.heap.size w) (Nat.le_refl _)
  go_enter Try.func101, Try.ntmps101
  go_wp2_with fail
  go_loopw [10] (fun ii wr => ∃ i : Nat, ii = .int .i64 i ∧ i ≤ l.length ∧ (∀ j (hj : j < l.length), j < i → l[j].p ≠ q) ∧ Blk wr w.heap.size 77 #[.int .i64 0, .int .i64 0, .int .i64 0] ∧ Below w.heap.size w wr) (fun ii _ => l.length - (intOf ii).toNat)
  case atStart => exact ⟨0, rfl, Nat.zero_le _, fun j _ h => absurd h (by omega), R_0.out, HB_0.out⟩
  case round =>
    clear R_0 HB_0
    obtain ⟨i, rfl, hi, hno, hR, hB⟩ := hrel
    have HNO := Lib.hid hno; have HR := Lib.hid hR; have HB := Lib.hid hB; clear hno hR hB
    by_cases hlt : i < l.length
    case neg =>
      obtain rfl : i = l.length := by omega
      have HF : Hid (fnd l q = none) := Lib.hid (fnd_none fun j hj => HNO.out j hj hj)
      clear hlt hi
      have r0 := HR.out.cell (i := 0) (v := .int .i64 0) rfl; have f0 := HR.out.frozen 0
      have r1 := HR.out.cell (i := 1) (v := .int .i64 0) rfl; have f1 := HR.out.frozen 1
      have r2 := HR.out.cell (i := 2) (v := .int .i64 0) rfl; have f2 := HR.out.frozen 2
      go_wp2_with fail
      clear r0 f0 r1 f1 r2 f2
      have HFR := Lib.hid (((HR.out.set 0 (.int .i64 0)).set 1 (.int .i64 0)).set 2 (.int .i64 0))
      have rR0 := HFR.out.cell (i := 0) (v := .int .i64 0) rfl
      have rR1 := HFR.out.cell (i := 1) (v := .int .i64 0) rfl
      have rR2 := HFR.out.cell (i := 2) (v := .int .i64 0) rfl
      exact bodyPost_ret (v := .tuple #[.agg #[.int .i64 0, .int .i64 0, .int .i64 0], .bool false]) (by simp [results, Try.results101, go_sem, rR0, rR1, rR2]) rfl ⟨by rw [HF.out]; rfl, (((HB.out.setCell (p := ⟨w.heap.size, 0, none⟩) (by show w.heap.size ≤ w.heap.size; omega) (.int .i64 0)).setCell (p := ⟨w.heap.size, 1, none⟩) (by show w.heap.size ≤ w.heap.size; omega) (.int .i64 0)).setCell (p := ⟨w.heap.size, 2, none⟩) (by show w.heap.size ≤ w.heap.size; omega) (.int .i64 0))⟩
    case pos =>
      obtain ⟨b, o, rfl⟩ := HA.out.some (by omega)
      obtain ⟨k0, k1, k2⟩ := Kz.cell HA.out HB.out (Nat.le_refl _) hlt
      have HS : Hid (l[i].p = q → fnd l q = some l[i]) := Lib.hid (fun h => fnd_at hlt h HNO.out)
      have HN2 : Hid (¬ l[i].p = q → ∀ j (hj : j < l.length), j < i + 1 → l[j].p ≠ q) := Lib.hid (fun h j hj hji => by
        by_cases e : j = i
        · subst e; exact h
        · exact HNO.out j hj (by omega))
      obtain ⟨s, hs⟩ : ∃ s, s = l[i] := ⟨_, rfl⟩
      rw [← hs] at k0 k1 k2 HS HN2
      obtain ⟨p, lo, hi2⟩ := s
      dsimp only at k0 k1 k2 HS HN2
      have q1 : (0 : Int) ≤ (i : Int) := by omega
      have q2 : (i : Int) < (l.length : Int) := by omega
      have q5 : (i : Int) + 1 ≤ 9223372036854775807 := by omega
      have HI := Lib.hid hlt
      clear hs hlt hi
      have HR2 := Lib.hid (HR.out.alloc (.cells #[.int .i64 p, .int .i64 lo, .int .i64 hi2] 77)); have HB2 := Lib.hid (HB.out.alloc HB.out.size (.cells #[.int .i64 p, .int .i64 lo, .int .i64 hi2] 77))
      have HD := Lib.hid (Blk.new wr 77 #[.int .i64 p, .int .i64 lo, .int .i64 hi2])
      have d0 := HD.out.cell (i := 0) (v := .int .i64 p) rfl; have d1 := HD.out.cell (i := 1) (v := .int .i64 lo) rfl; have d2 := HD.out.cell (i := 2) (v := .int .i64 hi2) rfl
      by_cases hp : p = q
      case pos =>
        have hp2 : (p == q) = true := by simpa using hp
        have HS2 := Lib.hid (HS.out hp); clear hp
        have r0 := HR2.out.cell (i := 0) (v := .int .i64 0) rfl; have f0 := HR2.out.frozen 0
        have r1 := HR2.out.cell (i := 1) (v := .int .i64 0) rfl; have f1 := HR2.out.frozen 1
        have r2 := HR2.out.cell (i := 2) (v := .int .i64 0) rfl; have f2 := HR2.out.frozen 2
        go_wp2_with fail
        clear r0 f0 r1 f1 r2 f2
        have HFR := Lib.hid (((HR2.out.set 0 (.int .i64 p)).set 1 (.int .i64 lo)).set 2 (.int .i64 hi2))
        have rR0 := HFR.out.cell (i := 0) (v := .int .i64 p) rfl
        have rR1 := HFR.out.cell (i := 1) (v := .int .i64 lo) rfl
        have rR2 := HFR.out.cell (i := 2) (v := .int .i64 hi2) rfl
        exact bodyPost_ret (v := .tuple #[.agg #[.int .i64 p, .int .i64 lo, .int .i64 hi2], .bool true]) (by simp [results, Try.results101, go_sem, rR0, rR1, rR2]) rfl ⟨by rw [HS2.out]; rfl, (((HB2.out.setCell (p := ⟨w.heap.size, 0, none⟩) (by show w.heap.size ≤ w.heap.size; omega) (.int .i64 p)).setCell (p := ⟨w.heap.size, 1, none⟩) (by show w.heap.size ≤ w.heap.size; omega) (.int .i64 lo)).setCell (p := ⟨w.heap.size, 2, none⟩) (by show w.heap.size ≤ w.heap.size; omega) (.int .i64 hi2))⟩
      case neg =>
        have hp2 : (p == q) = false := by simpa using hp
        have HN3 := Lib.hid (HN2.out hp); clear hp
        go_wp2_with fail
        go_roundw
        case rel => exact ⟨i + 1, by go_num, HI.out, HN3.out, HR2.out, HB2.out⟩
        case measure => have := HI.out; simp [intOf]; omega
end Go.Proofs.Ytbcgfohacbapoaa
