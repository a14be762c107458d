
/- The contract of Next. Conditions: the slice read. -/
import Derived.Test.YtbcgfohacbapoaaSr6
import Derived.Test.YtbcgfohacbapoaaPo6
namespace Go.Proofs.Ytbcgfohacbapoaa
open Go.RowKit Go.Lib

/-- The time of the new stamp. -/
def nxT (l : List Sm) (c : Int) : Int := l.foldl (fun m s => max m (s.t + 1)) c
theorem nxT_snoc (l : List Sm) (s : Sm) (c : Int) : nxT (l ++ [s]) c = max (nxT l c) (s.t + 1) := by simp [nxT]
theorem nxT_ge : ∀ (l : List Sm) (c : Int), c ≤ nxT l c
  | [], _ => Int.le_refl _
  | s :: r, c => Int.le_trans (Int.le_max_left c (s.t + 1)) (nxT_ge r _)
theorem nxT_mem : ∀ (l : List Sm) (c : Int), ∀ s ∈ l, s.t + 1 ≤ nxT l c
  | x :: r, c, s, h => by
    rcases List.mem_cons.1 h with rfl | h
    · exact Int.le_trans (Int.le_max_right c (s.t + 1)) (nxT_ge r _)
    · exact nxT_mem r _ s h
/-- All that were seen are valid, and the new one, too. -/
def NxOk (l : List Sm) (p n c : Int) : Prop := (∀ s ∈ l, s.ok) ∧ (⟨nxT l c, p, n⟩ : Sm).ok
noncomputable instance (l : List Sm) (p n c : Int) : Decidable (NxOk l p n c) := Classical.propDecidable _
noncomputable def nxR (l : List Sm) (p n c : Int) : Value := if NxOk l p n c then .tuple #[.agg #[.int .i64 (nxT l c), .int .i64 p, .int .i64 n], .int .i64 0] else .tuple #[.agg #[.int .i64 0, .int .i64 0, .int .i64 0], .int .i64 60]
set_option maxRecDepth 100000 in
set_option maxHeartbeats 8000000 in
theorem pnext_any (l : List Sm) (p n c : Int) (A : Option Addr) (d : Nat) (w : World) (hA : Smz w A l) (hz : l.length ≤ 9000000000000000000) :
    Calls Try.prog 46 #[.slice A l.length d, .int .i64 p, .int .i64 n, .int .i64 c] w fun e w' => e = .returned (nxR l p n c) ∧ Below w.heap.size w w' := by
  have HA := Lib.hid hA
  have HNO : Hid (¬ NxOk l p n c → nxR l p n c = .tuple #[.agg #[.int .i64 0, .int .i64 0, .int .i64 0], .int .i64 60]) := Lib.hid (fun h => by unfold nxR; rw [if_neg h])
  have HYES : Hid (NxOk l p n c → nxR l p n c = .tuple #[.agg #[.int .i64 (nxT l c), .int .i64 p, .int .i64 n], .int .i64 0]) := Lib.hid (fun h => by unfold nxR; rw [if_pos h])
  clear hA
  have R_0 : Hid (Blk ((w.alloc (.cells #[.int .i64 0, .int .i64 0, .int .i64 0] 64)).alloc (.cells #[.int .i64 c, .int .i64 p, .int .i64 n] 64)) w.heap.size 64 #[.int .i64 0, .int .i64 0, .int .i64 0]) := allocs_blk [(#[.int .i64 0, .int .i64 0, .int .i64 0], 64), (#[.int .i64 c, .int .i64 p, .int .i64 n], 64)] w 0 _ rfl
  have N_0 : Hid (Blk ((w.alloc (.cells #[.int .i64 0, .int .i64 0, .int .i64 0] 64)).alloc (.cells #[.int .i64 c, .int .i64 p, .int .i64 n] 64)) (w.heap.size + 1) 64 #[.int .i64 c, .int .i64 p, .int .i64 n]) := allocs_blk [(#[.int .i64 0, .int .i64 0, .int .i64 0], 64), (#[.int .i64 c, .int .i64 p, .int .i64 n], 64)] w 1 _ rfl
  have HB_0 : Hid (Below w.heap.size w ((w.alloc (.cells #[.int .i64 0, .int .i64 0, .int .i64 0] 64)).alloc (.cells #[.int .i64 c, .int .i64 p, .int .i64 n] 64))) := allocs_below [(#[.int .i64 0, .int .i64 0, .int .i64 0], 64), (#[.int .i64 c, .int .i64 p, .int .i64 n], 64)] w (Below.refl w.heap.size w) (Nat.le_refl _)
  go_enter Try.func46, Try.ntmps46
  go_wp2_with fail
  have HS0 : Hid (Blk ((w.alloc (.cells #[.int .i64 0, .int .i64 0, .int .i64 0] 64)).alloc (.cells #[.int .i64 c, .int .i64 p, .int .i64 n] 64)) (w.heap.size + 1) 64 #[.int .i64 c, .int .i64 p, .int .i64 n]) := Lib.hid N_0.out
  go_loopw [19] (fun ii wr => ∃ i : Nat, ii = .int .i64 i ∧ i ≤ l.length ∧ (∀ j (hj : j < l.length), j < i → (l[j]).ok) ∧ Blk wr w.heap.size 64 #[.int .i64 0, .int .i64 0, .int .i64 0] ∧ Blk wr (w.heap.size + 1) 64 #[.int .i64 (nxT (l.take i) c), .int .i64 p, .int .i64 n] ∧ Below w.heap.size w wr) (fun ii _ => l.length - (intOf ii).toNat)
  case atStart => exact ⟨0, rfl, Nat.zero_le _, fun j _ h => absurd h (by omega), R_0.out, HS0.out, HB_0.out⟩
  case round =>
    clear R_0 N_0 HB_0 HS0
    obtain ⟨i, rfl, hi, hok, hR, hN, hB⟩ := hrel
    have HOK := Lib.hid hok; have R_1 := Lib.hid hR; have N_1 := Lib.hid hN; have HB_1 := Lib.hid hB; clear hok hR hN hB
    by_cases hlt : i < l.length
    case neg =>
      obtain rfl : i = l.length := by omega
      have HALL : Hid (∀ s ∈ l, s.ok) := Lib.hid (fun s hs => by obtain ⟨j, hj, rfl⟩ := List.getElem_of_mem hs; exact HOK.out j hj hj)
      rw [List.take_length] at N_1
      obtain ⟨m, hm⟩ : ∃ m, m = nxT l c := ⟨_, rfl⟩
      rw [← hm] at N_1
      have HM := Lib.hid hm
      have HV := Lib.hid (fun W => pvalid6_any ⟨m, p, n⟩ W)
      by_cases hv : (⟨m, p, n⟩ : Sm).ok
      case pos =>
        rw [decide_eq_true hv] at HV
        have HE := Lib.hid (HYES.out ⟨HALL.out, by rw [← hm]; exact hv⟩)
        rw [← hm] at HE
        clear hv hm hlt hi
        have yy0 := N_1.out.cell (i := 0) (v := .int .i64 m) rfl; have yy1 := N_1.out.cell (i := 1) (v := .int .i64 p) rfl; have yy2 := N_1.out.cell (i := 2) (v := .int .i64 n) rfl
        go_wp2_with fail
        refine (HV.out _).mono ?_
        rintro e v1 ⟨rfl, hb⟩
        clear yy0 yy1 yy2
        have R_2 : Hid (Blk v1 w.heap.size 64 #[.int .i64 0, .int .i64 0, .int .i64 0]) := Lib.hid (R_1.out.below hb R_1.out.lt)
        have N_2 : Hid (Blk v1 (w.heap.size + 1) 64 #[.int .i64 m, .int .i64 p, .int .i64 n]) := Lib.hid (N_1.out.below hb N_1.out.lt)
        have HB_2 : Hid (Below w.heap.size w v1) := Lib.hid (HB_1.out.trans (hb.mono HB_1.out.size))
        clear hb R_1 N_1 HB_1
        have yy0 := N_2.out.cell (i := 0) (v := .int .i64 m) rfl; have yy1 := N_2.out.cell (i := 1) (v := .int .i64 p) rfl; have yy2 := N_2.out.cell (i := 2) (v := .int .i64 n) rfl
        have r0 := R_2.out.cell (i := 0) (v := .int .i64 0) rfl; have f0 := R_2.out.frozen 0
        have r1 := R_2.out.cell (i := 1) (v := .int .i64 0) rfl; have f1 := R_2.out.frozen 1
        have r2 := R_2.out.cell (i := 2) (v := .int .i64 0) rfl; have f2 := R_2.out.frozen 2
        go_wp2_with fail
        clear r0 f0 r1 f1 r2 f2
        have HFR := Lib.hid (((R_2.out.set 0 (.int .i64 m)).set 1 (.int .i64 p)).set 2 (.int .i64 n))
        have rR0 := HFR.out.cell (i := 0) (v := .int .i64 m) rfl
        have rR1 := HFR.out.cell (i := 1) (v := .int .i64 p) rfl
        have rR2 := HFR.out.cell (i := 2) (v := .int .i64 n) rfl
        exact bodyPost_ret (v := .tuple #[.agg #[.int .i64 m, .int .i64 p, .int .i64 n], .int .i64 0]) (by simp [results, Try.results46, go_sem, rR0, rR1, rR2]) rfl ⟨by rw [HE.out], (((HB_2.out.setCell (p := ⟨w.heap.size, 0, none⟩) (by show w.heap.size ≤ w.heap.size; omega) (.int .i64 m)).setCell (p := ⟨w.heap.size, 1, none⟩) (by show w.heap.size ≤ w.heap.size; omega) (.int .i64 p)).setCell (p := ⟨w.heap.size, 2, none⟩) (by show w.heap.size ≤ w.heap.size; omega) (.int .i64 n))⟩
      case neg =>
        rw [decide_eq_false hv] at HV
        have HE := Lib.hid (HNO.out (fun h => hv (by rw [hm]; exact h.2)))
        clear hv hm hlt hi
        have yy0 := N_1.out.cell (i := 0) (v := .int .i64 m) rfl; have yy1 := N_1.out.cell (i := 1) (v := .int .i64 p) rfl; have yy2 := N_1.out.cell (i := 2) (v := .int .i64 n) rfl
        go_wp2_with fail
        refine (HV.out _).mono ?_
        rintro e v1 ⟨rfl, hb⟩
        clear yy0 yy1 yy2
        have R_2 : Hid (Blk v1 w.heap.size 64 #[.int .i64 0, .int .i64 0, .int .i64 0]) := Lib.hid (R_1.out.below hb R_1.out.lt)
        have N_2 : Hid (Blk v1 (w.heap.size + 1) 64 #[.int .i64 m, .int .i64 p, .int .i64 n]) := Lib.hid (N_1.out.below hb N_1.out.lt)
        have HB_2 : Hid (Below w.heap.size w v1) := Lib.hid (HB_1.out.trans (hb.mono HB_1.out.size))
        clear hb R_1 N_1 HB_1
        have yy0 := N_2.out.cell (i := 0) (v := .int .i64 m) rfl; have yy1 := N_2.out.cell (i := 1) (v := .int .i64 p) rfl; have yy2 := N_2.out.cell (i := 2) (v := .int .i64 n) rfl
        have r0 := R_2.out.cell (i := 0) (v := .int .i64 0) rfl; have f0 := R_2.out.frozen 0
        have r1 := R_2.out.cell (i := 1) (v := .int .i64 0) rfl; have f1 := R_2.out.frozen 1
        have r2 := R_2.out.cell (i := 2) (v := .int .i64 0) rfl; have f2 := R_2.out.frozen 2
        go_wp2_with fail
        clear r0 f0 r1 f1 r2 f2
        have HFR := Lib.hid (((R_2.out.set 0 (.int .i64 0)).set 1 (.int .i64 0)).set 2 (.int .i64 0))
        have rR0 := HFR.out.cell (i := 0) (v := .int .i64 0) rfl
        have rR1 := HFR.out.cell (i := 1) (v := .int .i64 0) rfl
        have rR2 := HFR.out.cell (i := 2) (v := .int .i64 0) rfl
        exact bodyPost_ret (v := .tuple #[.agg #[.int .i64 0, .int .i64 0, .int .i64 0], .int .i64 60]) (by simp [results, Try.results46, go_sem, rR0, rR1, rR2]) rfl ⟨by rw [HE.out], (((HB_2.out.setCell (p := ⟨w.heap.size, 0, none⟩) (by show w.heap.size ≤ w.heap.size; omega) (.int .i64 0)).setCell (p := ⟨w.heap.size, 1, none⟩) (by show w.heap.size ≤ w.heap.size; omega) (.int .i64 0)).setCell (p := ⟨w.heap.size, 2, none⟩) (by show w.heap.size ≤ w.heap.size; omega) (.int .i64 0))⟩
    case pos =>
      obtain ⟨b, o, rfl⟩ := HA.out.some (by omega)
      obtain ⟨k0, k1, k2⟩ := Smz.cell HA.out HB_1.out (Nat.le_refl _) hlt
      have HTK := Lib.hid (take_snoc hlt)
      have HBAD : Hid (¬ (l[i]).ok → ¬ NxOk l p n c) := Lib.hid (fun h hh => h (hh.1 _ (List.getElem_mem hlt)))
      have HGO : Hid ((l[i]).ok → ∀ j (hj : j < l.length), j < i + 1 → (l[j]).ok) := Lib.hid (fun h j hj hji => by
        by_cases e : j = i
        · subst e; exact h
        · exact HOK.out j hj (by omega))
      obtain ⟨s, hs⟩ : ∃ s, s = l[i] := ⟨_, rfl⟩
      rw [← hs] at k0 k1 k2 HTK HBAD HGO
      have q1 : (0 : Int) ≤ (i : Int) := by omega
      have q2 : (i : Int) < (l.length : Int) := by omega
      have q5 : (i : Int) + 1 ≤ 9223372036854775807 := by omega
      have HI := Lib.hid hlt
      obtain ⟨m, hm⟩ : ∃ m, m = nxT (l.take i) c := ⟨_, rfl⟩
      rw [← hm] at N_1
      have HNX : Hid (nxT (l.take (i + 1)) c = max m (s.t + 1)) := Lib.hid (by rw [HTK.out, nxT_snoc, ← hm])
      have HV := Lib.hid (fun W => pvalid6_any s W)
      clear hs hlt hi hm
      have R_2 := Lib.hid (R_1.out.alloc (.cells #[.int .i64 s.t, .int .i64 s.p, .int .i64 s.n] 64)); have N_2 := Lib.hid (N_1.out.alloc (.cells #[.int .i64 s.t, .int .i64 s.p, .int .i64 s.n] 64)); have HB_2 := Lib.hid (HB_1.out.alloc HB_1.out.size (.cells #[.int .i64 s.t, .int .i64 s.p, .int .i64 s.n] 64))
      have D_2 := Lib.hid (Blk.new wr 64 #[.int .i64 s.t, .int .i64 s.p, .int .i64 s.n])
      clear R_1 N_1 HB_1
      by_cases hv : s.ok
      case neg =>
        rw [decide_eq_false hv] at HV
        have HE := Lib.hid (HNO.out (HBAD.out hv)); clear hv
        have yy0 := D_2.out.cell (i := 0) (v := .int .i64 s.t) rfl; have yy1 := D_2.out.cell (i := 1) (v := .int .i64 s.p) rfl; have yy2 := D_2.out.cell (i := 2) (v := .int .i64 s.n) rfl
        go_wp2_with fail
        refine (HV.out _).mono ?_
        rintro e v2 ⟨rfl, hb⟩
        clear k0 k1 k2
        clear yy0 yy1 yy2
        have R_3 : Hid (Blk v2 w.heap.size 64 #[.int .i64 0, .int .i64 0, .int .i64 0]) := Lib.hid (R_2.out.below hb R_2.out.lt)
        have N_3 : Hid (Blk v2 (w.heap.size + 1) 64 #[.int .i64 m, .int .i64 p, .int .i64 n]) := Lib.hid (N_2.out.below hb N_2.out.lt)
        have D_3 : Hid (Blk v2 wr.heap.size 64 #[.int .i64 s.t, .int .i64 s.p, .int .i64 s.n]) := Lib.hid (D_2.out.below hb D_2.out.lt)
        have HB_3 : Hid (Below w.heap.size w v2) := Lib.hid (HB_2.out.trans (hb.mono HB_2.out.size))
        clear hb R_2 N_2 D_2 HB_2
        have r0 := R_3.out.cell (i := 0) (v := .int .i64 0) rfl; have f0 := R_3.out.frozen 0
        have r1 := R_3.out.cell (i := 1) (v := .int .i64 0) rfl; have f1 := R_3.out.frozen 1
        have r2 := R_3.out.cell (i := 2) (v := .int .i64 0) rfl; have f2 := R_3.out.frozen 2
        go_wp2_with fail
        clear r0 f0 r1 f1 r2 f2
        have HFR := Lib.hid (((R_3.out.set 0 (.int .i64 0)).set 1 (.int .i64 0)).set 2 (.int .i64 0))
        have rR0 := HFR.out.cell (i := 0) (v := .int .i64 0) rfl
        have rR1 := HFR.out.cell (i := 1) (v := .int .i64 0) rfl
        have rR2 := HFR.out.cell (i := 2) (v := .int .i64 0) rfl
        exact bodyPost_ret (v := .tuple #[.agg #[.int .i64 0, .int .i64 0, .int .i64 0], .int .i64 60]) (by simp [results, Try.results46, go_sem, rR0, rR1, rR2]) rfl ⟨by rw [HE.out], (((HB_3.out.setCell (p := ⟨w.heap.size, 0, none⟩) (by show w.heap.size ≤ w.heap.size; omega) (.int .i64 0)).setCell (p := ⟨w.heap.size, 1, none⟩) (by show w.heap.size ≤ w.heap.size; omega) (.int .i64 0)).setCell (p := ⟨w.heap.size, 2, none⟩) (by show w.heap.size ≤ w.heap.size; omega) (.int .i64 0))⟩
      case pos =>
        rw [decide_eq_true hv] at HV
        have HG2 := Lib.hid (HGO.out hv)
        unfold Sm.ok at hv
        obtain ⟨u, hu⟩ : ∃ u, u = s.t + 1 := ⟨_, rfl⟩
        have e1 : IntKind.i64.wrap (s.t + 1) = u := by rw [hu]; exact IntWalk.i64_in _ (by omega)
        obtain ⟨m2, hm2⟩ : ∃ m2, m2 = max m u := ⟨_, rfl⟩
        have hmx : ∀ (ts : Array TypeId) (t : TypeId) (w : World), (Builtin.max_ ts t #[.int .i64 m, .int .i64 u]).run Try.prog w = .ok (.int .i64 m2) w := fun ts t w => by rw [run_max6, hm2]
        rw [← hu, ← hm2] at HNX
        clear hv hu hm2
        have yy0 := D_2.out.cell (i := 0) (v := .int .i64 s.t) rfl; have yy1 := D_2.out.cell (i := 1) (v := .int .i64 s.p) rfl; have yy2 := D_2.out.cell (i := 2) (v := .int .i64 s.n) rfl
        go_wp2_with fail
        refine (HV.out _).mono ?_
        rintro e v2 ⟨rfl, hb⟩
        clear k0 k1 k2
        clear yy0 yy1 yy2
        have R_3 : Hid (Blk v2 w.heap.size 64 #[.int .i64 0, .int .i64 0, .int .i64 0]) := Lib.hid (R_2.out.below hb R_2.out.lt)
        have N_3 : Hid (Blk v2 (w.heap.size + 1) 64 #[.int .i64 m, .int .i64 p, .int .i64 n]) := Lib.hid (N_2.out.below hb N_2.out.lt)
        have D_3 : Hid (Blk v2 wr.heap.size 64 #[.int .i64 s.t, .int .i64 s.p, .int .i64 s.n]) := Lib.hid (D_2.out.below hb D_2.out.lt)
        have HB_3 : Hid (Below w.heap.size w v2) := Lib.hid (HB_2.out.trans (hb.mono HB_2.out.size))
        clear hb R_2 N_2 D_2 HB_2
        have yy0 := D_3.out.cell (i := 0) (v := .int .i64 s.t) rfl; have yy1 := D_3.out.cell (i := 1) (v := .int .i64 s.p) rfl; have yy2 := D_3.out.cell (i := 2) (v := .int .i64 s.n) rfl
        have n0 := N_3.out.cell (i := 0) (v := .int .i64 m) rfl; have nf := N_3.out.frozen 0
        go_wp2_with fail
        clear n0 nf
        go_roundw
        case rel =>
          refine ⟨i + 1, by go_num, HI.out, HG2.out, ?_, ?_, ?_⟩
          · exact R_3.out.far (p := ⟨w.heap.size + 1, 0, none⟩) (by show w.heap.size ≠ w.heap.size + 1; omega) _
          · rw [HNX.out]; exact N_3.out.set 0 _
          · exact HB_3.out.setCell (p := ⟨w.heap.size + 1, 0, none⟩) (by show w.heap.size ≤ w.heap.size + 1; omega) _
        case measure => have := HI.out; simp [intOf]; omega
end Go.Proofs.Ytbcgfohacbapoaa
