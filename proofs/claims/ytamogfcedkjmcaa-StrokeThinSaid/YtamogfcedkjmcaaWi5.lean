
/- The contract of Within: a loop over pieces that returns. Conditions: the slices read. -/
import Derived.Test.YtamogfcedkjmcaaWy5
import Derived.Test.YtamogfcedkjmcaaBt5
namespace Go.Proofs.Ytamogfcedkjmcaa
open Go.RowKit Go.Shelf Go.Lib
attribute [local go_sem] Oper.semAt_some

def NearPc (px py z : Int) (x : Pc) : Prop := NearP x.1.1 x.1.2 x.2.1 x.2.2 px py z
instance (px py z : Int) (x : Pc) : Decidable (NearPc px py z x) := by unfold NearPc; infer_instance
theorem nearP_point {ax ay bx by_ px py z : Int} (ha : OnP ax ay) (h : NearP bx by_ bx by_ px py z) : NearP ax ay bx by_ px py z := by
  obtain ⟨h1, _, h3, h4, h5⟩ := h
  refine ⟨ha, h1, h3, h4, .inr (.inl ?_)⟩
  rcases h5 with h | h | h
  · exact h
  · exact h
  · exact absurd (sqd_self bx by_) (fun h6 => h.1 (.inr (.inr h6)))
theorem within_iff {P N : Int} {ds : List Dt} {px py z : Int} (hv : Vd P N ds) : WithinP P N ds px py z ↔ ∃ k, k < pcN ds ∧ NearPc px py z (pcAt ds k) := by
  have hl := hv.2.2.1
  have hseg : ∀ i, i < ds.length → (NearSeg ds px py z i ↔ NearPc px py z (pcAt ds i)) := fun i hi => by
    have h2 : min (i + 1) (ds.length - 1) < ds.length := by omega
    unfold NearSeg NearPc pcAt
    rw [dtAt_eq hi, dtAt_eq h2]
    constructor
    · rintro ⟨d, e, h3, h4, h5⟩
      rw [List.getElem?_eq_getElem hi, Option.some.injEq] at h3
      rw [List.getElem?_eq_getElem h2, Option.some.injEq] at h4
      subst h3; subst h4; exact h5
    · intro h5
      exact ⟨_, _, List.getElem?_eq_getElem hi, List.getElem?_eq_getElem h2, h5⟩
  constructor
  · rintro ⟨_, i, hi, h⟩
    by_cases h1 : i < pcN ds
    · exact ⟨i, h1, (hseg i hi).1 h⟩
    · have h2 : i = ds.length - 1 ∧ 2 ≤ ds.length := by unfold pcN at h1; omega
      refine ⟨ds.length - 2, by unfold pcN; omega, ?_⟩
      have h3 := (hseg i hi).1 h
      have hon : OnP (dtAt ds (ds.length - 2)).x (dtAt ds (ds.length - 2)).y := by
        rw [dtAt_eq (show ds.length - 2 < ds.length by omega)]
        exact (hv.mem _ (List.getElem_mem _)).1
      unfold NearPc pcAt at h3 ⊢
      rw [h2.1, show min (ds.length - 1 + 1) (ds.length - 1) = ds.length - 1 from by omega] at h3
      rw [show min (ds.length - 2 + 1) (ds.length - 1) = ds.length - 1 from by omega]
      exact nearP_point hon h3
  · rintro ⟨k, hk, h⟩
    have hk2 : k < ds.length := by unfold pcN at hk; omega
    exact ⟨hv, k, hk2, (hseg k hk2).2 h⟩
set_option maxRecDepth 100000 in
set_option maxHeartbeats 4000000 in
theorem pwithin_no (P N : Int) (ds : List Dt) (A : Option Addr) (c : Nat) (px py z : Int) (w : World) (hA : Dz w A ds) (hz : ds.length ≤ 9000000000000000000) (hv : ¬ Vd P N ds) :
    Calls Try.prog 31 #[.agg #[.int .i64 P, .int .i64 N, .slice A ds.length c], .agg #[.int .i64 px, .int .i64 py], .int .i64 z] w fun e w' => e = .returned (.bool false) ∧ Below w.heap.size w w' := by
  have HV := Lib.hid (fun W (hb : Below w.heap.size w W) => pvalid_not P N ds A c W (hA.below hb (Nat.le_refl _)) hz hv)
  clear hA hz hv
  have S_0 : Hid (Blk ((((w.alloc (.cells #[.int .i64 P, .int .i64 N, .slice A ds.length c] 27)).alloc (.cells #[.int .i64 px, .int .i64 py] 29)).alloc (.cells #[.int .i64 z] 3)).alloc (.cells #[.bool false] 4)) w.heap.size 27 #[.int .i64 P, .int .i64 N, .slice A ds.length c]) := allocs_blk [(#[.int .i64 P, .int .i64 N, .slice A ds.length c], 27), (#[.int .i64 px, .int .i64 py], 29), (#[.int .i64 z], 3), (#[.bool false], 4)] w 0 _ rfl
  have Q_0 : Hid (Blk ((((w.alloc (.cells #[.int .i64 P, .int .i64 N, .slice A ds.length c] 27)).alloc (.cells #[.int .i64 px, .int .i64 py] 29)).alloc (.cells #[.int .i64 z] 3)).alloc (.cells #[.bool false] 4)) (w.heap.size + 1) 29 #[.int .i64 px, .int .i64 py]) := allocs_blk [(#[.int .i64 P, .int .i64 N, .slice A ds.length c], 27), (#[.int .i64 px, .int .i64 py], 29), (#[.int .i64 z], 3), (#[.bool false], 4)] w 1 _ rfl
  have T_0 : Hid (Blk ((((w.alloc (.cells #[.int .i64 P, .int .i64 N, .slice A ds.length c] 27)).alloc (.cells #[.int .i64 px, .int .i64 py] 29)).alloc (.cells #[.int .i64 z] 3)).alloc (.cells #[.bool false] 4)) (w.heap.size + 2) 3 #[.int .i64 z]) := allocs_blk [(#[.int .i64 P, .int .i64 N, .slice A ds.length c], 27), (#[.int .i64 px, .int .i64 py], 29), (#[.int .i64 z], 3), (#[.bool false], 4)] w 2 _ rfl
  have R_0 : Hid (Blk ((((w.alloc (.cells #[.int .i64 P, .int .i64 N, .slice A ds.length c] 27)).alloc (.cells #[.int .i64 px, .int .i64 py] 29)).alloc (.cells #[.int .i64 z] 3)).alloc (.cells #[.bool false] 4)) (w.heap.size + 3) 4 #[.bool false]) := allocs_blk [(#[.int .i64 P, .int .i64 N, .slice A ds.length c], 27), (#[.int .i64 px, .int .i64 py], 29), (#[.int .i64 z], 3), (#[.bool false], 4)] w 3 _ rfl
  have HB_0 : Hid (Below w.heap.size w ((((w.alloc (.cells #[.int .i64 P, .int .i64 N, .slice A ds.length c] 27)).alloc (.cells #[.int .i64 px, .int .i64 py] 29)).alloc (.cells #[.int .i64 z] 3)).alloc (.cells #[.bool false] 4))) := allocs_below [(#[.int .i64 P, .int .i64 N, .slice A ds.length c], 27), (#[.int .i64 px, .int .i64 py], 29), (#[.int .i64 z], 3), (#[.bool false], 4)] w (Below.refl w.heap.size w) (Nat.le_refl _)
  have s0 := S_0.out.cell (i := 0) (v := .int .i64 P) rfl; have s1 := S_0.out.cell (i := 1) (v := .int .i64 N) rfl; have s2 := S_0.out.cell (i := 2) (v := .slice A ds.length c) rfl
  refine (callsIn_wide (n := 8)).1 ?_
  refine callsIn_of_wp_marks Try.func31 rfl trivial ?_ rfl
  simp only [Try.ntmps31, List.size_toArray, List.length_cons, List.length_nil, Nat.reduceAdd, Nat.reduceSub, Array.replicate_succ, Array.replicate_zero, List.push_toArray, List.append_toArray, List.nil_append, List.cons_append]
  gi_wp2_with (refine ⟨trivial, ?_⟩; gi_at_call 20; refine (callsIn_wide.2 (HV.out _ HB_0.out)).mono ?_; rintro e v0 ⟨rfl, hb⟩; have hR := R_0.out.below hb R_0.out.lt; have r0 := hR.cell (i := 0) (v := .bool false) rfl; have rf := hR.frozen 0)
  have hc := (hR.set 0 (.bool false)).cell (i := 0) (v := .bool false) rfl
  exact ⟨.bool false, by simp [results, Try.results31, go_sem, hc], rfl, (HB_0.out.trans (hb.mono HB_0.out.size)).setCell (p := ⟨w.heap.size + 3, 0, none⟩) (by show w.heap.size ≤ w.heap.size + 3; omega) _⟩
set_option maxRecDepth 100000 in
set_option maxHeartbeats 4000000 in
theorem pwithin_yes (P N : Int) (ds : List Dt) (A : Option Addr) (c : Nat) (px py z : Int) (w : World) (hA : Dz w A ds) (hz : ds.length ≤ 9000000000000000000) (hv : Vd P N ds) :
    Calls Try.prog 31 #[.agg #[.int .i64 P, .int .i64 N, .slice A ds.length c], .agg #[.int .i64 px, .int .i64 py], .int .i64 z] w fun e w' => e = .returned (.bool (decide (WithinP P N ds px py z))) ∧ Below w.heap.size w w' := by
  have hl := hv.2.2.1
  have hbl : ∃ b o, A = some ⟨b, o, none⟩ ∧ b < w.heap.size := by obtain ⟨b, o, h1, h2, -⟩ := hA (by omega); exact ⟨b, o, h1, h2⟩
  obtain ⟨b, o, rfl, hbw⟩ := hbl
  have HAT := Lib.hid hA.at
  have HV := Lib.hid (fun W (hb : Below w.heap.size w W) => pvalid_yes P N ds _ c W (hA.below hb (Nat.le_refl _)) hz hv)
  have HOK := Lib.hid hv.mem; have HL := Lib.hid hl; have HBW := Lib.hid hbw
  have HWI := Lib.hid (within_iff (px := px) (py := py) (z := z) hv)
  clear hA hz hv hl hbw
  have S_0 : Hid (Blk ((((w.alloc (.cells #[.int .i64 P, .int .i64 N, .slice (some ⟨b, o, none⟩) ds.length c] 27)).alloc (.cells #[.int .i64 px, .int .i64 py] 29)).alloc (.cells #[.int .i64 z] 3)).alloc (.cells #[.bool false] 4)) w.heap.size 27 #[.int .i64 P, .int .i64 N, .slice (some ⟨b, o, none⟩) ds.length c]) := allocs_blk [(#[.int .i64 P, .int .i64 N, .slice (some ⟨b, o, none⟩) ds.length c], 27), (#[.int .i64 px, .int .i64 py], 29), (#[.int .i64 z], 3), (#[.bool false], 4)] w 0 _ rfl
  have Q_0 : Hid (Blk ((((w.alloc (.cells #[.int .i64 P, .int .i64 N, .slice (some ⟨b, o, none⟩) ds.length c] 27)).alloc (.cells #[.int .i64 px, .int .i64 py] 29)).alloc (.cells #[.int .i64 z] 3)).alloc (.cells #[.bool false] 4)) (w.heap.size + 1) 29 #[.int .i64 px, .int .i64 py]) := allocs_blk [(#[.int .i64 P, .int .i64 N, .slice (some ⟨b, o, none⟩) ds.length c], 27), (#[.int .i64 px, .int .i64 py], 29), (#[.int .i64 z], 3), (#[.bool false], 4)] w 1 _ rfl
  have T_0 : Hid (Blk ((((w.alloc (.cells #[.int .i64 P, .int .i64 N, .slice (some ⟨b, o, none⟩) ds.length c] 27)).alloc (.cells #[.int .i64 px, .int .i64 py] 29)).alloc (.cells #[.int .i64 z] 3)).alloc (.cells #[.bool false] 4)) (w.heap.size + 2) 3 #[.int .i64 z]) := allocs_blk [(#[.int .i64 P, .int .i64 N, .slice (some ⟨b, o, none⟩) ds.length c], 27), (#[.int .i64 px, .int .i64 py], 29), (#[.int .i64 z], 3), (#[.bool false], 4)] w 2 _ rfl
  have R_0 : Hid (Blk ((((w.alloc (.cells #[.int .i64 P, .int .i64 N, .slice (some ⟨b, o, none⟩) ds.length c] 27)).alloc (.cells #[.int .i64 px, .int .i64 py] 29)).alloc (.cells #[.int .i64 z] 3)).alloc (.cells #[.bool false] 4)) (w.heap.size + 3) 4 #[.bool false]) := allocs_blk [(#[.int .i64 P, .int .i64 N, .slice (some ⟨b, o, none⟩) ds.length c], 27), (#[.int .i64 px, .int .i64 py], 29), (#[.int .i64 z], 3), (#[.bool false], 4)] w 3 _ rfl
  have HB_0 : Hid (Below w.heap.size w ((((w.alloc (.cells #[.int .i64 P, .int .i64 N, .slice (some ⟨b, o, none⟩) ds.length c] 27)).alloc (.cells #[.int .i64 px, .int .i64 py] 29)).alloc (.cells #[.int .i64 z] 3)).alloc (.cells #[.bool false] 4))) := allocs_below [(#[.int .i64 P, .int .i64 N, .slice (some ⟨b, o, none⟩) ds.length c], 27), (#[.int .i64 px, .int .i64 py], 29), (#[.int .i64 z], 3), (#[.bool false], 4)] w (Below.refl w.heap.size w) (Nat.le_refl _)
  have s0 := S_0.out.cell (i := 0) (v := .int .i64 P) rfl; have s1 := S_0.out.cell (i := 1) (v := .int .i64 N) rfl; have s2 := S_0.out.cell (i := 2) (v := .slice (some ⟨b, o, none⟩) ds.length c) rfl
  refine (callsIn_wide (n := 8)).1 ?_
  refine callsIn_of_wp_marks Try.func31 rfl trivial ?_ rfl
  simp only [Try.ntmps31, List.size_toArray, List.length_cons, List.length_nil, Nat.reduceAdd, Nat.reduceSub, Array.replicate_succ, Array.replicate_zero, List.push_toArray, List.append_toArray, List.nil_append, List.cons_append]
  gi_wp2_with (first
    | (refine ⟨trivial, ?_⟩; gi_at_call 20; refine (callsIn_wide.2 (HV.out _ HB_0.out)).mono ?_; rintro e v0 ⟨rfl, hb⟩; have S_1 := Lib.hid (S_0.out.below hb S_0.out.lt); have Q_1 := Lib.hid (Q_0.out.below hb Q_0.out.lt); have T_1 := Lib.hid (T_0.out.below hb T_0.out.lt); have R_1 := Lib.hid (R_0.out.below hb R_0.out.lt); have HB_1 := Lib.hid (HB_0.out.trans (hb.mono HB_0.out.size)); have LS := Lib.hid R_1.out.lt; clear s0 s1 s2 hb; have s0 := S_1.out.cell (i := 0) (v := .int .i64 P) rfl; have s1 := S_1.out.cell (i := 1) (v := .int .i64 N) rfl; have s2 := S_1.out.cell (i := 2) (v := .slice (some ⟨b, o, none⟩) ds.length c) rfl)
    | (refine ⟨trivial, ?_⟩; gi_at_call 44; refine (pieces_in _ P N ds _ c HL.out _).mono ?_; rintro e w1 ⟨rfl, rfl⟩))
  clear s0 s1 s2
  have hb0 : Below w.heap.size w ((v0.alloc (.cells #[.int .i64 P, .int .i64 N, .slice (some ⟨b, o, none⟩) ds.length c] 27)).alloc (.cells #[.int .i64 ((ds.length - 1 : Nat) : Int)] 3)) := ((HB_1.out.alloc HB_1.out.size _).alloc (by have := HB_1.out.size; simp; omega) _)
  have hk0 : Blk ((v0.alloc (.cells #[.int .i64 P, .int .i64 N, .slice (some ⟨b, o, none⟩) ds.length c] 27)).alloc (.cells #[.int .i64 ((ds.length - 1 : Nat) : Int)] 3)) (w.heap.size + 3) 4 #[.bool false] := (R_1.out.alloc _).alloc _
  have hq0 : Blk ((v0.alloc (.cells #[.int .i64 P, .int .i64 N, .slice (some ⟨b, o, none⟩) ds.length c] 27)).alloc (.cells #[.int .i64 ((ds.length - 1 : Nat) : Int)] 3)) (w.heap.size + 1) 29 #[.int .i64 px, .int .i64 py] := (Q_1.out.alloc _).alloc _
  have ht0 : Blk ((v0.alloc (.cells #[.int .i64 P, .int .i64 N, .slice (some ⟨b, o, none⟩) ds.length c] 27)).alloc (.cells #[.int .i64 ((ds.length - 1 : Nat) : Int)] 3)) (w.heap.size + 2) 3 #[.int .i64 z] := (T_1.out.alloc _).alloc _
  have hk1 : Blk ((v0.alloc (.cells #[.int .i64 P, .int .i64 N, .slice (some ⟨b, o, none⟩) ds.length c] 27)).alloc (.cells #[.int .i64 ((ds.length - 1 : Nat) : Int)] 3)) v0.heap.size 27 #[.int .i64 P, .int .i64 N, .slice (some ⟨b, o, none⟩) ds.length c] := (Blk.new v0 _ _).alloc _
  have hk2 : Blk ((v0.alloc (.cells #[.int .i64 P, .int .i64 N, .slice (some ⟨b, o, none⟩) ds.length c] 27)).alloc (.cells #[.int .i64 ((ds.length - 1 : Nat) : Int)] 3)) (v0.heap.size + 1) 3 #[.int .i64 ((ds.length - 1 : Nat) : Int)] := by have h := Blk.new (v0.alloc (.cells #[.int .i64 P, .int .i64 N, .slice (some ⟨b, o, none⟩) ds.length c] 27)) 3 #[.int .i64 ((ds.length - 1 : Nat) : Int)]; rwa [World.size_alloc] at h
  have hsz : ((v0.alloc (.cells #[.int .i64 P, .int .i64 N, .slice (some ⟨b, o, none⟩) ds.length c] 27)).alloc (.cells #[.int .i64 ((ds.length - 1 : Nat) : Int)] 3)).heap.size = v0.heap.size + 2 := by simp
  obtain ⟨W0, hW0⟩ : ∃ W0, (v0.alloc (.cells #[.int .i64 P, .int .i64 N, .slice (some ⟨b, o, none⟩) ds.length c] 27)).alloc (.cells #[.int .i64 ((ds.length - 1 : Nat) : Int)] 3) = W0 := ⟨_, rfl⟩
  rw [hW0] at hb0 hk0 hq0 ht0 hk1 hk2 hsz ⊢
  have hvw : w.heap.size + 3 < v0.heap.size := LS.out
  have hpc : PcC W0 (v0.heap.size + 1) v0.heap.size ds b o c := ⟨hk2.cell (i := 0) rfl, hk1.cell (i := 2) rfl, fun i hi => by have h := HAT.out W0 hb0 i hi; rwa [← dtAt_eq hi] at h⟩
  have hbv := HBW.out
  clear hW0 hk1 hk2 S_0 S_1 Q_0 Q_1 T_0 T_1 R_0 R_1 HB_0 HB_1 LS
  refine wpIn_rangeFunc_ownH rfl (by omega) (gf := 61) (lb := #[.pointer (some ⟨v0.heap.size + 1, 0, none⟩), .pointer (some ⟨v0.heap.size, 0, none⟩)]) rfl trivial (enters_of Try.func61 (by kernel_rfl) rfl)
    (pieces_stops (8 - 1) (w.heap.size + 3) (v0.heap.size + 1) v0.heap.size b o c ds HL.out W0 (v0.heap.size + 2) (by omega) ⟨by omega, by omega⟩ ⟨by omega, by omega⟩ ⟨by omega, by omega⟩ hpc) (fun h k => h.trans k) (KpX.put (by omega)) (Below.refl _ _) (fun _ => rfl)
    (fun pre W => (((Blk W (w.heap.size + 3) 4 #[.bool false] ∧ Blk W (w.heap.size + 1) 29 #[.int .i64 px, .int .i64 py]) ∧ Blk W (w.heap.size + 2) 3 #[.int .i64 z]) ∧ (W0.heap.size ≤ W.heap.size ∧ ∀ x ∈ pre, ¬ NearPc px py z x)) ∧ Below w.heap.size w W)
    (fun c pre W => ((c = .ret ∧ ∃ x ∈ pre, NearPc px py z x) ∧ Blk W (w.heap.size + 3) 4 #[.bool true]) ∧ Below w.heap.size w W)
    (OwnFrom.and (OwnFrom.and (OwnFrom.and (OwnFrom.and (Own.from (blk_own _ _ _) _) (Own.from (blk_own _ _ _) _)) (Own.from (blk_own _ _ _) _)) (fun _ X Y row hs hg _ => ⟨Nat.le_trans hs.1 hg.size, hs.2⟩)) (ownFrom_below (Nat.le_refl _) (by omega)))
    (fun _ => OwnFrom.and (OwnFrom.and (fun _ _ _ _ hs _ _ => hs) (Own.from (blk_own _ _ _) _)) (ownFrom_below (Nat.le_refl _) (by omega)))
    ⟨⟨⟨⟨hk0, hq0⟩, ht0⟩, Nat.le_refl _, fun x hx => by cases hx⟩, hb0⟩
    (fun x a' W => ∃ Ba Bb, (v0.heap.size + 1 < Ba ∧ v0.heap.size + 1 < Bb) ∧ Blk W Ba 29 #[.int .i64 x.1.1, .int .i64 x.1.2] ∧ Blk W Bb 29 #[.int .i64 x.2.1, .int .i64 x.2.2] ∧ a' = { tmps := #[.agg #[.int .i64 P, .int .i64 N, .slice (some ⟨b, o, none⟩) ds.length c], .agg #[.int .i64 px, .int .i64 py], .int .i64 z, .pointer (some ⟨w.heap.size, 0, none⟩), .pointer (some ⟨w.heap.size + 1, 0, none⟩), .pointer (some ⟨w.heap.size + 2, 0, none⟩), .pointer (some ⟨w.heap.size + 3, 0, none⟩), .pointer (some ⟨Ba, 0, none⟩), .pointer (some ⟨Bb, 0, none⟩), .agg #[.int .i64 P, .int .i64 N, .slice (some ⟨b, o, none⟩) ds.length c], .bool true, .bool false, .agg #[.int .i64 P, .int .i64 N, .slice (some ⟨b, o, none⟩) ds.length c], .func (.func 61) #[] #[.pointer (some ⟨v0.heap.size + 1, 0, none⟩), .pointer (some ⟨v0.heap.size, 0, none⟩)], .agg #[.int .i64 x.1.1, .int .i64 x.1.2], .agg #[.int .i64 x.2.1, .int .i64 x.2.2], undef, undef, undef, undef, undef], defers := [] })
    (fun x a' _ X Y row hs hg hr => by
      obtain ⟨Ba, Bb, h1, h2, h3, h4⟩ := hs
      exact ⟨Ba, Bb, h1, blk_own Ba 29 (fun (_ : Unit) => #[.int .i64 x.1.1, .int .i64 x.1.2]) () X Y row h2 hg (fun r e => (hr r e).2), blk_own Bb 29 (fun (_ : Unit) => #[.int .i64 x.2.1, .int .i64 x.2.2]) () X Y row h3 hg (fun r e => (hr r e).2), h4⟩)
    ?assign ?body ?done ?stop
  case assign =>
    rintro l pre x W K ⟨⟨⟨⟨bR, bQ⟩, bT⟩, hLW, hno⟩, hB⟩ hK
    gi_wp2
    have hl3 : v0.heap.size + 2 ≤ W.heap.size := by omega
    exact hK _ _ (((KeepsOthers.alloc _ _).trans (KeepsOthers.alloc _ _)).from _) (KpX.of_below (((Below.refl _ W).alloc (Nat.le_refl _) _).alloc (by simp) _) hl3) ⟨⟨⟨⟨(bR.alloc _).alloc _, (bQ.alloc _).alloc _⟩, (bT.alloc _).alloc _⟩, by simp; omega, hno⟩, (hB.alloc hB.size _).alloc (by have := hB.size; simp; omega) _⟩ ⟨W.heap.size, W.heap.size + 1, ⟨by omega, by omega⟩, (Blk.new W _ _).alloc _, by have h := Blk.new (W.alloc (.cells #[.int .i64 x.1.1, .int .i64 x.1.2] 29)) 29 #[.int .i64 x.2.1, .int .i64 x.2.2]; rwa [World.size_alloc] at h, rfl⟩
  case body =>
    rintro l pre x a' W hl ⟨r, hr⟩ ⟨⟨⟨⟨bR, bQ⟩, bT⟩, hLW, hno⟩, hB⟩ ⟨Ba, Bb, ⟨hBa, hBb⟩, kA, kB, rfl⟩ hlt
    have a0 := kA.cell (i := 0) (v := .int .i64 x.1.1) rfl; have a1 := kA.cell (i := 1) (v := .int .i64 x.1.2) rfl; have b0 := kB.cell (i := 0) (v := .int .i64 x.2.1) rfl; have b1 := kB.cell (i := 1) (v := .int .i64 x.2.2) rfl
    have q0 := bQ.cell (i := 0) (v := .int .i64 px) rfl; have q1 := bQ.cell (i := 1) (v := .int .i64 py) rfl; have t0 := bT.cell (i := 0) (v := .int .i64 z) rfl
    have hnear := pnear_any x.1.1 x.1.2 x.2.1 x.2.2 px py z W
    by_cases hx : NearPc px py z x
    case pos =>
      rw [decide_eq_true (show NearP x.1.1 x.1.2 x.2.1 x.2.2 px py z from hx)] at hnear
      have HPD := Lib.hid hnear; clear hnear
      gi_wp2_with (refine ⟨trivial, ?_⟩; gi_at_call 37; refine (CallsIn.inRound l (callsIn_wide.2 HPD.out)).mono ?_; rintro e v1 ⟨rfl, hb1⟩; have hR2 := bR.below hb1 bR.lt; have y0 := hR2.cell (i := 0) (v := .bool false) rfl; have y1 := hR2.frozen 0)
      exact ⟨(keeps_of_below hb1).trans ((KeepsOthers.setCell _ _ _).from _), ⟨⟨rfl, x, by simp, hx⟩, hR2.set 0 _⟩, (hB.trans (hb1.mono hB.size)).setCell (p := ⟨w.heap.size + 3, 0, none⟩) (by show w.heap.size ≤ w.heap.size + 3; omega) _⟩
    case neg =>
      rw [decide_eq_false (show ¬ NearP x.1.1 x.1.2 x.2.1 x.2.2 px py z from hx)] at hnear
      have HPD := Lib.hid hnear; clear hnear
      gi_wp2_with (refine ⟨trivial, ?_⟩; gi_at_call 37; refine (CallsIn.inRound l (callsIn_wide.2 HPD.out)).mono ?_; rintro e v1 ⟨rfl, hb1⟩)
      have hz1 := hb1.size
      refine ⟨keeps_of_below hb1, KpX.of_below hb1 (by omega), ⟨⟨⟨bR.below hb1 bR.lt, bQ.below hb1 bQ.lt⟩, bT.below hb1 bT.lt⟩, by omega, fun y hy => ?_⟩, hB.trans (hb1.mono hB.size)⟩
      rcases List.mem_append.1 hy with hy | hy
      · exact hno y hy
      · rw [List.mem_singleton] at hy; rw [hy]; exact hx
  case done =>
    rintro D ys W hD rfl ⟨⟨⟨⟨bR, bQ⟩, bT⟩, hLW, hno⟩, hB⟩ hK
    have y0 := bR.cell (i := 0) (v := .bool false) rfl
    have y1 := bR.frozen 0
    have HR : Hid (decide (WithinP P N ds px py z) = false) := Lib.hid (decide_eq_false fun h => by
      obtain ⟨k, hk, h2⟩ := HWI.out.1 h
      exact hno _ (by unfold pcs; exact List.mem_map.2 ⟨k, List.mem_range.2 hk, rfl⟩) h2)
    gi_wp2
    have hK' := (KeepsOthers.setCell W ⟨w.heap.size + 3, 0, none⟩ (.bool false)).same D _ hK rfl
    refine ⟨by simp, .inl ⟨_, _, rfl, run_takeDeferred hK', ?_⟩⟩
    have hc5 := cell_kept ((bR.set 0 (.bool false)).cell (i := 0) (v := .bool false) rfl) (grownBy_putObj' _ D (.deferred none)) (fun r e => by cases e; exact ⟨_, hK', rfl⟩)
    refine ⟨.bool false, ?_, by rw [HR.out], (hB.setCell (p := ⟨w.heap.size + 3, 0, none⟩) (by show w.heap.size ≤ w.heap.size + 3; omega) _).trans (belowK_b (w := w) (Nat.le_refl _) _ D _ _ (by omega) hK' rfl rfl)⟩
    simp [results, Try.results31, go_sem, hc5]
  case stop =>
    rintro D c2 pre W hD ⟨k, hk, rfl⟩ ⟨⟨⟨rfl, x, hxm, hx⟩, bR⟩, hB⟩ hK
    have HR : Hid (decide (WithinP P N ds px py z) = true) := Lib.hid (decide_eq_true (HWI.out.2 (by
      unfold pcs at hxm
      obtain ⟨i, hi, rfl⟩ := List.mem_map.1 hxm
      exact ⟨i, by have := List.mem_range.1 hi; omega, hx⟩)))
    have hcr := bR.cell (i := 0) (v := .bool true) rfl
    gi_wp2
    refine ⟨by simp, .inl ⟨_, _, rfl, run_takeDeferred hK, ?_⟩⟩
    have hc5 := cell_kept hcr (grownBy_putObj' _ D (.deferred none)) (fun r e => by cases e; exact ⟨_, hK, rfl⟩)
    refine ⟨.bool true, ?_, by rw [HR.out], hB.trans (belowK_b (w := w) (Nat.le_refl _) W D _ _ (by omega) hK rfl rfl)⟩
    simp [results, Try.results31, go_sem, hc5]
theorem pwithin_any (P N : Int) (ds : List Dt) (A : Option Addr) (c : Nat) (px py z : Int) (w : World) (hA : Dz w A ds) (hz : ds.length ≤ 9000000000000000000) :
    Calls Try.prog 31 #[.agg #[.int .i64 P, .int .i64 N, .slice A ds.length c], .agg #[.int .i64 px, .int .i64 py], .int .i64 z] w fun e w' => e = .returned (.bool (decide (WithinP P N ds px py z))) ∧ Below w.heap.size w w' := by
  by_cases hv : Vd P N ds
  · exact pwithin_yes P N ds A c px py z w hA hz hv
  · rw [show decide (WithinP P N ds px py z) = false from decide_eq_false fun h => hv h.1]
    exact pwithin_no P N ds A c px py z w hA hz hv
end Go.Proofs.Ytamogfcedkjmcaa
