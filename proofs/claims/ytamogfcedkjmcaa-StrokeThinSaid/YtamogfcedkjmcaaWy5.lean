
/- The contracts of Way and Within: loops over pieces. Conditions: the slices read. -/
import Derived.Test.YtamogfcedkjmcaaPc5
import Derived.Test.YtamogfcedkjmcaaPe5
namespace Go.Proofs.Ytamogfcedkjmcaa
open Go.RowKit Go.Shelf Go.Lib
attribute [local go_sem] Oper.semAt_some

theorem blk_own {β : Type} (B : Nat) (t : TypeId) (f : β → Array Value) : Own (fun (s : β) W => Blk W B t (f s)) := fun s X Y row hs hg hrow => hs.only hg (fun e => by
  obtain ⟨o, h1, h2⟩ := hrow B e.symm
  have h3 : X.heap[B]? = some (.cells (f s) t (0, 0)) := hs
  rw [h3, Option.some.injEq] at h1
  rw [← h1] at h2
  cases h2)
theorem keeps_of_below {B : Nat} {W W' : World} (h : Below W.heap.size W W') : KeepsFrom B W W' := KeepsFrom.of_grownBy (grown_of_below h) (fun j e => by cases e)
set_option maxRecDepth 100000 in
set_option maxHeartbeats 4000000 in
theorem pdiffw_any (ax ay bx by_ u1 u2 : Int) (w : World) (e1 : IntKind.i64.wrap (bx - ax) = u1) (e2 : IntKind.i64.wrap (by_ - ay) = u2) :
    Calls Try.prog 43 #[.agg #[.int .i64 ax, .int .i64 ay], .agg #[.int .i64 bx, .int .i64 by_]] w fun e w' => e = .returned (.agg #[.int .i64 u1, .int .i64 u2]) ∧ Below w.heap.size w w' := by
  have A_0 : Hid (Blk (((w.alloc (.cells #[.int .i64 ax, .int .i64 ay] 29)).alloc (.cells #[.int .i64 bx, .int .i64 by_] 29)).alloc (.cells #[.int .i64 0, .int .i64 0] 29)) w.heap.size 29 #[.int .i64 ax, .int .i64 ay]) := allocs_blk [(#[.int .i64 ax, .int .i64 ay], 29), (#[.int .i64 bx, .int .i64 by_], 29), (#[.int .i64 0, .int .i64 0], 29)] w 0 _ rfl
  have B_0 : Hid (Blk (((w.alloc (.cells #[.int .i64 ax, .int .i64 ay] 29)).alloc (.cells #[.int .i64 bx, .int .i64 by_] 29)).alloc (.cells #[.int .i64 0, .int .i64 0] 29)) (w.heap.size + 1) 29 #[.int .i64 bx, .int .i64 by_]) := allocs_blk [(#[.int .i64 ax, .int .i64 ay], 29), (#[.int .i64 bx, .int .i64 by_], 29), (#[.int .i64 0, .int .i64 0], 29)] w 1 _ rfl
  have R_0 : Hid (Blk (((w.alloc (.cells #[.int .i64 ax, .int .i64 ay] 29)).alloc (.cells #[.int .i64 bx, .int .i64 by_] 29)).alloc (.cells #[.int .i64 0, .int .i64 0] 29)) (w.heap.size + 2) 29 #[.int .i64 0, .int .i64 0]) := allocs_blk [(#[.int .i64 ax, .int .i64 ay], 29), (#[.int .i64 bx, .int .i64 by_], 29), (#[.int .i64 0, .int .i64 0], 29)] w 2 _ rfl
  have HB_0 : Hid (Below w.heap.size w (((w.alloc (.cells #[.int .i64 ax, .int .i64 ay] 29)).alloc (.cells #[.int .i64 bx, .int .i64 by_] 29)).alloc (.cells #[.int .i64 0, .int .i64 0] 29))) := allocs_below [(#[.int .i64 ax, .int .i64 ay], 29), (#[.int .i64 bx, .int .i64 by_], 29), (#[.int .i64 0, .int .i64 0], 29)] w (Below.refl w.heap.size w) (Nat.le_refl _)
  have yy0 := A_0.out.cell (i := 0) (v := .int .i64 ax) rfl; have yy1 := A_0.out.cell (i := 1) (v := .int .i64 ay) rfl
  have yy2 := B_0.out.cell (i := 0) (v := .int .i64 bx) rfl; have yy3 := B_0.out.cell (i := 1) (v := .int .i64 by_) rfl
  have yy4 := R_0.out.cell (i := 0) (v := .int .i64 0) rfl; have yy5 := R_0.out.cell (i := 1) (v := .int .i64 0) rfl
  have fR := R_0.out.frozen 0; have fR1 := R_0.out.frozen 1
  go_enter Try.func43, Try.ntmps43
  go_wp2_with fail
  refine bodyPost_ret (v := .agg #[.int .i64 u1, .int .i64 u2]) (by simp [results, Try.results43, go_sem]) rfl ⟨rfl, ?_⟩
  exact allocs_below [(#[.int .i64 ax, .int .i64 ay], 29), (#[.int .i64 bx, .int .i64 by_], 29), (#[.int .i64 u1, .int .i64 u2], 29)] w (Below.refl _ _) (Nat.le_refl _)
set_option maxRecDepth 100000 in
set_option maxHeartbeats 4000000 in
theorem pway_no (P N : Int) (ds : List Dt) (A : Option Addr) (c : Nat) (w : World) (hA : Dz w A ds) (hz : ds.length ≤ 9000000000000000000) (hv : ¬ Vd P N ds) :
    Calls Try.prog 16 #[.agg #[.int .i64 P, .int .i64 N, .slice A ds.length c]] w fun e w' => e = .returned (.tuple #[.int .i64 0, .int .i64 50]) ∧ Below w.heap.size w w' := by
  have HV := Lib.hid (fun W (hb : Below w.heap.size w W) => pvalid_not P N ds A c W (hA.below hb (Nat.le_refl _)) hz hv)
  clear hA hz hv
  have S_0 : Hid (Blk (w.alloc (.cells #[.int .i64 P, .int .i64 N, .slice A ds.length c] 27)) w.heap.size 27 #[.int .i64 P, .int .i64 N, .slice A ds.length c]) := allocs_blk [(#[.int .i64 P, .int .i64 N, .slice A ds.length c], 27)] w 0 _ rfl
  have HB_0 : Hid (Below w.heap.size w (w.alloc (.cells #[.int .i64 P, .int .i64 N, .slice A ds.length c] 27))) := allocs_below [(#[.int .i64 P, .int .i64 N, .slice A ds.length c], 27)] w (Below.refl w.heap.size w) (Nat.le_refl _)
  have s0 := S_0.out.cell (i := 0) (v := .int .i64 P) rfl; have s1 := S_0.out.cell (i := 1) (v := .int .i64 N) rfl; have s2 := S_0.out.cell (i := 2) (v := .slice A ds.length c) rfl
  refine (callsIn_wide (n := 8)).1 ?_
  refine callsIn_of_wp_marks Try.func16 rfl trivial ?_ rfl
  simp only [Try.ntmps16, List.size_toArray, List.length_cons, List.length_nil, Nat.reduceAdd, Nat.reduceSub, Array.replicate_succ, Array.replicate_zero, List.push_toArray, List.append_toArray, List.nil_append, List.cons_append]
  gi_wp2_with (refine ⟨trivial, ?_⟩; gi_at_call 20; refine (callsIn_wide.2 (HV.out _ HB_0.out)).mono ?_; rintro e v0 ⟨rfl, hb⟩)
  exact ⟨_, results_tmp2 rfl _ _ _, rfl, HB_0.out.trans (hb.mono HB_0.out.size)⟩
theorem run_max4 {P : Program} (ts : Array TypeId) (t : TypeId) (w : World) (x y z u : Int) : (Builtin.max_ ts t #[.int .i64 x, .int .i64 y, .int .i64 z, .int .i64 u]).run P w = .ok (.int .i64 (max (max (max x y) z) u)) w := by
  have e : ∀ x y : Int, (if x < y then y else x) = max x y := fun x y => by split <;> omega
  simp [Builtin.max_, Builtin.max2, e]
/-- How far: as the body adds it up. -/
def max4 (a b c d : Int) : Int := max (max (max a b) c) d
def stP (x : Pc) : Int := let dx := IntKind.i64.wrap (x.2.1 - x.1.1); let dy := IntKind.i64.wrap (x.2.2 - x.1.2); max4 dx (IntKind.i64.wrap (-dx)) dy (IntKind.i64.wrap (-dy))
def accP (l : List Pc) : Int := l.foldl (fun s x => IntKind.i64.wrap (s + stP x)) 0
theorem accP_snoc (l : List Pc) (x : Pc) : accP (l ++ [x]) = IntKind.i64.wrap (accP l + stP x) := by simp [accP]
theorem stP_at {ds : List Dt} {i : Nat} (hok : ∀ d ∈ ds, d.ok) (h : i + 1 < ds.length) : stP (pcAt ds i) = stepD (ds[i]'(by omega)) ds[i + 1] := by
  have h1 := hok _ (List.getElem_mem (show i < ds.length by omega)); have h2 := hok _ (List.getElem_mem h)
  unfold Dt.ok at h1 h2
  unfold stP pcAt stepD
  rw [show min (i + 1) (ds.length - 1) = i + 1 from by omega, dtAt_eq (show i < ds.length by omega), dtAt_eq h]
  simp only
  rw [IntWalk.i64_in (ds[i + 1].x - (ds[i]'(by omega)).x) (by omega), IntWalk.i64_in (ds[i + 1].y - (ds[i]'(by omega)).y) (by omega), IntWalk.i64_in (-(ds[i + 1].x - (ds[i]'(by omega)).x)) (by omega), IntWalk.i64_in (-(ds[i + 1].y - (ds[i]'(by omega)).y)) (by omega)]
  unfold max4
  split <;> omega
theorem accP_way {ds : List Dt} (hok : ∀ d ∈ ds, d.ok) (hl : ds.length ≤ 200) : ∀ k, k + 1 ≤ ds.length → accP (pcs ds k) = wayL (ds.take (k + 1))
  | 0, h => by
    cases ds with
    | nil => simp at h
    | cons d r => simp [pcs, accP, wayL]
  | k + 1, h => by
    have ih := accP_way hok hl k (by omega)
    have hb := wayL_le (ds.take (k + 1)) (fun d hd => hok d (List.mem_of_mem_take hd))
    rw [List.length_take] at hb
    have hs := stepD_le (hok _ (List.getElem_mem (show k < ds.length by omega))) (hok _ (List.getElem_mem (show k + 1 < ds.length by omega)))
    rw [pcs_succ, accP_snoc, ih, stP_at hok (by omega), IntWalk.i64_in _ (by omega)]
    exact (wayL_take (by omega) (by omega)).symm
theorem accP_all {ds : List Dt} (hok : ∀ d ∈ ds, d.ok) (hl : 1 ≤ ds.length ∧ ds.length ≤ 200) : accP (pcs ds (pcN ds)) = wayL ds := by
  by_cases h1 : ds.length = 1
  · obtain ⟨d, rfl⟩ := List.length_eq_one_iff.1 h1
    have h2 := hok d (by simp)
    unfold Dt.ok at h2
    simp [pcN, pcs, accP, pcAt, dtAt, stP, max4, wayL, List.range_succ]
    decide
  · have h2 : pcN ds = ds.length - 1 := by unfold pcN; omega
    rw [h2, accP_way hok hl.2 (ds.length - 1) (by omega)]
    rw [show ds.length - 1 + 1 = ds.length from by omega, List.take_length]
set_option maxRecDepth 100000 in
set_option maxHeartbeats 4000000 in
theorem pway_yes (P N : Int) (ds : List Dt) (A : Option Addr) (c : Nat) (w : World) (hA : Dz w A ds) (hz : ds.length ≤ 9000000000000000000) (hv : Vd P N ds) :
    Calls Try.prog 16 #[.agg #[.int .i64 P, .int .i64 N, .slice A ds.length c]] w fun e w' => e = .returned (.tuple #[.int .i64 (wayL ds), .int .i64 0]) ∧ Below w.heap.size w w' := by
  have hl := hv.2.2.1
  have hbl : ∃ b o, A = some ⟨b, o, none⟩ ∧ b < w.heap.size := by obtain ⟨b, o, h1, h2, -⟩ := hA (by omega); exact ⟨b, o, h1, h2⟩
  obtain ⟨b, o, rfl, hbw⟩ := hbl
  have HAT := Lib.hid hA.at
  have HV := Lib.hid (fun W (hb : Below w.heap.size w W) => pvalid_yes P N ds _ c W (hA.below hb (Nat.le_refl _)) hz hv)
  have HOK := Lib.hid hv.mem; have HL := Lib.hid hl; have HBW := Lib.hid hbw
  clear hA hz hv hl hbw
  have S_0 : Hid (Blk (w.alloc (.cells #[.int .i64 P, .int .i64 N, .slice (some ⟨b, o, none⟩) ds.length c] 27)) w.heap.size 27 #[.int .i64 P, .int .i64 N, .slice (some ⟨b, o, none⟩) ds.length c]) := allocs_blk [(#[.int .i64 P, .int .i64 N, .slice (some ⟨b, o, none⟩) ds.length c], 27)] w 0 _ rfl
  have HB_0 : Hid (Below w.heap.size w (w.alloc (.cells #[.int .i64 P, .int .i64 N, .slice (some ⟨b, o, none⟩) ds.length c] 27))) := allocs_below [(#[.int .i64 P, .int .i64 N, .slice (some ⟨b, o, none⟩) ds.length c], 27)] w (Below.refl w.heap.size w) (Nat.le_refl _)
  have s0 := S_0.out.cell (i := 0) (v := .int .i64 P) rfl; have s1 := S_0.out.cell (i := 1) (v := .int .i64 N) rfl; have s2 := S_0.out.cell (i := 2) (v := .slice (some ⟨b, o, none⟩) ds.length c) rfl
  refine (callsIn_wide (n := 8)).1 ?_
  refine callsIn_of_wp_marks Try.func16 rfl trivial ?_ rfl
  simp only [Try.ntmps16, List.size_toArray, List.length_cons, List.length_nil, Nat.reduceAdd, Nat.reduceSub, Array.replicate_succ, Array.replicate_zero, List.push_toArray, List.append_toArray, List.nil_append, List.cons_append]
  gi_wp2_with (first
    | (refine ⟨trivial, ?_⟩; gi_at_call 20; refine (callsIn_wide.2 (HV.out _ HB_0.out)).mono ?_; rintro e v0 ⟨rfl, hb⟩; have S_1 := Lib.hid (S_0.out.below hb S_0.out.lt); have HB_1 := Lib.hid (HB_0.out.trans (hb.mono HB_0.out.size)); have LS := Lib.hid S_1.out.lt; clear s0 s1 s2 hb; have s0 := S_1.out.cell (i := 0) (v := .int .i64 P) rfl; have s1 := S_1.out.cell (i := 1) (v := .int .i64 N) rfl; have s2 := S_1.out.cell (i := 2) (v := .slice (some ⟨b, o, none⟩) ds.length c) rfl; have S_2 := Lib.hid (S_1.out.alloc (.cells #[.int .i64 0] 3)); have t0 := S_2.out.cell (i := 0) (v := .int .i64 P) rfl; have t1 := S_2.out.cell (i := 1) (v := .int .i64 N) rfl; have t2 := S_2.out.cell (i := 2) (v := .slice (some ⟨b, o, none⟩) ds.length c) rfl)
    | (refine ⟨trivial, ?_⟩; gi_at_call 44; refine (pieces_in _ P N ds _ c HL.out _).mono ?_; rintro e w1 ⟨rfl, rfl⟩))
  clear s0 s1 s2 t0 t1 t2
  have hb0 : Below w.heap.size w (((v0.alloc (.cells #[.int .i64 0] 3)).alloc (.cells #[.int .i64 P, .int .i64 N, .slice (some ⟨b, o, none⟩) ds.length c] 27)).alloc (.cells #[.int .i64 ((ds.length - 1 : Nat) : Int)] 3)) := (((HB_1.out.alloc HB_1.out.size _).alloc (by have := HB_1.out.size; simp; omega) _).alloc (by have := HB_1.out.size; simp; omega) _)
  have hk0 : Blk (((v0.alloc (.cells #[.int .i64 0] 3)).alloc (.cells #[.int .i64 P, .int .i64 N, .slice (some ⟨b, o, none⟩) ds.length c] 27)).alloc (.cells #[.int .i64 ((ds.length - 1 : Nat) : Int)] 3)) v0.heap.size 3 #[.int .i64 0] := ((Blk.new v0 _ _).alloc _).alloc _
  have hk1 : Blk (((v0.alloc (.cells #[.int .i64 0] 3)).alloc (.cells #[.int .i64 P, .int .i64 N, .slice (some ⟨b, o, none⟩) ds.length c] 27)).alloc (.cells #[.int .i64 ((ds.length - 1 : Nat) : Int)] 3)) (v0.heap.size + 1) 27 #[.int .i64 P, .int .i64 N, .slice (some ⟨b, o, none⟩) ds.length c] := by have h := (Blk.new (v0.alloc (.cells #[.int .i64 0] 3)) 27 #[.int .i64 P, .int .i64 N, .slice (some ⟨b, o, none⟩) ds.length c]).alloc (.cells #[.int .i64 ((ds.length - 1 : Nat) : Int)] 3); rwa [World.size_alloc] at h
  have hk2 : Blk (((v0.alloc (.cells #[.int .i64 0] 3)).alloc (.cells #[.int .i64 P, .int .i64 N, .slice (some ⟨b, o, none⟩) ds.length c] 27)).alloc (.cells #[.int .i64 ((ds.length - 1 : Nat) : Int)] 3)) (v0.heap.size + 2) 3 #[.int .i64 ((ds.length - 1 : Nat) : Int)] := by have h := Blk.new ((v0.alloc (.cells #[.int .i64 0] 3)).alloc (.cells #[.int .i64 P, .int .i64 N, .slice (some ⟨b, o, none⟩) ds.length c] 27)) 3 #[.int .i64 ((ds.length - 1 : Nat) : Int)]; rwa [World.size_alloc, World.size_alloc] at h
  have hsz : (((v0.alloc (.cells #[.int .i64 0] 3)).alloc (.cells #[.int .i64 P, .int .i64 N, .slice (some ⟨b, o, none⟩) ds.length c] 27)).alloc (.cells #[.int .i64 ((ds.length - 1 : Nat) : Int)] 3)).heap.size = v0.heap.size + 3 := by simp
  obtain ⟨W0, hW0⟩ : ∃ W0, ((v0.alloc (.cells #[.int .i64 0] 3)).alloc (.cells #[.int .i64 P, .int .i64 N, .slice (some ⟨b, o, none⟩) ds.length c] 27)).alloc (.cells #[.int .i64 ((ds.length - 1 : Nat) : Int)] 3) = W0 := ⟨_, rfl⟩
  rw [hW0] at hb0 hk0 hk1 hk2 hsz ⊢
  have hvw : w.heap.size < v0.heap.size := LS.out
  have hpc : PcC W0 (v0.heap.size + 2) (v0.heap.size + 1) ds b o c := ⟨hk2.cell (i := 0) rfl, hk1.cell (i := 2) rfl, fun i hi => by have h := HAT.out W0 hb0 i hi; rwa [← dtAt_eq hi] at h⟩
  have hbv := HBW.out
  clear hW0 hk1 hk2 S_0 S_1 S_2 HB_0 HB_1 LS
  refine wpIn_rangeFunc_ownH rfl (by omega) (gf := 61) (lb := #[.pointer (some ⟨v0.heap.size + 2, 0, none⟩), .pointer (some ⟨v0.heap.size + 1, 0, none⟩)]) rfl trivial (enters_of Try.func61 (by kernel_rfl) rfl)
    (pieces_stops (8 - 1) v0.heap.size (v0.heap.size + 2) (v0.heap.size + 1) b o c ds HL.out W0 (v0.heap.size + 3) (by omega) ⟨by omega, by omega⟩ ⟨by omega, by omega⟩ ⟨by omega, by omega⟩ hpc) (fun h k => h.trans k) (KpX.put (by omega)) (Below.refl _ _) (fun _ => rfl)
    (fun pre W => (Blk W v0.heap.size 3 #[.int .i64 (accP pre)] ∧ W0.heap.size ≤ W.heap.size) ∧ Below w.heap.size w W)
    (fun _ _ _ => False)
    (OwnFrom.and (OwnFrom.and (Own.from (blk_own _ _ _) _) (fun _ X Y row hs hg _ => Nat.le_trans hs hg.size)) (ownFrom_below (Nat.le_refl _) (by omega)))
    (fun _ _ _ _ _ hs _ _ => hs)
    ⟨⟨hk0, Nat.le_refl _⟩, hb0⟩
    (fun x a' W => ∃ Ba Bb, (v0.heap.size + 2 < Ba ∧ v0.heap.size + 2 < Bb) ∧ Blk W Ba 29 #[.int .i64 x.1.1, .int .i64 x.1.2] ∧ Blk W Bb 29 #[.int .i64 x.2.1, .int .i64 x.2.2] ∧ a' = { tmps := #[.agg #[.int .i64 P, .int .i64 N, .slice (some ⟨b, o, none⟩) ds.length c], .pointer (some ⟨w.heap.size, 0, none⟩), .int .i64 0, .int .i64 0, .pointer (some ⟨v0.heap.size, 0, none⟩), .pointer (some ⟨Ba, 0, none⟩), .pointer (some ⟨Bb, 0, none⟩), undef, .agg #[.int .i64 P, .int .i64 N, .slice (some ⟨b, o, none⟩) ds.length c], .bool true, .bool false, .agg #[.int .i64 P, .int .i64 N, .slice (some ⟨b, o, none⟩) ds.length c], .func (.func 61) #[] #[.pointer (some ⟨v0.heap.size + 2, 0, none⟩), .pointer (some ⟨v0.heap.size + 1, 0, none⟩)], .agg #[.int .i64 x.1.1, .int .i64 x.1.2], .agg #[.int .i64 x.2.1, .int .i64 x.2.2], undef, undef, undef, undef, undef, undef, undef, undef, undef, undef, undef, undef, undef, undef, undef, undef, undef], defers := [] })
    (fun x a' _ X Y row hs hg hr => by
      obtain ⟨Ba, Bb, h1, h2, h3, h4⟩ := hs
      exact ⟨Ba, Bb, h1, blk_own Ba 29 (fun (_ : Unit) => #[.int .i64 x.1.1, .int .i64 x.1.2]) () X Y row h2 hg (fun r e => (hr r e).2), blk_own Bb 29 (fun (_ : Unit) => #[.int .i64 x.2.1, .int .i64 x.2.2]) () X Y row h3 hg (fun r e => (hr r e).2), h4⟩)
    ?assign ?body ?done ?stop
  case assign =>
    rintro l pre x W K ⟨⟨bS, hLW⟩, hB⟩ hK
    gi_wp2
    have hl3 : v0.heap.size + 3 ≤ W.heap.size := by omega
    exact hK _ _ (((KeepsOthers.alloc _ _).trans (KeepsOthers.alloc _ _)).from _) (KpX.of_below (((Below.refl _ W).alloc (Nat.le_refl _) _).alloc (by simp) _) hl3) ⟨⟨(bS.alloc _).alloc _, by simp; omega⟩, (hB.alloc hB.size _).alloc (by have := hB.size; simp; omega) _⟩ ⟨W.heap.size, W.heap.size + 1, ⟨by omega, by omega⟩, (Blk.new W _ _).alloc _, by have h := Blk.new (W.alloc (.cells #[.int .i64 x.1.1, .int .i64 x.1.2] 29)) 29 #[.int .i64 x.2.1, .int .i64 x.2.2]; rwa [World.size_alloc] at h, rfl⟩
  case body =>
    rintro l pre x a' W hl ⟨r, hr⟩ ⟨⟨bS, hLW⟩, hB⟩ ⟨Ba, Bb, ⟨hBa, hBb⟩, kA, kB, rfl⟩ hlt
    have a0 := kA.cell (i := 0) (v := .int .i64 x.1.1) rfl; have a1 := kA.cell (i := 1) (v := .int .i64 x.1.2) rfl; have b0 := kB.cell (i := 0) (v := .int .i64 x.2.1) rfl; have b1 := kB.cell (i := 1) (v := .int .i64 x.2.2) rfl
    obtain ⟨u1, hu1⟩ : ∃ u, IntKind.i64.wrap (x.2.1 - x.1.1) = u := ⟨_, rfl⟩
    obtain ⟨u2, hu2⟩ : ∃ u, IntKind.i64.wrap (x.2.2 - x.1.2) = u := ⟨_, rfl⟩
    have HPD := Lib.hid (fun W => pdiffw_any x.1.1 x.1.2 x.2.1 x.2.2 u1 u2 W hu1 hu2)
    obtain ⟨m1, hm1⟩ : ∃ u, IntKind.i64.wrap (-u1) = u := ⟨_, rfl⟩
    obtain ⟨m2, hm2⟩ : ∃ u, IntKind.i64.wrap (-u2) = u := ⟨_, rfl⟩
    obtain ⟨st, hst⟩ : ∃ u, max (max (max u1 m1) u2) m2 = u := ⟨_, rfl⟩
    have hmx : ∀ (ts : Array TypeId) (t : TypeId) (w : World), (Builtin.max_ ts t #[.int .i64 u1, .int .i64 m1, .int .i64 u2, .int .i64 m2]).run Try.prog w = .ok (.int .i64 st) w := fun ts t w => by rw [run_max4, hst]
    obtain ⟨s1, hs1⟩ : ∃ u, accP pre = u := ⟨_, rfl⟩
    obtain ⟨s2, hs2⟩ : ∃ u, IntKind.i64.wrap (s1 + st) = u := ⟨_, rfl⟩
    have HAC : Hid (accP (pre ++ [x]) = s2) := Lib.hid (by
      rw [accP_snoc, hs1, ← hs2]
      congr 2
      unfold stP max4
      simp only
      rw [hu1, hu2, hm1, hm2, hst])
    rw [hs1] at bS
    clear hu1 hu2 hst hs1
    gi_wp2_with (refine ⟨trivial, ?_⟩; gi_at_call 43; refine (CallsIn.inRound l (callsIn_wide.2 (HPD.out _))).mono ?_; rintro e v1 ⟨rfl, hb1⟩; have hS2 := bS.below hb1 bS.lt; have y0 := (hS2.alloc (.cells #[.int .i64 u1, .int .i64 u2] 29)).cell (i := 0) (v := .int .i64 (s1)) rfl; have y1 := (hS2.alloc (.cells #[.int .i64 u1, .int .i64 u2] 29)).frozen 0)
    have hz1 := hb1.size
    have hB2 : Below W.heap.size W (v1.alloc (.cells #[.int .i64 u1, .int .i64 u2] 29)) := hb1.alloc hb1.size _
    refine ⟨(keeps_of_below hB2).trans ((KeepsOthers.setCell _ _ _).from _), (KpX.of_below hB2 (by omega)).trans (KpX.store _ _ _ _ _), ⟨?_, by simp [World.setCell]; omega⟩, (hB.trans (hB2.mono hB.size)).setCell (p := ⟨v0.heap.size, 0, none⟩) (by show w.heap.size ≤ v0.heap.size; omega) _⟩
    rw [HAC.out]
    exact (hS2.alloc _).set 0 _
  case done =>
    rintro D ys W hD rfl ⟨⟨bS, hLW⟩, hB⟩ hK
    rw [accP_all HOK.out HL.out] at bS
    have y0 := bS.cell (i := 0) (v := .int .i64 (wayL ds)) rfl
    gi_wp2
    refine ⟨by simp, .inl ⟨_, _, rfl, run_takeDeferred hK, ?_⟩⟩
    exact ⟨_, results_tmp2 rfl _ _ _, rfl, hB.trans (belowK_b (w := w) (Nat.le_refl _) W D _ _ (by omega) hK rfl rfl)⟩
  case stop =>
    rintro D c pre W _ _ h _
    exact h.elim
end Go.Proofs.Ytamogfcedkjmcaa
