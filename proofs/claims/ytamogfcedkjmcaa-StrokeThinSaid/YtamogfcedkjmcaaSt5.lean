
/- The contracts of the reference's functions on strokes: Code, Way, Within, between, Same. Conditions: the slices read. -/
import Derived.Test.YtamogfcedkjmcaaVl5
import Derived.Test.YtamogfcedkjmcaaNr5
namespace Go.Proofs.Ytamogfcedkjmcaa
open Go.RowKit Go.Lib Go.Shelf

theorem rvalid_yes (P N : Int) (ds : List Dt) (A : Option Addr) (c : Nat) (w : World) (hA : Dz w A ds) (hz : ds.length ≤ 9000000000000000000) (hv : Vd P N ds) :
    Calls Try.prog 21 #[.agg #[.int .i64 P, .int .i64 N, .slice A ds.length c]] w fun e w' => e = .returned (.bool true) ∧ Below w.heap.size w w' := by
  have := rvalid_any P N ds A c w hA hz
  rwa [decide_eq_true hv] at this
theorem rvalid_not (P N : Int) (ds : List Dt) (A : Option Addr) (c : Nat) (w : World) (hA : Dz w A ds) (hz : ds.length ≤ 9000000000000000000) (hv : ¬ Vd P N ds) :
    Calls Try.prog 21 #[.agg #[.int .i64 P, .int .i64 N, .slice A ds.length c]] w fun e w' => e = .returned (.bool false) ∧ Below w.heap.size w w' := by
  have := rvalid_any P N ds A c w hA hz
  rwa [decide_eq_false hv] at this
set_option maxRecDepth 100000 in
theorem rsize_any (n : Int) (w : World) (h : -9000000000000000000 ≤ n ∧ n ≤ 9000000000000000000) :
    Calls Try.prog 45 #[.int .i64 n] w fun e w' => e = .returned (.int .i64 (n.natAbs : Nat)) ∧ Below w.heap.size w w' := by
  by_cases h1 : n < 0
  · have e1 : IntKind.i64.wrap (-n) = ((n.natAbs : Nat) : Int) := by rw [IntWalk.i64_in _ (by omega)]; omega
    go_enter Try.func45, Try.ntmps45
    go_wp2_with fail
    go_ret
    exact ⟨rfl, Below.refl _ _⟩
  · have e1 : ((n.natAbs : Nat) : Int) = n := by omega
    rw [e1]
    clear e1
    go_enter Try.func45, Try.ntmps45
    go_wp2_with fail
    go_ret
    exact ⟨rfl, Below.refl _ _⟩
set_option maxRecDepth 100000 in
set_option maxHeartbeats 4000000 in
theorem rcode_no (P N : Int) (ds : List Dt) (A : Option Addr) (c : Nat) (w : World) (hA : Dz w A ds) (hz : ds.length ≤ 9000000000000000000) (hv : ¬ Vd P N ds) :
    Calls Try.prog 23 #[.agg #[.int .i64 P, .int .i64 N, .slice A ds.length c]] w fun e w' => e = .returned (.int .i64 0) ∧ Below w.heap.size w w' := by
  have HV := Lib.hid (fun W (hb : Below w.heap.size w W) => rvalid_not P N ds A c W (hA.below hb (Nat.le_refl _)) hz hv)
  clear hA hz hv
  have S_0 : Hid (Blk (w.alloc (.cells #[.int .i64 P, .int .i64 N, .slice A ds.length c] 27)) w.heap.size 27 #[.int .i64 P, .int .i64 N, .slice A ds.length c]) := allocs_blk [(#[.int .i64 P, .int .i64 N, .slice A ds.length c], 27)] w 0 _ rfl
  have HB_0 : Hid (Below w.heap.size w (w.alloc (.cells #[.int .i64 P, .int .i64 N, .slice A ds.length c] 27))) := allocs_below [(#[.int .i64 P, .int .i64 N, .slice A ds.length c], 27)] w (Below.refl w.heap.size w) (Nat.le_refl _)
  go_enter Try.func23, Try.ntmps23
  have yy0 := S_0.out.cell (i := 0) (v := .int .i64 P) rfl; have yy1 := S_0.out.cell (i := 1) (v := .int .i64 N) rfl; have yy2 := S_0.out.cell (i := 2) (v := .slice A ds.length c) rfl
  go_wp2_with fail
  refine (HV.out _ HB_0.out).mono ?_
  rintro e v0 ⟨rfl, hb⟩
  clear yy0 yy1 yy2
  have S_1 : Hid (Blk v0 w.heap.size 27 #[.int .i64 P, .int .i64 N, .slice A ds.length c]) := Lib.hid (S_0.out.below hb S_0.out.lt)
  have HB_1 : Hid (Below w.heap.size w v0) := Lib.hid (HB_0.out.trans (hb.mono HB_0.out.size))
  clear hb S_0 HB_0
  go_wp2_with fail
  go_ret
  exact ⟨rfl, HB_1.out⟩
set_option maxRecDepth 100000 in
set_option maxHeartbeats 4000000 in
theorem rway_no (P N : Int) (ds : List Dt) (A : Option Addr) (c : Nat) (w : World) (hA : Dz w A ds) (hz : ds.length ≤ 9000000000000000000) (hv : ¬ Vd P N ds) :
    Calls Try.prog 17 #[.agg #[.int .i64 P, .int .i64 N, .slice A ds.length c]] w fun e w' => e = .returned (.tuple #[.int .i64 0, .int .i64 50]) ∧ Below w.heap.size w w' := by
  have HV := Lib.hid (fun W (hb : Below w.heap.size w W) => rvalid_not P N ds A c W (hA.below hb (Nat.le_refl _)) hz hv)
  clear hA hz hv
  have S_0 : Hid (Blk (w.alloc (.cells #[.int .i64 P, .int .i64 N, .slice A ds.length c] 27)) w.heap.size 27 #[.int .i64 P, .int .i64 N, .slice A ds.length c]) := allocs_blk [(#[.int .i64 P, .int .i64 N, .slice A ds.length c], 27)] w 0 _ rfl
  have HB_0 : Hid (Below w.heap.size w (w.alloc (.cells #[.int .i64 P, .int .i64 N, .slice A ds.length c] 27))) := allocs_below [(#[.int .i64 P, .int .i64 N, .slice A ds.length c], 27)] w (Below.refl w.heap.size w) (Nat.le_refl _)
  go_enter Try.func17, Try.ntmps17
  have yy0 := S_0.out.cell (i := 0) (v := .int .i64 P) rfl; have yy1 := S_0.out.cell (i := 1) (v := .int .i64 N) rfl; have yy2 := S_0.out.cell (i := 2) (v := .slice A ds.length c) rfl
  go_wp2_with fail
  refine (HV.out _ HB_0.out).mono ?_
  rintro e v0 ⟨rfl, hb⟩
  clear yy0 yy1 yy2
  have S_1 : Hid (Blk v0 w.heap.size 27 #[.int .i64 P, .int .i64 N, .slice A ds.length c]) := Lib.hid (S_0.out.below hb S_0.out.lt)
  have HB_1 : Hid (Below w.heap.size w v0) := Lib.hid (HB_0.out.trans (hb.mono HB_0.out.size))
  clear hb S_0 HB_0
  go_wp2_with fail
  go_ret2
  exact ⟨rfl, HB_1.out⟩
set_option maxRecDepth 100000 in
set_option maxHeartbeats 4000000 in
theorem rcode_yes (P N : Int) (ds : List Dt) (A : Option Addr) (c : Nat) (w : World) (hA : Dz w A ds) (hz : ds.length ≤ 9000000000000000000) (hv : Vd P N ds) :
    Calls Try.prog 23 #[.agg #[.int .i64 P, .int .i64 N, .slice A ds.length c]] w fun e w' => e = .returned (.int .i64 (1000 * P + N)) ∧ Below w.heap.size w w' := by
  have HV := Lib.hid (fun W (hb : Below w.heap.size w W) => rvalid_yes P N ds A c W (hA.below hb (Nat.le_refl _)) hz hv)
  have v1 := hv.1; have v2 := hv.2.1
  have e1 : IntKind.i64.wrap (1000 * P) = 1000 * P := IntWalk.i64_in _ (by omega)
  have e2 : IntKind.i64.wrap (1000 * P + N) = 1000 * P + N := IntWalk.i64_in _ (by omega)
  clear hA hz hv v1 v2
  have S_0 : Hid (Blk (w.alloc (.cells #[.int .i64 P, .int .i64 N, .slice A ds.length c] 27)) w.heap.size 27 #[.int .i64 P, .int .i64 N, .slice A ds.length c]) := allocs_blk [(#[.int .i64 P, .int .i64 N, .slice A ds.length c], 27)] w 0 _ rfl
  have HB_0 : Hid (Below w.heap.size w (w.alloc (.cells #[.int .i64 P, .int .i64 N, .slice A ds.length c] 27))) := allocs_below [(#[.int .i64 P, .int .i64 N, .slice A ds.length c], 27)] w (Below.refl w.heap.size w) (Nat.le_refl _)
  go_enter Try.func23, Try.ntmps23
  have yy0 := S_0.out.cell (i := 0) (v := .int .i64 P) rfl; have yy1 := S_0.out.cell (i := 1) (v := .int .i64 N) rfl; have yy2 := S_0.out.cell (i := 2) (v := .slice A ds.length c) rfl
  go_wp2_with fail
  refine (HV.out _ HB_0.out).mono ?_
  rintro e v0 ⟨rfl, hb⟩
  clear yy0 yy1 yy2
  have S_1 : Hid (Blk v0 w.heap.size 27 #[.int .i64 P, .int .i64 N, .slice A ds.length c]) := Lib.hid (S_0.out.below hb S_0.out.lt)
  have HB_1 : Hid (Below w.heap.size w v0) := Lib.hid (HB_0.out.trans (hb.mono HB_0.out.size))
  clear hb S_0 HB_0
  have yy0 := S_1.out.cell (i := 0) (v := .int .i64 P) rfl; have yy1 := S_1.out.cell (i := 1) (v := .int .i64 N) rfl; have yy2 := S_1.out.cell (i := 2) (v := .slice A ds.length c) rfl
  go_wp2_with fail
  go_ret
  exact ⟨rfl, HB_1.out⟩
/-- How far from one dot to another. -/
def stepD (d e : Dt) : Int := if (e.x - d.x).natAbs < (e.y - d.y).natAbs then ((e.y - d.y).natAbs : Int) else ((e.x - d.x).natAbs : Int)
def wayL : List Dt → Int
  | d :: e :: r => stepD d e + wayL (e :: r)
  | _ => 0
theorem wayL_snoc : ∀ (l : List Dt) (d e : Dt), wayL (l ++ [d] ++ [e]) = wayL (l ++ [d]) + stepD d e
  | [], d, e => by simp [wayL]
  | [a], d, e => by simp [wayL]
  | a :: b :: r, d, e => by
    have := wayL_snoc (b :: r) d e
    simp only [List.cons_append] at this ⊢
    simp only [wayL]
    rw [this]; omega
theorem wayL_take {ds : List Dt} {i : Nat} (h0 : 1 ≤ i) (h : i < ds.length) : wayL (ds.take (i + 1)) = wayL (ds.take i) + stepD (ds[i - 1]'(by omega)) ds[i] := by
  obtain ⟨j, rfl⟩ : ∃ j, i = j + 1 := ⟨i - 1, by omega⟩
  rw [List.take_succ_eq_append_getElem h, List.take_succ_eq_append_getElem (show j < ds.length by omega)]
  exact wayL_snoc _ _ _
theorem stepD_le {d e : Dt} (hd : d.ok) (he : e.ok) : 0 ≤ stepD d e ∧ stepD d e ≤ 4095 := by
  unfold Dt.ok at hd he; unfold stepD; split <;> omega
theorem wayL_le : ∀ (l : List Dt), (∀ d ∈ l, d.ok) → 0 ≤ wayL l ∧ wayL l ≤ 4095 * l.length
  | [], _ => by simp [wayL]
  | [_], _ => by simp [wayL]
  | d :: e :: r, h => by
    have h1 := wayL_le (e :: r) (fun x hx => h x (List.mem_cons_of_mem _ hx))
    have h2 := stepD_le (h d (by simp)) (h e (by simp))
    simp only [wayL, List.length_cons] at h1 ⊢
    omega
theorem Vd.mem {P N : Int} {ds : List Dt} (h : Vd P N ds) : ∀ d ∈ ds, d.ok := fun d hd => by
  obtain ⟨i, hi, rfl⟩ := List.getElem_of_mem hd
  exact (h.2.2.2 i hi _ (List.getElem?_eq_getElem hi)).1
/-- The cells of dot i. -/
theorem Dz.at {w : World} {b o : Nat} {ds : List Dt} (h : Dz w (some ⟨b, o, none⟩) ds) : ∀ W, Below w.heap.size w W → ∀ i (hi : i < ds.length), W.cell? ⟨b, o + i * 4, none⟩ = some (.int .i64 ds[i].x) ∧ W.cell? ⟨b, o + i * 4 + 1, none⟩ = some (.int .i64 ds[i].y) ∧
    W.cell? ⟨b, o + i * 4 + 2, none⟩ = some (.int .i64 ds[i].t) ∧ W.cell? ⟨b, o + i * 4 + 3, none⟩ = some (.int .i64 ds[i].p) := fun W hb i hi => by
  obtain ⟨b2, o2, he, _, hc⟩ := (h.below hb (Nat.le_refl _)) (by omega)
  obtain ⟨rfl, rfl, -⟩ : b = b2 ∧ o = o2 ∧ True := by simpa using he
  exact hc i hi
theorem Dz.some {w : World} {A : Option Addr} {ds : List Dt} (h : Dz w A ds) (hn : 0 < ds.length) : ∃ b o, A = some ⟨b, o, none⟩ := by
  obtain ⟨b, o, e, _⟩ := h hn
  exact ⟨b, o, e⟩
set_option maxRecDepth 100000 in
set_option maxHeartbeats 4000000 in
theorem rway_yes (P N : Int) (ds : List Dt) (A : Option Addr) (c : Nat) (w : World) (hA : Dz w A ds) (hz : ds.length ≤ 9000000000000000000) (hv : Vd P N ds) :
    Calls Try.prog 17 #[.agg #[.int .i64 P, .int .i64 N, .slice A ds.length c]] w fun e w' => e = .returned (.tuple #[.int .i64 (wayL ds), .int .i64 0]) ∧ Below w.heap.size w w' := by
  obtain ⟨b, o, rfl⟩ := hA.some (by have := hv.2.2.1; omega)
  have HAT := Lib.hid hA.at
  have HV := Lib.hid (fun W (hb : Below w.heap.size w W) => rvalid_yes P N ds _ c W (hA.below hb (Nat.le_refl _)) hz hv)
  have HVD := Lib.hid hv
  have HLE := Lib.hid (fun i => wayL_le (ds.take i) (fun d hd => hv.mem d (List.mem_of_mem_take hd)))
  have hl1 : 1 ≤ ds.length := hv.2.2.1.1; have hl2 : ds.length ≤ 200 := hv.2.2.1.2
  clear hA hz hv
  have S_0 : Hid (Blk (w.alloc (.cells #[.int .i64 P, .int .i64 N, .slice (some ⟨b, o, none⟩) ds.length c] 27)) w.heap.size 27 #[.int .i64 P, .int .i64 N, .slice (some ⟨b, o, none⟩) ds.length c]) := allocs_blk [(#[.int .i64 P, .int .i64 N, .slice (some ⟨b, o, none⟩) ds.length c], 27)] w 0 _ rfl
  have HB_0 : Hid (Below w.heap.size w (w.alloc (.cells #[.int .i64 P, .int .i64 N, .slice (some ⟨b, o, none⟩) ds.length c] 27))) := allocs_below [(#[.int .i64 P, .int .i64 N, .slice (some ⟨b, o, none⟩) ds.length c], 27)] w (Below.refl w.heap.size w) (Nat.le_refl _)
  go_enter Try.func17, Try.ntmps17
  have yy0 := S_0.out.cell (i := 0) (v := .int .i64 P) rfl; have yy1 := S_0.out.cell (i := 1) (v := .int .i64 N) rfl; have yy2 := S_0.out.cell (i := 2) (v := .slice (some ⟨b, o, none⟩) ds.length c) rfl
  go_wp2_with fail
  refine (HV.out _ HB_0.out).mono ?_
  rintro e v0 ⟨rfl, hb⟩
  clear yy0 yy1 yy2
  have S_1 : Hid (Blk v0 w.heap.size 27 #[.int .i64 P, .int .i64 N, .slice (some ⟨b, o, none⟩) ds.length c]) := Lib.hid (S_0.out.below hb S_0.out.lt)
  have HB_1 : Hid (Below w.heap.size w v0) := Lib.hid (HB_0.out.trans (hb.mono HB_0.out.size))
  clear hb S_0 HB_0
  go_wp2_with fail
  go_loopw [4, 5] (fun sv ii wr => ∃ i : Nat, sv = .int .i64 (wayL (ds.take i)) ∧ ii = .int .i64 i ∧ 1 ≤ i ∧ i ≤ ds.length ∧ Below v0.heap.size v0 wr) (fun _ ii _ => ds.length - (intOf ii).toNat)
  case atStart =>
    refine ⟨1, ?_, rfl, by omega, by omega, Below.refl _ _⟩
    cases ds with | nil => simp at hl1 | cons d r => simp [wayL]
  case round =>
    obtain ⟨i, rfl, rfl, hi0, hi, hb⟩ := hrel
    have HBR := Lib.hid hb
    have S_2 : Hid (Blk wr w.heap.size 27 #[.int .i64 P, .int .i64 N, .slice (some ⟨b, o, none⟩) ds.length c]) := Lib.hid (S_1.out.below hb S_1.out.lt)
    have HB_2 : Hid (Below w.heap.size w wr) := Lib.hid (HB_1.out.trans (hb.mono HB_1.out.size))
    clear hb S_1 HB_1
    by_cases hlt : i < ds.length
    case neg =>
      obtain rfl : i = ds.length := by omega
      have HT : Hid (wayL (ds.take ds.length) = wayL ds) := Lib.hid (by rw [List.take_length])
      have yy0 := S_2.out.cell (i := 0) (v := .int .i64 P) rfl; have yy1 := S_2.out.cell (i := 1) (v := .int .i64 N) rfl; have yy2 := S_2.out.cell (i := 2) (v := .slice (some ⟨b, o, none⟩) ds.length c) rfl
      go_wp2_with fail
      go_ret2
      exact ⟨by first | rfl | (rw [HT.out]; rfl), HB_2.out⟩
    case pos =>
      have hle := HLE.out i
      obtain ⟨d, hd⟩ : ∃ d, d = ds[i] := ⟨_, rfl⟩
      obtain ⟨e, he⟩ : ∃ e, e = ds[i - 1]'(by omega) := ⟨_, rfl⟩
      have hdk : d.ok := by rw [hd]; exact HVD.out.mem _ (List.getElem_mem _)
      have hek : e.ok := by rw [he]; exact HVD.out.mem _ (List.getElem_mem _)
      have hnext : wayL (ds.take (i + 1)) = wayL (ds.take i) + stepD e d := by rw [hd, he]; exact wayL_take hi0 hlt
      have hst := stepD_le hek hdk
      have hD := fun W hb => HAT.out W hb i hlt
      have hE := fun W hb => HAT.out W hb (i - 1) (by omega)
      rw [← hd] at hD; rw [← he] at hE
      have hlen : (ds.take i).length ≤ 200 := by rw [List.length_take]; omega
      obtain ⟨s, hs⟩ : ∃ s, s = wayL (ds.take i) := ⟨_, rfl⟩
      rw [← hs] at hle hnext ⊢
      have hdk2 := hdk; have hek2 := hek
      unfold Dt.ok at hdk2 hek2
      have e1 : IntKind.i64.wrap ((i : Int) - 1) = ((i - 1 : Nat) : Int) := by rw [IntWalk.i64_in _ (by omega)]; omega
      have e2 : IntKind.i64.wrap (d.x - e.x) = d.x - e.x := IntWalk.i64_in _ (by omega)
      have e3 : IntKind.i64.wrap (d.y - e.y) = d.y - e.y := IntWalk.i64_in _ (by omega)
      have e4 : (if (d.x - e.x).natAbs < (d.y - e.y).natAbs then ((d.y - e.y).natAbs : Int) else ((d.x - e.x).natAbs : Int)) = stepD e d := rfl
      have e5 : IntKind.i64.wrap (s + stepD e d) = s + stepD e d := IntWalk.i64_in _ (by omega)
      have HX := Lib.hid (fun W => rsize_any (d.x - e.x) W (by omega)); have HYY := Lib.hid (fun W => rsize_any (d.y - e.y) W (by omega))
      have q1 : (0 : Int) ≤ (i : Int) := by omega
      have q2 : (i : Int) < (ds.length : Int) := by omega
      have q3 : (0 : Int) ≤ ((i - 1 : Nat) : Int) := by omega
      have q4 : ((i - 1 : Nat) : Int) < (ds.length : Int) := by omega
      have q5 : (i : Int) + 1 ≤ 9223372036854775807 := by omega
      have HD := Lib.hid hD; have HE := Lib.hid hE; have HN := Lib.hid hnext; have HI := Lib.hid (And.intro hi0 hlt)
      clear hD hE hnext hd he hs hle hst hdk hek hdk2 hek2 hlen hi0 hlt hi hl1 hl2
      have yy0 := S_2.out.cell (i := 0) (v := .int .i64 P) rfl; have yy1 := S_2.out.cell (i := 1) (v := .int .i64 N) rfl; have yy2 := S_2.out.cell (i := 2) (v := .slice (some ⟨b, o, none⟩) ds.length c) rfl
      go_upto_region 7 with fail
      clear yy0 yy1 yy2
      have HK : Hid (∀ w', Below wr.heap.size wr w' → w'.cell? ⟨w.heap.size, 2, none⟩ = some (.slice (some ⟨b, o, none⟩) ds.length c) ∧ w'.cell? ⟨b, o + i * 4, none⟩ = some (.int .i64 d.x) ∧ w'.cell? ⟨b, o + i * 4 + 1, none⟩ = some (.int .i64 d.y) ∧ w'.cell? ⟨b, o + (i - 1) * 4, none⟩ = some (.int .i64 e.x) ∧ w'.cell? ⟨b, o + (i - 1) * 4 + 1, none⟩ = some (.int .i64 e.y)) := fun w' hW => ⟨((S_2.out.below hW S_2.out.lt).cell (i := 2) rfl), ((HD.out w' (HB_2.out.trans (hW.mono HB_2.out.size))).1), ((HD.out w' (HB_2.out.trans (hW.mono HB_2.out.size))).2.1), ((HE.out w' (HB_2.out.trans (hW.mono HB_2.out.size))).1), ((HE.out w' (HB_2.out.trans (hW.mono HB_2.out.size))).2.1)⟩
      have HY : Hid (Below wr.heap.size wr wr.drew) := (Below.refl _ _).drew
      refine wp_region_held_drew (S := (fun w' => w'.cell? ⟨w.heap.size, 2, none⟩ = some (.slice (some ⟨b, o, none⟩) ds.length c) ∧ w'.cell? ⟨b, o + i * 4, none⟩ = some (.int .i64 d.x) ∧ w'.cell? ⟨b, o + i * 4 + 1, none⟩ = some (.int .i64 d.y) ∧ w'.cell? ⟨b, o + (i - 1) * 4, none⟩ = some (.int .i64 e.x) ∧ w'.cell? ⟨b, o + (i - 1) * 4 + 1, none⟩ = some (.int .i64 e.y))) (by kernel_rfl) (HK.out _ HY.out) (fun hHeld => ?_)
      refine held_take 0 (some 16) ?_ rfl rfl (by kernel_rfl) (fun _ _ _ h => h) (by kernel_rfl) ?_ (by assumption) ?_
      rotate_left
      · intro wS hS; (try dsimp only at hS); go_simp <;> with_reducible rfl
      simp only [Act.put, List.setIfInBounds_toArray, List.set_cons_zero, List.set_cons_succ]
      refine held_take 1 (some 17) ?_ rfl rfl (by kernel_rfl) (fun _ _ _ h => h) (by kernel_rfl) ?_ (by assumption) ?_
      rotate_left
      · intro wS hS; (try dsimp only at hS); go_simp <;> with_reducible rfl
      simp only [Act.put, List.setIfInBounds_toArray, List.set_cons_zero, List.set_cons_succ]
      refine held_take 2 (some 18) ?_ rfl rfl (by kernel_rfl) (fun _ _ _ h => h) (by kernel_rfl) ?_ (by assumption) ?_
      rotate_left
      · intro wS hS; (try dsimp only at hS); go_simp <;> with_reducible rfl
      simp only [Act.put, List.setIfInBounds_toArray, List.set_cons_zero, List.set_cons_succ]
      refine held_take 3 (some 19) ?_ rfl rfl (by kernel_rfl) (fun _ _ _ h => h) (by kernel_rfl) ?_ (by assumption) ?_
      rotate_left
      · intro wS hS; (try dsimp only at hS); go_simp <;> with_reducible rfl
      simp only [Act.put, List.setIfInBounds_toArray, List.set_cons_zero, List.set_cons_succ]
      refine held_take 4 (some 20) ?_ rfl rfl (by kernel_rfl) (fun _ _ _ h => h) (by kernel_rfl) ?_ (by assumption) ?_
      rotate_left
      · intro wS hS; (try dsimp only at hS); go_simp <;> with_reducible rfl
      simp only [Act.put, List.setIfInBounds_toArray, List.set_cons_zero, List.set_cons_succ]
      refine held_take 5 (some 21) ?_ rfl rfl (by kernel_rfl) (fun _ _ _ h => h) (by kernel_rfl) ?_ (by assumption) ?_
      rotate_left
      · intro wS hS; (try dsimp only at hS); go_simp <;> with_reducible rfl
      simp only [Act.put, List.setIfInBounds_toArray, List.set_cons_zero, List.set_cons_succ]
      refine held_take 6 (some 22) ?_ rfl rfl (by kernel_rfl) (fun _ _ _ h => h) (by kernel_rfl) ?_ (by assumption) ?_
      rotate_left
      · intro wS hS; (try dsimp only at hS); go_simp <;> with_reducible rfl
      simp only [Act.put, List.setIfInBounds_toArray, List.set_cons_zero, List.set_cons_succ]
      refine held_take 7 (some 23) ?_ rfl rfl (by kernel_rfl) (fun _ _ _ h => h) (by kernel_rfl) ?_ (by assumption) ?_
      rotate_left
      · intro wS hS; (try dsimp only at hS); go_simp <;> with_reducible rfl
      simp only [Act.put, List.setIfInBounds_toArray, List.set_cons_zero, List.set_cons_succ]
      refine held_take 8 (some 24) ?_ rfl rfl (by kernel_rfl) (fun _ _ _ h => h) (by kernel_rfl) ?_ (by assumption) ?_
      rotate_left
      · intro wS hS; (try dsimp only at hS); go_simp <;> with_reducible rfl
      simp only [Act.put, List.setIfInBounds_toArray, List.set_cons_zero, List.set_cons_succ]
      refine held_take 9 (some 25) ?_ rfl rfl (by kernel_rfl) (fun _ _ _ h => h) (by kernel_rfl) ?_ (by assumption) ?_
      rotate_left
      · intro wS hS; (try dsimp only at hS); go_simp <;> with_reducible rfl
      simp only [Act.put, List.setIfInBounds_toArray, List.set_cons_zero, List.set_cons_succ]
      refine held_take 10 (some 26) ?_ rfl rfl (by kernel_rfl) (fun _ _ _ h => h) (by kernel_rfl) ?_ (by assumption) ?_
      rotate_left
      · intro wS hS; (try dsimp only at hS); go_simp <;> with_reducible rfl
      simp only [Act.put, List.setIfInBounds_toArray, List.set_cons_zero, List.set_cons_succ]
      refine held_take 11 (some 27) ?_ rfl rfl (by kernel_rfl) (fun _ _ _ h => h) (by kernel_rfl) ?_ (by assumption) ?_
      rotate_left
      · intro wS hS; (try dsimp only at hS); go_simp <;> with_reducible rfl
      simp only [Act.put, List.setIfInBounds_toArray, List.set_cons_zero, List.set_cons_succ]
      refine held_take 12 (some 28) ?_ rfl rfl (by kernel_rfl) (fun _ _ _ h => h) (by kernel_rfl) ?_ (by assumption) ?_
      rotate_left
      · intro wS hS; (try dsimp only at hS); go_simp <;> with_reducible rfl
      simp only [Act.put, List.setIfInBounds_toArray, List.set_cons_zero, List.set_cons_succ]
      refine held_take 13 (some 29) ?_ rfl rfl (by kernel_rfl) (fun _ _ _ h => h) (by kernel_rfl) ?_ (by assumption) ?_
      rotate_left
      · intro wS hS; (try dsimp only at hS); go_simp <;> with_reducible rfl
      simp only [Act.put, List.setIfInBounds_toArray, List.set_cons_zero, List.set_cons_succ]
      refine held_take 14 (some 30) ?_ rfl rfl (by kernel_rfl) (fun _ _ _ h => h) (by kernel_rfl) ?_ (by assumption) ?_
      rotate_left
      · intro wS hS; (try dsimp only at hS); go_simp <;> with_reducible rfl
      simp only [Act.put, List.setIfInBounds_toArray, List.set_cons_zero, List.set_cons_succ]
      refine held_take 16 (some 32) ?_ rfl rfl (by kernel_rfl) (fun _ _ _ h => h) (by kernel_rfl) ?_ (by assumption) ?_
      rotate_left
      · intro wS hS; (try dsimp only at hS); go_simp <;> with_reducible rfl
      simp only [Act.put, List.setIfInBounds_toArray, List.set_cons_zero, List.set_cons_succ]
      refine held_take 17 (some 33) ?_ rfl rfl (by kernel_rfl) (fun _ _ _ h => h) (by kernel_rfl) ?_ (by assumption) ?_
      rotate_left
      · intro wS hS; (try dsimp only at hS); go_simp <;> with_reducible rfl
      simp only [Act.put, List.setIfInBounds_toArray, List.set_cons_zero, List.set_cons_succ]
      refine held_take 18 (some 34) ?_ rfl rfl (by kernel_rfl) (fun _ _ _ h => h) (by kernel_rfl) ?_ (by assumption) ?_
      rotate_left
      · intro wS hS; (try dsimp only at hS); go_simp <;> with_reducible rfl
      simp only [Act.put, List.setIfInBounds_toArray, List.set_cons_zero, List.set_cons_succ]
      refine held_take 19 (some 35) ?_ rfl rfl (by kernel_rfl) (fun _ _ _ h => h) (by kernel_rfl) ?_ (by assumption) ?_
      rotate_left
      · intro wS hS; (try dsimp only at hS); go_simp <;> with_reducible rfl
      simp only [Act.put, List.setIfInBounds_toArray, List.set_cons_zero, List.set_cons_succ]
      refine held_take 20 (some 36) ?_ rfl rfl (by kernel_rfl) (fun _ _ _ h => h) (by kernel_rfl) ?_ (by assumption) ?_
      rotate_left
      · intro wS hS; (try dsimp only at hS); go_simp <;> with_reducible rfl
      simp only [Act.put, List.setIfInBounds_toArray, List.set_cons_zero, List.set_cons_succ]
      refine held_take 21 (some 37) ?_ rfl rfl (by kernel_rfl) (fun _ _ _ h => h) (by kernel_rfl) ?_ (by assumption) ?_
      rotate_left
      · intro wS hS; (try dsimp only at hS); go_simp <;> with_reducible rfl
      simp only [Act.put, List.setIfInBounds_toArray, List.set_cons_zero, List.set_cons_succ]
      refine held_take 22 (some 38) ?_ rfl rfl (by kernel_rfl) (fun _ _ _ h => h) (by kernel_rfl) ?_ (by assumption) ?_
      rotate_left
      · intro wS hS; (try dsimp only at hS); go_simp <;> with_reducible rfl
      simp only [Act.put, List.setIfInBounds_toArray, List.set_cons_zero, List.set_cons_succ]
      refine held_take 23 (some 39) ?_ rfl rfl (by kernel_rfl) (fun _ _ _ h => h) (by kernel_rfl) ?_ (by assumption) ?_
      rotate_left
      · intro wS hS; (try dsimp only at hS); go_simp <;> with_reducible rfl
      simp only [Act.put, List.setIfInBounds_toArray, List.set_cons_zero, List.set_cons_succ]
      refine held_take 24 (some 40) ?_ rfl rfl (by kernel_rfl) (fun _ _ _ h => h) (by kernel_rfl) ?_ (by assumption) ?_
      rotate_left
      · intro wS hS; (try dsimp only at hS); go_simp <;> with_reducible rfl
      simp only [Act.put, List.setIfInBounds_toArray, List.set_cons_zero, List.set_cons_succ]
      refine held_take 25 (some 41) ?_ rfl rfl (by kernel_rfl) (fun _ _ _ h => h) (by kernel_rfl) ?_ (by assumption) ?_
      rotate_left
      · intro wS hS; (try dsimp only at hS); go_simp <;> with_reducible rfl
      simp only [Act.put, List.setIfInBounds_toArray, List.set_cons_zero, List.set_cons_succ]
      refine held_take 26 (some 42) ?_ rfl rfl (by kernel_rfl) (fun _ _ _ h => h) (by kernel_rfl) ?_ (by assumption) ?_
      rotate_left
      · intro wS hS; (try dsimp only at hS); go_simp <;> with_reducible rfl
      simp only [Act.put, List.setIfInBounds_toArray, List.set_cons_zero, List.set_cons_succ]
      refine held_take 27 (some 43) ?_ rfl rfl (by kernel_rfl) (fun _ _ _ h => h) (by kernel_rfl) ?_ (by assumption) ?_
      rotate_left
      · intro wS hS; (try dsimp only at hS); go_simp <;> with_reducible rfl
      simp only [Act.put, List.setIfInBounds_toArray, List.set_cons_zero, List.set_cons_succ]
      refine held_take 28 (some 44) ?_ rfl rfl (by kernel_rfl) (fun _ _ _ h => h) (by kernel_rfl) ?_ (by assumption) ?_
      rotate_left
      · intro wS hS; (try dsimp only at hS); go_simp <;> with_reducible rfl
      simp only [Act.put, List.setIfInBounds_toArray, List.set_cons_zero, List.set_cons_succ]
      refine held_take 29 (some 45) ?_ rfl rfl (by kernel_rfl) (fun _ _ _ h => h) (by kernel_rfl) ?_ (by assumption) ?_
      rotate_left
      · intro wS hS; (try dsimp only at hS); go_simp <;> with_reducible rfl
      simp only [Act.put, List.setIfInBounds_toArray, List.set_cons_zero, List.set_cons_succ]
      refine held_call 15 (some 31) 45 [.tmp 30] #[3] rfl rfl (by kernel_rfl) (by kernel_rfl) rfl (enters_of Try.func45 (by kernel_rfl) rfl) (HX.out _) (by kernel_rfl) ?_
      rintro e wq ⟨rfl, hq⟩
      have HY := Lib.hid (HY.out.trans (hq.mono HY.out.size)); clear hq
      refine ⟨_, rfl, (HK.out _ HY.out), ?_⟩
      have hHeld := (HK.out _ HY.out)
      simp only [Act.put, List.setIfInBounds_toArray, List.set_cons_zero, List.set_cons_succ]
      refine held_call 30 (some 46) 45 [.tmp 45] #[3] rfl rfl (by kernel_rfl) (by kernel_rfl) rfl (enters_of Try.func45 (by kernel_rfl) rfl) (HYY.out _) (by kernel_rfl) ?_
      rintro e wq ⟨rfl, hq⟩
      have HY := Lib.hid (HY.out.trans (hq.mono HY.out.size)); clear hq
      refine ⟨_, rfl, (HK.out _ HY.out), ?_⟩
      have hHeld := (HK.out _ HY.out)
      simp only [Act.put, List.setIfInBounds_toArray, List.set_cons_zero, List.set_cons_succ]
      refine held_take 31 (some 47) ?_ rfl rfl (by kernel_rfl) (fun _ _ _ h => h) (by kernel_rfl) ?_ (by assumption) ?_
      rotate_left
      · intro wS hS; (try dsimp only at hS); go_simp <;> with_reducible rfl
      simp only [Act.put, List.setIfInBounds_toArray, List.set_cons_zero, List.set_cons_succ]
      refine held_take 32 (some 48) ?_ rfl rfl (by kernel_rfl) (fun _ _ _ h => h) (by kernel_rfl) ?_ (by assumption) ?_
      rotate_left
      · intro wS hS; (try dsimp only at hS); go_simp <;> with_reducible rfl
      simp only [Act.put, List.setIfInBounds_toArray, List.set_cons_zero, List.set_cons_succ]
      refine held_take 33 (some 4) ?_ rfl rfl (by kernel_rfl) (fun _ _ _ h => h) (by kernel_rfl) ?_ (by assumption) ?_
      rotate_left
      · intro wS hS; (try dsimp only at hS); go_simp <;> with_reducible rfl
      simp only [Act.put, List.setIfInBounds_toArray, List.set_cons_zero, List.set_cons_succ]
      refine wpAnyH_done (by kernel_rfl) ?_ _
      go_wp2_with fail
      go_roundw
      case rel => exact ⟨i + 1, by rw [HN.out], by go_num, by omega, by have := HI.out; omega, HBR.out.trans (HY.out.mono HBR.out.size)⟩
      case measure => have := HI.out; simp [intOf]; omega
end Go.Proofs.Ytamogfcedkjmcaa
