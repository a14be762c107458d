
/- The contract of the reference's Turned. Conditions: the slices read. -/
import Derived.Test.YtamogfcedkjmcaaMv5
import Derived.Deep.CutRange
namespace Go.Proofs.Ytamogfcedkjmcaa
open Go.RowKit Go.Lib Go.Shelf

/-- One of four. -/
def sel4 (k : Nat) (a b c d : Int) : Int := if k = 0 then a else if k = 1 then b else if k = 2 then c else d
/-- A dot that is turned by k quarters. -/
def trn (k : Nat) (d : Dt) : Dt := ⟨sel4 k d.x (4095 - d.y) (4095 - d.x) d.y, sel4 k d.y d.x (4095 - d.y) (4095 - d.x), d.t, d.p⟩
/-- How many quarters. -/
def qrt (q : Int) : Nat := (q % 4).toNat
theorem qrt_lt (q : Int) : qrt q < 4 := by unfold qrt; omega
theorem tmod4 (q : Int) : q.tmod 4 = q % 4 ∨ (q % 4 ≠ 0 ∧ q.tmod 4 = q % 4 - 4) := by
  rw [Int.tmod_eq_emod]
  split
  · left; omega
  · right; simp only [Int.natAbs]; omega
theorem sel4_at {k : Nat} (h : k < 4) (a b c d : Int) : (#[Value.int .i64 a, .int .i64 b, .int .i64 c, .int .i64 d] : Array Value)[k]? = some (.int .i64 (sel4 k a b c d)) := by
  match k, h with
  | 0, _ => rfl
  | 1, _ => rfl
  | 2, _ => rfl
  | 3, _ => rfl
theorem own_allocs : ∀ (l : List (Array Value × TypeId)) {W : World} {B e s n : Nat} {v : Value} {xs : List Value}, W.ownsRow B e s v n xs → (allocs W l).ownsRow B e s v n xs
  | [], _, _, _, _, _, _, _, h => h
  | _ :: r, _, _, _, _, _, _, _, h => own_allocs r (h.alloc _)
theorem blk_built (W : World) (l : List (Array Value × TypeId)) (p1 p2 : Addr) (u1 u2 : Value) (t : TypeId) (cs : Array Value) : Blk ((((allocs W l).setCell p1 u1).setCell p2 u2).alloc (.cells cs t)) (W.heap.size + l.length) t cs := by
  have h := Blk.new (((allocs W l).setCell p1 u1).setCell p2 u2) t cs
  have e : (((allocs W l).setCell p1 u1).setCell p2 u2).heap.size = W.heap.size + l.length := by simp [World.setCell, allocs_size]
  rw [e] at h; exact h
theorem own_eq {W : World} {B e s n : Nat} {v : Value} {xs ys : List Value} (h : W.ownsRow B e s v n xs) (he : xs = ys) : W.ownsRow B e s v n ys := he ▸ h
set_option maxRecDepth 100000 in
set_option maxHeartbeats 8000000 in
theorem rturned_inv (P N : Int) (ds : List Dt) (A : Option Addr) (c : Nat) (q : Int) (w : World) (hA : Dz w A ds) (hz : ds.length ≤ 9000000000000000000) (_hq : -9223372036854775808 ≤ q ∧ q ≤ 9223372036854775807) (hv : ¬ Vd P N ds) :
    Calls Try.prog 36 #[.agg #[.int .i64 P, .int .i64 N, .slice A ds.length c], .int .i64 q] w (OutS (Vd P N ds) P N (ds.map (trn (qrt q))) w) := by
  have HV := Lib.hid (fun W (hb : Below w.heap.size w W) => rvalid_not P N ds A c W (hA.below hb (Nat.le_refl _)) hz hv)
  have HNO := Lib.hid hv
  clear hA hz hv
  have S_0 : Hid (Blk ((w.alloc (.cells #[.int .i64 P, .int .i64 N, .slice A ds.length c] 27)).alloc (.cells #[.int .i64 0, .int .i64 0, .slice none 0 0] 27)) w.heap.size 27 #[.int .i64 P, .int .i64 N, .slice A ds.length c]) := allocs_blk [(#[.int .i64 P, .int .i64 N, .slice A ds.length c], 27), (#[.int .i64 0, .int .i64 0, .slice none 0 0], 27)] w 0 _ rfl
  have U_0 : Hid (Blk ((w.alloc (.cells #[.int .i64 P, .int .i64 N, .slice A ds.length c] 27)).alloc (.cells #[.int .i64 0, .int .i64 0, .slice none 0 0] 27)) (w.heap.size + 1) 27 #[.int .i64 0, .int .i64 0, .slice none 0 0]) := allocs_blk [(#[.int .i64 P, .int .i64 N, .slice A ds.length c], 27), (#[.int .i64 0, .int .i64 0, .slice none 0 0], 27)] w 1 _ rfl
  have HB_0 : Hid (Below w.heap.size w ((w.alloc (.cells #[.int .i64 P, .int .i64 N, .slice A ds.length c] 27)).alloc (.cells #[.int .i64 0, .int .i64 0, .slice none 0 0] 27))) := allocs_below [(#[.int .i64 P, .int .i64 N, .slice A ds.length c], 27), (#[.int .i64 0, .int .i64 0, .slice none 0 0], 27)] w (Below.refl w.heap.size w) (Nat.le_refl _)
  go_enter Try.func36, Try.ntmps36
  have yy0 := S_0.out.cell (i := 0) (v := .int .i64 P) rfl; have yy1 := S_0.out.cell (i := 1) (v := .int .i64 N) rfl; have yy2 := S_0.out.cell (i := 2) (v := .slice A ds.length c) rfl
  go_wp2_with fail
  refine (HV.out _ HB_0.out).mono ?_
  rintro e v0 ⟨rfl, hb⟩
  clear yy0 yy1 yy2
  have S_1 : Hid (Blk v0 w.heap.size 27 #[.int .i64 P, .int .i64 N, .slice A ds.length c]) := Lib.hid (S_0.out.below hb S_0.out.lt)
  have U_1 : Hid (Blk v0 (w.heap.size + 1) 27 #[.int .i64 0, .int .i64 0, .slice none 0 0]) := Lib.hid (U_0.out.below hb U_0.out.lt)
  have HB_1 : Hid (Below w.heap.size w v0) := Lib.hid (HB_0.out.trans (hb.mono HB_0.out.size))
  clear hb S_0 U_0 HB_0
  have u0 := U_1.out.cell (i := 0) (v := .int .i64 0) rfl; have f0 := U_1.out.frozen 0; have u1 := U_1.out.cell (i := 1) (v := .int .i64 0) rfl; have f1 := U_1.out.frozen 1; have u2 := U_1.out.cell (i := 2) (v := .slice none 0 0) rfl; have f2 := U_1.out.frozen 2
  go_wp2_with fail
  clear u0 u1 u2 f0 f1 f2
  have HFU := Lib.hid (((U_1.out.set 0 (.int .i64 0)).set 1 (.int .i64 0)).set 2 (.slice none 0 0))
  have rU0 := HFU.out.cell (i := 0) (v := .int .i64 0) rfl
  have rU1 := HFU.out.cell (i := 1) (v := .int .i64 0) rfl
  have rU2 := HFU.out.cell (i := 2) (v := .slice none 0 0) rfl
  exact bodyPost_ret (v := .tuple #[.agg #[.int .i64 0, .int .i64 0, .slice none 0 0], .int .i64 50]) (by simp [results, Try.results36, go_sem, rU0, rU1, rU2]) rfl (OutS.no HNO.out rfl (((HB_1.out.setCell (p := ⟨(w.heap.size + 1), 0, none⟩) (by show w.heap.size ≤ (w.heap.size + 1); omega) (.int .i64 0)).setCell (p := ⟨(w.heap.size + 1), 1, none⟩) (by show w.heap.size ≤ (w.heap.size + 1); omega) (.int .i64 0)).setCell (p := ⟨(w.heap.size + 1), 2, none⟩) (by show w.heap.size ≤ (w.heap.size + 1); omega) (.slice none 0 0)))
set_option maxRecDepth 100000 in
set_option maxHeartbeats 8000000 in
theorem rturned_go (P N : Int) (ds : List Dt) (A : Option Addr) (c : Nat) (q : Int) (w : World) (hA : Dz w A ds) (hz : ds.length ≤ 9000000000000000000) (_hq : -9223372036854775808 ≤ q ∧ q ≤ 9223372036854775807) (hv : Vd P N ds) :
    Calls Try.prog 36 #[.agg #[.int .i64 P, .int .i64 N, .slice A ds.length c], .int .i64 q] w (OutS (Vd P N ds) P N (ds.map (trn (qrt q))) w) := by
  have hl := hv.2.2.1
  obtain ⟨b, o, rfl⟩ := hA.some (by omega)
  have HAT := Lib.hid hA.at
  have HV := Lib.hid (fun W (hb : Below w.heap.size w W) => rvalid_yes P N ds _ c W (hA.below hb (Nat.le_refl _)) hz hv)
  have HOK := Lib.hid hv.mem
  have HYES := Lib.hid hv
  have HLN := Lib.hid hl
  have hkl := qrt_lt q
  obtain ⟨k, hk⟩ : ∃ k, k = qrt q := ⟨_, rfl⟩
  rw [← hk] at hkl ⊢
  have HKL := Lib.hid hkl
  obtain ⟨m, hm⟩ : ∃ m, m = q.tmod 4 := ⟨_, rfl⟩
  have HM : Hid ((m < 0 → m + 4 = (k : Int)) ∧ (¬ m < 0 → m = (k : Int)) ∧ -4 < m ∧ m < 4) := by
    have h1 : (k : Int) = q % 4 := by rw [hk]; unfold qrt; omega
    have h2 := tmod4 q
    exact Lib.hid ⟨by omega, by omega, by omega, by omega⟩
  have hm2 : q.tmod 4 = m := hm.symm
  clear hA hz hv hl hkl hm hk _hq
  have S_0 : Hid (Blk ((w.alloc (.cells #[.int .i64 P, .int .i64 N, .slice (some ⟨b, o, none⟩) ds.length c] 27)).alloc (.cells #[.int .i64 0, .int .i64 0, .slice none 0 0] 27)) w.heap.size 27 #[.int .i64 P, .int .i64 N, .slice (some ⟨b, o, none⟩) ds.length c]) := allocs_blk [(#[.int .i64 P, .int .i64 N, .slice (some ⟨b, o, none⟩) ds.length c], 27), (#[.int .i64 0, .int .i64 0, .slice none 0 0], 27)] w 0 _ rfl
  have U_0 : Hid (Blk ((w.alloc (.cells #[.int .i64 P, .int .i64 N, .slice (some ⟨b, o, none⟩) ds.length c] 27)).alloc (.cells #[.int .i64 0, .int .i64 0, .slice none 0 0] 27)) (w.heap.size + 1) 27 #[.int .i64 0, .int .i64 0, .slice none 0 0]) := allocs_blk [(#[.int .i64 P, .int .i64 N, .slice (some ⟨b, o, none⟩) ds.length c], 27), (#[.int .i64 0, .int .i64 0, .slice none 0 0], 27)] w 1 _ rfl
  have HB_0 : Hid (Below w.heap.size w ((w.alloc (.cells #[.int .i64 P, .int .i64 N, .slice (some ⟨b, o, none⟩) ds.length c] 27)).alloc (.cells #[.int .i64 0, .int .i64 0, .slice none 0 0] 27))) := allocs_below [(#[.int .i64 P, .int .i64 N, .slice (some ⟨b, o, none⟩) ds.length c], 27), (#[.int .i64 0, .int .i64 0, .slice none 0 0], 27)] w (Below.refl w.heap.size w) (Nat.le_refl _)
  go_enter Try.func36, Try.ntmps36
  have yy0 := S_0.out.cell (i := 0) (v := .int .i64 P) rfl; have yy1 := S_0.out.cell (i := 1) (v := .int .i64 N) rfl; have yy2 := S_0.out.cell (i := 2) (v := .slice (some ⟨b, o, none⟩) ds.length c) rfl
  go_wp2_with fail
  refine (HV.out _ HB_0.out).mono ?_
  rintro e v0 ⟨rfl, hb⟩
  have LW : Hid (w.heap.size + 1 < v0.heap.size) := Lib.hid (U_0.out.below hb U_0.out.lt).lt
  clear yy0 yy1 yy2
  have S_1 : Hid (Blk v0 w.heap.size 27 #[.int .i64 P, .int .i64 N, .slice (some ⟨b, o, none⟩) ds.length c]) := Lib.hid (S_0.out.below hb S_0.out.lt)
  have U_1 : Hid (Blk v0 (w.heap.size + 1) 27 #[.int .i64 0, .int .i64 0, .slice none 0 0]) := Lib.hid (U_0.out.below hb U_0.out.lt)
  have HB_1 : Hid (Below w.heap.size w v0) := Lib.hid (HB_0.out.trans (hb.mono HB_0.out.size))
  clear hb S_0 U_0 HB_0
  go_upto_if 18 with fail
  go_cut [6] from 19 to 20 (fun v wx => v = .int .i64 (k : Nat) ∧ wx = v0)
  case first =>
    have hm3 := HM.out
    by_cases hneg : m < 0
    case pos =>
      have a1 : IntKind.i64.wrap (m + 4) = (k : Nat) := by rw [IntWalk.i64_in _ (by omega)]; omega
      clear hm3
      go_wp2_with fail
      go_meet
      exact ⟨rfl, rfl⟩
    case neg =>
      have HA1 : Hid (m = (k : Nat)) := Lib.hid (by omega)
      clear hm3
      go_wp2_with fail
      go_meet
      exact ⟨by rw [HA1.out], rfl⟩
  case rest =>
    obtain ⟨rfl, rfl⟩ := hcut
    rename World => v0
    have s0 := S_1.out.cell (i := 0) (v := .int .i64 P) rfl; have s1 := S_1.out.cell (i := 1) (v := .int .i64 N) rfl
    have HS := Lib.hid (S_1.out.alloc (.cells #[.int .i64 P, .int .i64 N, .slice none 0 0] 27)); have HU := Lib.hid (U_1.out.alloc (.cells #[.int .i64 P, .int .i64 N, .slice none 0 0] 27)); have HO := Lib.hid (Blk.new v0 27 #[.int .i64 P, .int .i64 N, .slice none 0 0])
    have HB := Lib.hid (HB_1.out.alloc HB_1.out.size (.cells #[.int .i64 P, .int .i64 N, .slice none 0 0] 27))
    have HOWN : Hid ((v0.alloc (.cells #[.int .i64 P, .int .i64 N, .slice none 0 0] 27)).ownsRow (v0.heap.size + 1) 24 4 (.slice none 0 0) 0 (flat ((ds.take 0).map (trn k)))) := Lib.hid (own_none _ _)
    have yS := HS.out.cell (i := 2) (v := .slice (some ⟨b, o, none⟩) ds.length c) rfl
    clear S_1 U_1 HB_1 hm2
    go_wp2_with fail
    clear s0 s1 yS
    go_loopw [8] (fun ii wr => ∃ (i : Nat) (v : Value), ii = .int .i64 i ∧ i ≤ ds.length ∧ Blk wr w.heap.size 27 #[.int .i64 P, .int .i64 N, .slice (some ⟨b, o, none⟩) ds.length c] ∧ Blk wr (w.heap.size + 1) 27 #[.int .i64 0, .int .i64 0, .slice none 0 0] ∧ Blk wr v0.heap.size 27 #[.int .i64 P, .int .i64 N, v] ∧ wr.ownsRow (v0.heap.size + 1) 24 4 v i (flat ((ds.take i).map (trn k))) ∧ Below w.heap.size w wr) (fun ii _ => ds.length - (intOf ii).toNat)
    case atStart => exact ⟨0, _, rfl, Nat.zero_le _, HS.out, HU.out, HO.out, HOWN.out, HB.out⟩
    case round =>
      obtain ⟨i, v, rfl, hi, hS, hU, hO, hW, hB⟩ := hrel
      clear HS HU HO HOWN HB
      have HS := Lib.hid hS; have HU := Lib.hid hU; have HO := Lib.hid hO; have HW := Lib.hid hW; have HB := Lib.hid hB; have HI := Lib.hid hi
      clear hS hU hO hW hB hi
      have yS := HS.out.cell (i := 2) (v := .slice (some ⟨b, o, none⟩) ds.length c) rfl
      have VO : Hid (v0.heap.size < wr.heap.size) := Lib.hid HO.out.lt
      obtain ⟨A2, c2, hve⟩ : ∃ A2 c2, v = .slice A2 i c2 := by
        obtain ⟨h1, A2, c2, h2, -⟩ := Dz.of_own HW.out
        exact ⟨A2, c2, by rw [h2, ← h1]⟩
      subst hve
      by_cases hlt : i < ds.length
      case neg =>
        have hni : ¬ ((i : Int) < (ds.length : Int)) := by omega
        have hie : i = ds.length := by have := HI.out; omega
        have HTK : Hid (ds.take i = ds) := Lib.hid (by rw [hie]; exact List.take_length)
        have HIE : Hid (i = (ds.map (trn k)).length) := Lib.hid (by rw [List.length_map]; exact hie)
        clear hie hlt
        have o0 := HO.out.cell (i := 0) (v := .int .i64 P) rfl; have o1 := HO.out.cell (i := 1) (v := .int .i64 N) rfl; have o2 := HO.out.cell (i := 2) (v := .slice A2 i c2) rfl
        have u0 := HU.out.cell (i := 0) (v := .int .i64 0) rfl; have f0 := HU.out.frozen 0; have u1 := HU.out.cell (i := 1) (v := .int .i64 0) rfl; have f1 := HU.out.frozen 1; have u2 := HU.out.cell (i := 2) (v := .slice none 0 0) rfl; have f2 := HU.out.frozen 2
        go_wp2_with fail
        clear u0 u1 u2 f0 f1 f2 o0 o1 o2
        have HFU := Lib.hid (((HU.out.set 0 (.int .i64 P)).set 1 (.int .i64 N)).set 2 (.slice A2 i c2))
        have rU0 := HFU.out.cell (i := 0) (v := .int .i64 P) rfl
        have rU1 := HFU.out.cell (i := 1) (v := .int .i64 N) rfl
        have rU2 := HFU.out.cell (i := 2) (v := .slice A2 i c2) rfl
        exact bodyPost_ret (v := .tuple #[.agg #[.int .i64 P, .int .i64 N, .slice A2 i c2], .int .i64 0]) (by simp [results, Try.results36, go_sem, rU0, rU1, rU2]) rfl (OutS.yes HYES.out rfl (HTK.out ▸ own_base_le (own_far (p := ⟨w.heap.size + 1, 2, none⟩) (own_far (p := ⟨w.heap.size + 1, 1, none⟩) (own_far (p := ⟨w.heap.size + 1, 0, none⟩) HW.out (own_ne HW.out (by have := LW.out; show w.heap.size + 1 < v0.heap.size + 1; omega)) (.int .i64 P)) (own_ne HW.out (by have := LW.out; show w.heap.size + 1 < v0.heap.size + 1; omega)) (.int .i64 N)) (own_ne HW.out (by have := LW.out; show w.heap.size + 1 < v0.heap.size + 1; omega)) (.slice A2 i c2)) (by have := LW.out; omega)) HIE.out (((HB.out.setCell (p := ⟨(w.heap.size + 1), 0, none⟩) (by show w.heap.size ≤ (w.heap.size + 1); omega) (.int .i64 P)).setCell (p := ⟨(w.heap.size + 1), 1, none⟩) (by show w.heap.size ≤ (w.heap.size + 1); omega) (.int .i64 N)).setCell (p := ⟨(w.heap.size + 1), 2, none⟩) (by show w.heap.size ≤ (w.heap.size + 1); omega) (.slice A2 i c2)))
      case pos =>
        obtain ⟨d, hd⟩ : ∃ d, d = ds[i] := ⟨_, rfl⟩
        have hD := fun W hb => HAT.out W hb i hlt
        rw [← hd] at hD
        obtain ⟨k0, k1, k2, k3⟩ := hD wr HB.out
        have HTK : Hid (ds.take (i + 1) = ds.take i ++ [d]) := Lib.hid (by rw [hd]; exact List.take_succ_eq_append_getElem hlt)
        have HLT := Lib.hid hlt
        have q1 : (0 : Int) ≤ (i : Int) := by omega
        have q2 : (i : Int) < (ds.length : Int) := by omega
        have hdk := HOK.out d (by rw [hd]; exact List.getElem_mem _)
        unfold Dt.ok at hdk
        have a1 : IntKind.i64.wrap (4095 - d.x) = 4095 - d.x := IntWalk.i64_in _ (by omega)
        have a2 : IntKind.i64.wrap (4095 - d.y) = 4095 - d.y := IntWalk.i64_in _ (by omega)
        have b1 : (0 : Int) ≤ (k : Int) := by omega
        have b2 : (k : Int) < 4 := by have := HKL.out; omega
        clear hD hd hlt hdk
        have HN0 := Lib.hid (Blk.new wr 24 #[.int .i64 d.x, .int .i64 d.y, .int .i64 d.t, .int .i64 d.p])
        have g0 := HN0.out.cell (i := 0) (v := .int .i64 d.x) rfl; have g1 := HN0.out.cell (i := 1) (v := .int .i64 d.y) rfl
        have HD1 : Hid (Blk ((wr.alloc (.cells #[.int .i64 d.x, .int .i64 d.y, .int .i64 d.t, .int .i64 d.p] 24)).alloc (.cells #[.int .i64 d.x, .int .i64 (4095 - d.y), .int .i64 (4095 - d.x), .int .i64 d.y] 3)) wr.heap.size 24 #[.int .i64 d.x, .int .i64 d.y, .int .i64 d.t, .int .i64 d.p]) := Lib.hid (allocs_blk [(#[.int .i64 d.x, .int .i64 d.y, .int .i64 d.t, .int .i64 d.p], 24), (#[.int .i64 d.x, .int .i64 (4095 - d.y), .int .i64 (4095 - d.x), .int .i64 d.y], 3)] wr 0 _ rfl); have HI1 : Hid (Blk ((wr.alloc (.cells #[.int .i64 d.x, .int .i64 d.y, .int .i64 d.t, .int .i64 d.p] 24)).alloc (.cells #[.int .i64 d.x, .int .i64 (4095 - d.y), .int .i64 (4095 - d.x), .int .i64 d.y] 3)) (wr.heap.size + 1) 3 #[.int .i64 d.x, .int .i64 (4095 - d.y), .int .i64 (4095 - d.x), .int .i64 d.y]) := Lib.hid (allocs_blk [(#[.int .i64 d.x, .int .i64 d.y, .int .i64 d.t, .int .i64 d.p], 24), (#[.int .i64 d.x, .int .i64 (4095 - d.y), .int .i64 (4095 - d.x), .int .i64 d.y], 3)] wr 1 _ rfl)
        have HD2 : Hid (Blk (((wr.alloc (.cells #[.int .i64 d.x, .int .i64 d.y, .int .i64 d.t, .int .i64 d.p] 24)).alloc (.cells #[.int .i64 d.x, .int .i64 (4095 - d.y), .int .i64 (4095 - d.x), .int .i64 d.y] 3)).alloc (.cells #[.int .i64 d.y, .int .i64 d.x, .int .i64 (4095 - d.y), .int .i64 (4095 - d.x)] 3)) wr.heap.size 24 #[.int .i64 d.x, .int .i64 d.y, .int .i64 d.t, .int .i64 d.p]) := Lib.hid (allocs_blk [(#[.int .i64 d.x, .int .i64 d.y, .int .i64 d.t, .int .i64 d.p], 24), (#[.int .i64 d.x, .int .i64 (4095 - d.y), .int .i64 (4095 - d.x), .int .i64 d.y], 3), (#[.int .i64 d.y, .int .i64 d.x, .int .i64 (4095 - d.y), .int .i64 (4095 - d.x)], 3)] wr 0 _ rfl); have HI2 : Hid (Blk (((wr.alloc (.cells #[.int .i64 d.x, .int .i64 d.y, .int .i64 d.t, .int .i64 d.p] 24)).alloc (.cells #[.int .i64 d.x, .int .i64 (4095 - d.y), .int .i64 (4095 - d.x), .int .i64 d.y] 3)).alloc (.cells #[.int .i64 d.y, .int .i64 d.x, .int .i64 (4095 - d.y), .int .i64 (4095 - d.x)] 3)) (wr.heap.size + 2) 3 #[.int .i64 d.y, .int .i64 d.x, .int .i64 (4095 - d.y), .int .i64 (4095 - d.x)]) := Lib.hid (allocs_blk [(#[.int .i64 d.x, .int .i64 d.y, .int .i64 d.t, .int .i64 d.p], 24), (#[.int .i64 d.x, .int .i64 (4095 - d.y), .int .i64 (4095 - d.x), .int .i64 d.y], 3), (#[.int .i64 d.y, .int .i64 d.x, .int .i64 (4095 - d.y), .int .i64 (4095 - d.x)], 3)] wr 2 _ rfl)
        obtain ⟨x', hx⟩ : ∃ x, x = sel4 k d.x (4095 - d.y) (4095 - d.x) d.y := ⟨_, rfl⟩
        obtain ⟨y', hy⟩ : ∃ y, y = sel4 k d.y d.x (4095 - d.y) (4095 - d.x) := ⟨_, rfl⟩
        have i1 := HI1.out.cell (i := k) (v := .int .i64 x') (by rw [hx]; exact sel4_at HKL.out _ _ _ _)
        have i2 := HI2.out.cell (i := k) (v := .int .i64 y') (by rw [hy]; exact sel4_at HKL.out _ _ _ _)
        have HTR : Hid (trn k d = ⟨x', y', d.t, d.p⟩) := Lib.hid (by rw [hx, hy]; rfl)
        clear hx hy
        have h0 := HD1.out.cell (i := 0) (v := .int .i64 d.x) rfl; have h1 := HD1.out.cell (i := 1) (v := .int .i64 d.y) rfl
        have j1 := HD2.out.cell (i := 1) (v := .int .i64 d.y) rfl; have j2 := HD2.out.frozen 1
        have HD3 : Hid (Blk (((wr.alloc (.cells #[.int .i64 d.x, .int .i64 y', .int .i64 d.t, .int .i64 d.p] 24)).alloc (.cells #[.int .i64 d.x, .int .i64 (4095 - d.y), .int .i64 (4095 - d.x), .int .i64 d.y] 3)).alloc (.cells #[.int .i64 d.y, .int .i64 d.x, .int .i64 (4095 - d.y), .int .i64 (4095 - d.x)] 3)) wr.heap.size 24 #[.int .i64 d.x, .int .i64 y', .int .i64 d.t, .int .i64 d.p]) := Lib.hid (allocs_blk [(#[.int .i64 d.x, .int .i64 y', .int .i64 d.t, .int .i64 d.p], 24), (#[.int .i64 d.x, .int .i64 (4095 - d.y), .int .i64 (4095 - d.x), .int .i64 d.y], 3), (#[.int .i64 d.y, .int .i64 d.x, .int .i64 (4095 - d.y), .int .i64 (4095 - d.x)], 3)] wr 0 _ rfl)
        have l1 := HD3.out.cell (i := 0) (v := .int .i64 d.x) rfl; have l2 := HD3.out.frozen 0
        have HD4 : Hid (Blk (((wr.alloc (.cells #[.int .i64 x', .int .i64 y', .int .i64 d.t, .int .i64 d.p] 24)).alloc (.cells #[.int .i64 d.x, .int .i64 (4095 - d.y), .int .i64 (4095 - d.x), .int .i64 d.y] 3)).alloc (.cells #[.int .i64 d.y, .int .i64 d.x, .int .i64 (4095 - d.y), .int .i64 (4095 - d.x)] 3)) wr.heap.size 24 #[.int .i64 x', .int .i64 y', .int .i64 d.t, .int .i64 d.p]) := Lib.hid (allocs_blk [(#[.int .i64 x', .int .i64 y', .int .i64 d.t, .int .i64 d.p], 24), (#[.int .i64 d.x, .int .i64 (4095 - d.y), .int .i64 (4095 - d.x), .int .i64 d.y], 3), (#[.int .i64 d.y, .int .i64 d.x, .int .i64 (4095 - d.y), .int .i64 (4095 - d.x)], 3)] wr 0 _ rfl)
        have m0 := HD4.out.cell (i := 0) (v := .int .i64 x') rfl; have m1 := HD4.out.cell (i := 1) (v := .int .i64 y') rfl; have m2 := HD4.out.cell (i := 2) (v := .int .i64 d.t) rfl; have m3 := HD4.out.cell (i := 3) (v := .int .i64 d.p) rfl
        have HO4 : Hid (Blk (((wr.alloc (.cells #[.int .i64 x', .int .i64 y', .int .i64 d.t, .int .i64 d.p] 24)).alloc (.cells #[.int .i64 d.x, .int .i64 (4095 - d.y), .int .i64 (4095 - d.x), .int .i64 d.y] 3)).alloc (.cells #[.int .i64 d.y, .int .i64 d.x, .int .i64 (4095 - d.y), .int .i64 (4095 - d.x)] 3)) v0.heap.size 27 #[.int .i64 P, .int .i64 N, .slice A2 i c2]) := Lib.hid (allocs_keep [(#[.int .i64 x', .int .i64 y', .int .i64 d.t, .int .i64 d.p], 24), (#[.int .i64 d.x, .int .i64 (4095 - d.y), .int .i64 (4095 - d.x), .int .i64 d.y], 3), (#[.int .i64 d.y, .int .i64 d.x, .int .i64 (4095 - d.y), .int .i64 (4095 - d.x)], 3)] wr HO.out)
        have HU4 := Lib.hid (allocs_keep [(#[.int .i64 x', .int .i64 y', .int .i64 d.t, .int .i64 d.p], 24), (#[.int .i64 d.x, .int .i64 (4095 - d.y), .int .i64 (4095 - d.x), .int .i64 d.y], 3), (#[.int .i64 d.y, .int .i64 d.x, .int .i64 (4095 - d.y), .int .i64 (4095 - d.x)], 3)] wr HU.out); have HS4 := Lib.hid (allocs_keep [(#[.int .i64 x', .int .i64 y', .int .i64 d.t, .int .i64 d.p], 24), (#[.int .i64 d.x, .int .i64 (4095 - d.y), .int .i64 (4095 - d.x), .int .i64 d.y], 3), (#[.int .i64 d.y, .int .i64 d.x, .int .i64 (4095 - d.y), .int .i64 (4095 - d.x)], 3)] wr HS.out)
        have HB4 := Lib.hid (allocs_below [(#[.int .i64 x', .int .i64 y', .int .i64 d.t, .int .i64 d.p], 24), (#[.int .i64 d.x, .int .i64 (4095 - d.y), .int .i64 (4095 - d.x), .int .i64 d.y], 3), (#[.int .i64 d.y, .int .i64 d.x, .int .i64 (4095 - d.y), .int .i64 (4095 - d.x)], 3)] wr HB.out HB.out.size)
        have HW4 := Lib.hid (own_allocs [(#[.int .i64 x', .int .i64 y', .int .i64 d.t, .int .i64 d.p], 24), (#[.int .i64 d.x, .int .i64 (4095 - d.y), .int .i64 (4095 - d.x), .int .i64 d.y], 3), (#[.int .i64 d.y, .int .i64 d.x, .int .i64 (4095 - d.y), .int .i64 (4095 - d.x)], 3)] HW.out)
        have HN5 := Lib.hid (allocs_blk [(#[.int .i64 x', .int .i64 y', .int .i64 d.t, .int .i64 d.p], 24), (#[.int .i64 d.x, .int .i64 (4095 - d.y), .int .i64 (4095 - d.x), .int .i64 d.y], 3), (#[.int .i64 d.y, .int .i64 d.x, .int .i64 (4095 - d.y), .int .i64 (4095 - d.x)], 3), (#[.int .i64 x', .int .i64 y', .int .i64 d.t, .int .i64 d.p], 24)] wr 3 _ rfl)
        have y2 := HO4.out.cell (i := 2) (v := .slice A2 i c2) rfl
        have q5 : (i : Int) ≤ 9223372036854775806 := by have := HLT.out; have := HLN.out; omega
        have HI3 : Hid (i ≤ 1000000) := Lib.hid (by have := HLT.out; have := HLN.out; omega)
        go_wp2_with (at_builtin; go_loud (refine wpList_append_dot rfl _ _ rfl (v0.heap.size + 1) (.slice A2 i c2) i ((ds.take i).map (trn k)) rfl (HW4.out.alloc _) (wr.heap.size + 3) ⟨x', y', d.t, d.p⟩ rfl HN5.out HI3.out (by have := VO.out; simp; omega) ?_; intro v2 w2 hown2 hgrow2; obtain ⟨g2, c3, rfl, hg2⟩ := own_pos hown2; have HG2 := Lib.hid hg2; have HW5 := Lib.hid hown2; have HO5 := Lib.hid ((HO4.out.alloc _).only hgrow2 (Ne.symm (own_ne HW4.out (by omega)))); have HU5 := Lib.hid ((HU4.out.alloc _).only hgrow2 (Ne.symm (own_ne HW4.out (by have := LW.out; omega)))); have HS5 := Lib.hid ((HS4.out.alloc _).only hgrow2 (Ne.symm (own_ne HW4.out (by have := LW.out; omega)))); have HB5 := Lib.hid ((HB4.out.alloc HB4.out.size _).grown hgrow2 (HB4.out.alloc HB4.out.size _).size (fun k hk => by have := own_base HW4.out k hk; have := LW.out; omega)); have yy0 := HO5.out.cell (i := 2) (v := .slice A2 i c2) rfl; have yy1 := HO5.out.frozen 2; have yS := HS5.out.cell (i := 2) (v := .slice (some ⟨b, o, none⟩) ds.length c) rfl; clear hown2 hgrow2 hg2 y2; skip))
        refine ⟨⟨i + 1, .slice (some ⟨g2, 0, none⟩) (i + 1) c3, by simp, by have := HLT.out; omega, ?_, ?_, ?_, ?_, ?_⟩, ?_⟩
        · exact HS5.out.far (p := ⟨v0.heap.size, 2, none⟩) (by have := LW.out; show w.heap.size ≠ v0.heap.size; omega) _
        · exact HU5.out.far (p := ⟨v0.heap.size, 2, none⟩) (by have := LW.out; show w.heap.size + 1 ≠ v0.heap.size; omega) _
        · exact HO5.out.set 2 _
        · have hfl : flat ((ds.take (i + 1)).map (trn k)) = flat ((ds.take i).map (trn k) ++ [⟨x', y', d.t, d.p⟩]) := by rw [HTK.out, List.map_append, List.map_singleton, HTR.out]
          refine own_eq ?_ hfl.symm
          exact own_far (p := ⟨v0.heap.size, 2, none⟩) HW5.out (own_ne HW5.out (by show v0.heap.size < v0.heap.size + 1; omega)) _
        · exact HB5.out.setCell (p := ⟨v0.heap.size, 2, none⟩) (by have := LW.out; show w.heap.size ≤ v0.heap.size; omega) _
        · have := HLT.out; simp [intOf]; omega
end Go.Proofs.Ytamogfcedkjmcaa
