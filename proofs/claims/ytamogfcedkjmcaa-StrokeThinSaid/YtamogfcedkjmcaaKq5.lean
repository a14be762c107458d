
/- The contract of Kept. Conditions: the slices read. -/
import Derived.Test.YtamogfcedkjmcaaMo5
namespace Go.Proofs.Ytamogfcedkjmcaa
open Go.RowKit Go.Lib Go.Shelf

def dAt (ds : List Dt) (k : Int) : Dt := ds.getD k.toNat ⟨0, 0, 0, 0⟩
theorem keptD_eq (ds : List Dt) (l : List Int) : keptD ds l = l.map (dAt ds) := rfl
/-- Strictly ascending indices. -/
def AscP (n : Nat) (l : List Int) : Prop := ∀ i, i < l.length → OkK n l i
theorem AscP.at {n : Nat} {l : List Int} (h : AscP n l) : ∀ (i : Nat) (k : Int), l[i]? = some k → (i : Int) ≤ k ∧ k < n
  | 0, k, hk => by
    have h1 := h 0 (List.getElem?_eq_some_iff.1 hk).1 k hk
    omega
  | i + 1, k, hk => by
    have hl := (List.getElem?_eq_some_iff.1 hk).1
    have h1 := h (i + 1) hl k hk
    have h2 : l[i]? = some l[i] := List.getElem?_eq_getElem (by omega)
    have h3 := AscP.at h i _ h2
    have h4 := h1.2 (by omega) _ h2
    omega
theorem AscP.len {n : Nat} {l : List Int} (h : AscP n l) : l.length ≤ n := by
  by_cases h0 : l.length = 0
  · omega
  · have h1 := h.at (l.length - 1) _ (List.getElem?_eq_getElem (by omega))
    omega
theorem kept_iff {P N : Int} {ds : List Dt} {l : List Int} (h : AscP ds.length l) : (Vd P N ds ∧ Vd P N (keptD ds l)) ↔ KeptP P N ds l := by
  constructor
  · rintro ⟨h1, h2⟩
    have h3 := h2.2.2.1.1
    rw [keptD_eq, List.length_map] at h3
    exact ⟨h1, ⟨h3, h.len⟩, h⟩
  · intro h1
    exact ⟨h1.1, h1.vd⟩
set_option maxRecDepth 100000 in
set_option maxHeartbeats 8000000 in
theorem pkept1_any (ds : List Dt) (b o c : Nat) (k : Nat) (d : Dt) (bs : Nat) (w : World) (hbs : bs < w.heap.size) (hb : b < w.heap.size) (hk : k < ds.length) (hS : w.cell? ⟨bs, 2, none⟩ = some (.slice (some ⟨b, o, none⟩) ds.length c))
    (hd : w.cell? ⟨b, o + k * 4, none⟩ = some (.int .i64 d.x) ∧ w.cell? ⟨b, o + k * 4 + 1, none⟩ = some (.int .i64 d.y) ∧ w.cell? ⟨b, o + k * 4 + 2, none⟩ = some (.int .i64 d.t) ∧ w.cell? ⟨b, o + k * 4 + 3, none⟩ = some (.int .i64 d.p)) :
    Calls Try.prog 51 #[.int .i64 (k : Nat), .pointer (some ⟨bs, 0, none⟩)] w fun e w' => e = .returned (.agg #[.int .i64 d.x, .int .i64 d.y, .int .i64 d.t, .int .i64 d.p]) ∧ Below w.heap.size w w' := by
  obtain ⟨d0, d1, d2, d3⟩ := hd
  have q1 : (0 : Int) ≤ (k : Int) := by omega
  have q2 : (k : Int) < (ds.length : Int) := by omega
  have R_0 : Hid (Blk (w.alloc (.cells #[.int .i64 0, .int .i64 0, .int .i64 0, .int .i64 0] 24)) w.heap.size 24 #[.int .i64 0, .int .i64 0, .int .i64 0, .int .i64 0]) := allocs_blk [(#[.int .i64 0, .int .i64 0, .int .i64 0, .int .i64 0], 24)] w 0 _ rfl
  have HB_0 : Hid (Below w.heap.size w (w.alloc (.cells #[.int .i64 0, .int .i64 0, .int .i64 0, .int .i64 0] 24))) := allocs_below [(#[.int .i64 0, .int .i64 0, .int .i64 0, .int .i64 0], 24)] w (Below.refl w.heap.size w) (Nat.le_refl _)
  have s2 : (w.alloc (.cells #[.int .i64 0, .int .i64 0, .int .i64 0, .int .i64 0] 24)).cell? ⟨bs, 2, none⟩ = _ := (HB_0.out.cell (p := ⟨bs, 2, none⟩) hbs).trans hS
  have e0 : (w.alloc (.cells #[.int .i64 0, .int .i64 0, .int .i64 0, .int .i64 0] 24)).cell? ⟨b, o + k * 4, none⟩ = _ := (HB_0.out.cell (p := ⟨b, _, none⟩) hb).trans d0
  have e1 : (w.alloc (.cells #[.int .i64 0, .int .i64 0, .int .i64 0, .int .i64 0] 24)).cell? ⟨b, o + k * 4 + 1, none⟩ = _ := (HB_0.out.cell (p := ⟨b, _, none⟩) hb).trans d1
  have e2 : (w.alloc (.cells #[.int .i64 0, .int .i64 0, .int .i64 0, .int .i64 0] 24)).cell? ⟨b, o + k * 4 + 2, none⟩ = _ := (HB_0.out.cell (p := ⟨b, _, none⟩) hb).trans d2
  have e3 : (w.alloc (.cells #[.int .i64 0, .int .i64 0, .int .i64 0, .int .i64 0] 24)).cell? ⟨b, o + k * 4 + 3, none⟩ = _ := (HB_0.out.cell (p := ⟨b, _, none⟩) hb).trans d3
  clear hbs hb hk hS d0 d1 d2 d3
  have yy0 := R_0.out.cell (i := 0) (v := .int .i64 0) rfl; have yy1 := R_0.out.cell (i := 1) (v := .int .i64 0) rfl; have yy2 := R_0.out.cell (i := 2) (v := .int .i64 0) rfl; have yy3 := R_0.out.cell (i := 3) (v := .int .i64 0) rfl
  have f0 := R_0.out.frozen 0
  have f1 := R_0.out.frozen 1
  have f2 := R_0.out.frozen 2
  have f3 := R_0.out.frozen 3
  go_enter Try.func51, Try.ntmps51
  go_wp2_with fail
  refine bodyPost_ret (v := .agg #[.int .i64 d.x, .int .i64 d.y, .int .i64 d.t, .int .i64 d.p]) (by simp [results, Try.results51, go_sem]) rfl ⟨rfl, ?_⟩
  exact allocs_below [(#[.int .i64 d.x, .int .i64 d.y, .int .i64 d.t, .int .i64 d.p], 24)] w (Below.refl _ _) (Nat.le_refl _)
set_option maxRecDepth 100000 in
set_option maxHeartbeats 8000000 in
theorem pkept_any (P N : Int) (ds : List Dt) (l : List Int) (A A2 : Option Addr) (c c2 : Nat) (w : World) (hA : Dz w A ds) (hA2 : Iz w A2 l) (hz : ds.length ≤ 9000000000000000000) (hz2 : l.length ≤ 9000000000000000000) :
    Calls Try.prog 26 #[.agg #[.int .i64 P, .int .i64 N, .slice A ds.length c], .slice A2 l.length c2] w (OutT (KeptP P N ds l) P N (keptD ds l) w) := by
  obtain ⟨es, hes⟩ : ∃ es, es = keptD ds l := ⟨_, rfl⟩
  have HCALL : Hid (AscP ds.length l → ∀ W bs, Below w.heap.size w W → Blk W bs 27 #[.int .i64 P, .int .i64 N, .slice A ds.length c] → Calls Try.prog 50 #[.agg #[.int .i64 P, .int .i64 N, .slice A ds.length c], .slice A2 l.length c2, .func (.func 51) #[] #[.pointer (some ⟨bs, 0, none⟩)]] W (OutT (KeptP P N ds l) P N es W)) := Lib.hid (fun hasc W bs hb h1 => by
    rw [hes, keptD_eq]
    refine (predrawnI_any P N ds A c l A2 c2 51 [.pointer (some ⟨bs, 0, none⟩)] (dAt ds) W (hA.below hb (Nat.le_refl _)) hz (hA2.below hb (Nat.le_refl _)) (fun hv => Nat.le_trans hasc.len hv.2.2.1.2) (enters_of Try.func51 (by kernel_rfl) rfl) (fun hv W2 hb2 d hd => ?_)).mono fun e w' h => h.iff (kept_iff hasc)
    obtain ⟨i, hi, rfl⟩ := List.getElem_of_mem hd
    have h2 := hasc.at i _ (List.getElem?_eq_getElem hi)
    obtain ⟨b, o, rfl, hbw, -⟩ := hA (by omega)
    obtain ⟨k, hk⟩ : ∃ k : Nat, l[i] = (k : Int) := ⟨l[i].toNat, by omega⟩
    rw [hk] at h2 ⊢
    have h3 : k < ds.length := by omega
    have h4 : dAt ds (k : Int) = ds[k] := by unfold dAt; rw [List.getD_eq_getElem?_getD, Int.toNat_natCast, List.getElem?_eq_getElem h3]; rfl
    rw [h4]
    exact pkept1_any ds b o c k ds[k] bs W2 (Nat.lt_of_lt_of_le h1.lt hb2.size) (Nat.lt_of_lt_of_le hbw (Nat.le_trans hb.size hb2.size)) h3 ((hb2.cell (p := ⟨bs, 2, none⟩) h1.lt).trans (h1.cell (i := 2) rfl)) (hA.at W2 (hb.trans (hb2.mono hb.size)) k h3))
  rw [← hes]
  have HLI : Hid (∀ W, Below w.heap.size w W → Iz W A2 l) := Lib.hid (fun W hb => hA2.below hb (Nat.le_refl _))
  have HKN : Hid (∀ i, i < l.length → ¬ OkK ds.length l i → ¬ KeptP P N ds l) := Lib.hid (fun i hi hn h => hn (h.2.2 i hi))
  have e1 : IntKind.i64.wrap ((ds.length : Int) - 1) = (ds.length : Int) - 1 := IntWalk.i64_in _ (by omega)
  have HE1 := Lib.hid e1
  have HZ := Lib.hid (And.intro hz hz2)
  clear hA hA2 hz hz2 hes e1
  have S_0 : Hid (Blk ((w.alloc (.cells #[.int .i64 P, .int .i64 N, .slice A ds.length c] 27)).alloc (.cells #[.int .i64 0, .int .i64 0, .slice none 0 0] 27)) w.heap.size 27 #[.int .i64 P, .int .i64 N, .slice A ds.length c]) := allocs_blk [(#[.int .i64 P, .int .i64 N, .slice A ds.length c], 27), (#[.int .i64 0, .int .i64 0, .slice none 0 0], 27)] w 0 _ rfl
  have U_0 : Hid (Blk ((w.alloc (.cells #[.int .i64 P, .int .i64 N, .slice A ds.length c] 27)).alloc (.cells #[.int .i64 0, .int .i64 0, .slice none 0 0] 27)) (w.heap.size + 1) 27 #[.int .i64 0, .int .i64 0, .slice none 0 0]) := allocs_blk [(#[.int .i64 P, .int .i64 N, .slice A ds.length c], 27), (#[.int .i64 0, .int .i64 0, .slice none 0 0], 27)] w 1 _ rfl
  have HB_0 : Hid (Below w.heap.size w ((w.alloc (.cells #[.int .i64 P, .int .i64 N, .slice A ds.length c] 27)).alloc (.cells #[.int .i64 0, .int .i64 0, .slice none 0 0] 27))) := allocs_below [(#[.int .i64 P, .int .i64 N, .slice A ds.length c], 27), (#[.int .i64 0, .int .i64 0, .slice none 0 0], 27)] w (Below.refl w.heap.size w) (Nat.le_refl _)
  go_enter Try.func26, Try.ntmps26
  go_wp2_with fail
  go_loopw [6, 11] (fun lo ii wr => ∃ (i : Nat) (v : Int), lo = .int .i64 v ∧ ii = .int .i64 i ∧ i ≤ l.length ∧ (0 ≤ v ∧ (i = 0 → v = 0) ∧ (0 < i → ∀ a, l[i - 1]? = some a → v = a + 1)) ∧ (∀ j, j < i → OkK ds.length l j) ∧ Blk wr w.heap.size 27 #[.int .i64 P, .int .i64 N, .slice A ds.length c] ∧ Blk wr (w.heap.size + 1) 27 #[.int .i64 0, .int .i64 0, .slice none 0 0] ∧ Below w.heap.size w wr) (fun _ ii _ => l.length - (intOf ii).toNat)
  case atStart => exact ⟨0, 0, rfl, rfl, Nat.zero_le _, ⟨Int.le_refl _, fun _ => rfl, fun h => absurd h (by omega)⟩, fun j hj => absurd hj (by omega), S_0.out, U_0.out, HB_0.out⟩
  case round =>
    clear S_0 U_0 HB_0
    obtain ⟨i, v, rfl, rfl, hi, hv, hok, hS, hU, hB⟩ := hrel
    have S_7 := Lib.hid hS; have U_7 := Lib.hid hU; have HB_7 := Lib.hid hB; have HOKS := Lib.hid hok; have HV := Lib.hid hv; clear hS hU hB hok hv
    by_cases hlt : i < l.length
    case neg =>
      have hasc : AscP ds.length l := fun j hj => HOKS.out j (by omega)
      have HC := Lib.hid (HCALL.out hasc)
      have LU : Hid (w.heap.size + 1 < wr.heap.size) := Lib.hid U_7.out.lt
      clear hasc
      have yy0 := S_7.out.cell (i := 0) (v := .int .i64 P) rfl; have yy1 := S_7.out.cell (i := 1) (v := .int .i64 N) rfl; have yy2 := S_7.out.cell (i := 2) (v := .slice A ds.length c) rfl
      go_wp2_with fail
      refine (HC.out _ _ HB_7.out S_7.out).mono ?_
      rintro e v9 ⟨h, hb⟩
      clear yy0 yy1 yy2
      have S_8 : Hid (Blk v9 w.heap.size 27 #[.int .i64 P, .int .i64 N, .slice A ds.length c]) := Lib.hid (S_7.out.below hb S_7.out.lt)
      have U_8 : Hid (Blk v9 (w.heap.size + 1) 27 #[.int .i64 0, .int .i64 0, .slice none 0 0]) := Lib.hid (U_7.out.below hb U_7.out.lt)
      have HB_8 : Hid (Below w.heap.size w v9) := Lib.hid (HB_7.out.trans (hb.mono HB_7.out.size))
      clear  S_7 U_7 HB_7
      rcases h with ⟨hok, A3, c3, rfl, hdz, hfr, hcp⟩ | ⟨hno, rfl⟩
      · have HFR := Lib.hid hfr; have HDZ := Lib.hid hdz; have HOK := Lib.hid hok; have HCP := Lib.hid hcp; clear hfr hdz hok hcp hb
        have yy0 := U_8.out.cell (i := 0) (v := .int .i64 0) rfl; have yy1 := U_8.out.cell (i := 1) (v := .int .i64 0) rfl; have yy2 := U_8.out.cell (i := 2) (v := .slice none 0 0) rfl
        have f0 := U_8.out.frozen 0; have f1 := U_8.out.frozen 1; have f2 := U_8.out.frozen 2
        go_wp2_with fail
        clear yy0 yy1 yy2
        have HFU := Lib.hid (((U_8.out.set 0 (.int .i64 P)).set 1 (.int .i64 N)).set 2 (.slice A3 es.length c3))
        have rU0 := HFU.out.cell (i := 0) (v := .int .i64 P) rfl
        have rU1 := HFU.out.cell (i := 1) (v := .int .i64 N) rfl
        have rU2 := HFU.out.cell (i := 2) (v := .slice A3 es.length c3) rfl
        exact bodyPost_ret (v := .tuple #[.agg #[.int .i64 P, .int .i64 N, .slice A3 es.length c3], .int .i64 0]) (by simp [results, Try.results26, go_sem, rU0, rU1, rU2]) rfl ⟨.inl ⟨HOK.out, A3, c3, rfl, dz_far (dz_far (dz_far HDZ.out (p := ⟨(w.heap.size + 1), 0, none⟩) (fun b o he => by have := HFR.out b o he; have := LU.out; show b ≠ (w.heap.size + 1); omega) _) (p := ⟨(w.heap.size + 1), 1, none⟩) (fun b o he => by have := HFR.out b o he; have := LU.out; show b ≠ (w.heap.size + 1); omega) _) (p := ⟨(w.heap.size + 1), 2, none⟩) (fun b o he => by have := HFR.out b o he; have := LU.out; show b ≠ (w.heap.size + 1); omega) _, fun b o he => by have := HFR.out b o he; have := LU.out; omega, HCP.out⟩, (((HB_8.out.setCell (p := ⟨(w.heap.size + 1), 0, none⟩) (by show w.heap.size ≤ (w.heap.size + 1); omega) (.int .i64 P)).setCell (p := ⟨(w.heap.size + 1), 1, none⟩) (by show w.heap.size ≤ (w.heap.size + 1); omega) (.int .i64 N)).setCell (p := ⟨(w.heap.size + 1), 2, none⟩) (by show w.heap.size ≤ (w.heap.size + 1); omega) (.slice A3 es.length c3))⟩
      · have HNO := Lib.hid hno; clear hno hb
        have yy0 := U_8.out.cell (i := 0) (v := .int .i64 0) rfl; have yy1 := U_8.out.cell (i := 1) (v := .int .i64 0) rfl; have yy2 := U_8.out.cell (i := 2) (v := .slice none 0 0) rfl
        have f0 := U_8.out.frozen 0; have f1 := U_8.out.frozen 1; have f2 := U_8.out.frozen 2
        go_wp2_with fail
        clear yy0 yy1 yy2
        have HFU := Lib.hid (((U_8.out.set 0 (.int .i64 0)).set 1 (.int .i64 0)).set 2 (.slice none 0 0))
        have rU0 := HFU.out.cell (i := 0) (v := .int .i64 0) rfl
        have rU1 := HFU.out.cell (i := 1) (v := .int .i64 0) rfl
        have rU2 := HFU.out.cell (i := 2) (v := .slice none 0 0) rfl
        exact bodyPost_ret (v := .tuple #[.agg #[.int .i64 0, .int .i64 0, .slice none 0 0], .int .i64 50]) (by simp [results, Try.results26, go_sem, rU0, rU1, rU2]) rfl ⟨.inr ⟨HNO.out, rfl⟩, (((HB_8.out.setCell (p := ⟨(w.heap.size + 1), 0, none⟩) (by show w.heap.size ≤ (w.heap.size + 1); omega) (.int .i64 0)).setCell (p := ⟨(w.heap.size + 1), 1, none⟩) (by show w.heap.size ≤ (w.heap.size + 1); omega) (.int .i64 0)).setCell (p := ⟨(w.heap.size + 1), 2, none⟩) (by show w.heap.size ≤ (w.heap.size + 1); omega) (.slice none 0 0))⟩
    case pos =>
      obtain ⟨b, o, rfl, hbl, hcc⟩ := HLI.out wr HB_7.out (by omega)
      have hk := hcc i hlt
      obtain ⟨k, hkk⟩ : ∃ k, k = l[i] := ⟨_, rfl⟩
      rw [← hkk] at hk
      have HLK : Hid (l[i]? = some k) := Lib.hid (by rw [hkk]; exact List.getElem?_eq_getElem hlt)
      have hokk : OkK ds.length l i ↔ v ≤ k ∧ k ≤ (ds.length : Int) - 1 := by
        obtain ⟨h0, h1, h2⟩ := HV.out
        constructor
        · intro h
          have h3 := h k HLK.out
          by_cases h5 : 0 < i
          · have h6 := h2 h5 _ (List.getElem?_eq_getElem (show i - 1 < l.length by omega))
            have h7 := h3.2 h5 _ (List.getElem?_eq_getElem (show i - 1 < l.length by omega))
            omega
          · have := h1 (by omega)
            omega
        · intro h k2 hk2
          rw [HLK.out, Option.some.injEq] at hk2
          subst hk2
          refine ⟨by omega, fun h5 a ha => ?_⟩
          have := h2 h5 a ha
          omega
      have HKK := Lib.hid hokk
      have e1 := HE1.out
      have q1 : (0 : Int) ≤ (i : Int) := by omega
      have q2 : (i : Int) < (l.length : Int) := by omega
      have HLT := Lib.hid hlt
      clear hcc hbl hkk hokk hlt hi
      by_cases hc : v ≤ k ∧ k ≤ (ds.length : Int) - 1
      case neg =>
        have HC := Lib.hid (fun W => pfrom_not k v ((ds.length : Int) - 1) W hc); have HNO := Lib.hid (HKN.out i HLT.out (fun h => hc (HKK.out.1 h))); clear hc
        have yy0 := S_7.out.cell (i := 0) (v := .int .i64 P) rfl; have yy1 := S_7.out.cell (i := 1) (v := .int .i64 N) rfl; have yy2 := S_7.out.cell (i := 2) (v := .slice A ds.length c) rfl
        go_wp2_with fail
        refine (HC.out _).mono ?_
        rintro e v7 ⟨rfl, hb⟩
        clear yy0 yy1 yy2
        have S_8 : Hid (Blk v7 w.heap.size 27 #[.int .i64 P, .int .i64 N, .slice A ds.length c]) := Lib.hid (S_7.out.below hb S_7.out.lt)
        have U_8 : Hid (Blk v7 (w.heap.size + 1) 27 #[.int .i64 0, .int .i64 0, .slice none 0 0]) := Lib.hid (U_7.out.below hb U_7.out.lt)
        have HB_8 : Hid (Below w.heap.size w v7) := Lib.hid (HB_7.out.trans (hb.mono HB_7.out.size))
        clear hb S_7 U_7 HB_7
        clear hk e1
        have yy0 := U_8.out.cell (i := 0) (v := .int .i64 0) rfl; have yy1 := U_8.out.cell (i := 1) (v := .int .i64 0) rfl; have yy2 := U_8.out.cell (i := 2) (v := .slice none 0 0) rfl
        have f0 := U_8.out.frozen 0; have f1 := U_8.out.frozen 1; have f2 := U_8.out.frozen 2
        go_wp2_with fail
        clear yy0 yy1 yy2
        have HFU := Lib.hid (((U_8.out.set 0 (.int .i64 0)).set 1 (.int .i64 0)).set 2 (.slice none 0 0))
        have rU0 := HFU.out.cell (i := 0) (v := .int .i64 0) rfl
        have rU1 := HFU.out.cell (i := 1) (v := .int .i64 0) rfl
        have rU2 := HFU.out.cell (i := 2) (v := .slice none 0 0) rfl
        exact bodyPost_ret (v := .tuple #[.agg #[.int .i64 0, .int .i64 0, .slice none 0 0], .int .i64 50]) (by simp [results, Try.results26, go_sem, rU0, rU1, rU2]) rfl ⟨.inr ⟨HNO.out, rfl⟩, (((HB_8.out.setCell (p := ⟨(w.heap.size + 1), 0, none⟩) (by show w.heap.size ≤ (w.heap.size + 1); omega) (.int .i64 0)).setCell (p := ⟨(w.heap.size + 1), 1, none⟩) (by show w.heap.size ≤ (w.heap.size + 1); omega) (.int .i64 0)).setCell (p := ⟨(w.heap.size + 1), 2, none⟩) (by show w.heap.size ≤ (w.heap.size + 1); omega) (.slice none 0 0))⟩
      case pos =>
        have HC := Lib.hid (fun W => pfrom_yes k v ((ds.length : Int) - 1) W hc); have HIN := Lib.hid (HKK.out.2 hc); have HCC := Lib.hid hc; clear hc
        have yy0 := S_7.out.cell (i := 0) (v := .int .i64 P) rfl; have yy1 := S_7.out.cell (i := 1) (v := .int .i64 N) rfl; have yy2 := S_7.out.cell (i := 2) (v := .slice A ds.length c) rfl
        go_wp2_with fail
        refine (HC.out _).mono ?_
        rintro e v7 ⟨rfl, hb⟩
        clear yy0 yy1 yy2
        have S_8 : Hid (Blk v7 w.heap.size 27 #[.int .i64 P, .int .i64 N, .slice A ds.length c]) := Lib.hid (S_7.out.below hb S_7.out.lt)
        have U_8 : Hid (Blk v7 (w.heap.size + 1) 27 #[.int .i64 0, .int .i64 0, .slice none 0 0]) := Lib.hid (U_7.out.below hb U_7.out.lt)
        have HB_8 : Hid (Below w.heap.size w v7) := Lib.hid (HB_7.out.trans (hb.mono HB_7.out.size))
        clear hb S_7 U_7 HB_7
        clear hk e1
        have e5 : IntKind.i64.wrap (k + 1) = k + 1 := IntWalk.i64_in _ (by have := HCC.out; have := HZ.out; have := HV.out.1; omega)
        have q5 : (i : Int) + 1 ≤ 9223372036854775807 := by have := HLT.out; have := HZ.out; omega
        go_wp2_with fail
        go_roundw
        case rel => exact ⟨i + 1, k + 1, rfl, by go_num, by have := HLT.out; omega, ⟨by have := HCC.out; have := HV.out.1; omega, fun h => absurd h (by omega), fun _ a ha => by
          rw [show i + 1 - 1 = i from by omega, HLK.out, Option.some.injEq] at ha
          rw [ha]⟩, fun j hj => by
          by_cases hji : j = i
          · rw [hji]; exact HIN.out
          · exact HOKS.out j (by omega), S_8.out, U_8.out, HB_8.out⟩
        case measure => have := HLT.out; simp [intOf]; omega
end Go.Proofs.Ytamogfcedkjmcaa
