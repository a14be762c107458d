/- The contracts of Look, isReadable, features and isMadeOf. Conditions: valid strokes that read, the table of directions. -/
import Derived.Test.YtmjcjaecaigahaaDoorLI
import Derived.Test.YtmjcjaecaigahaaDoorLQ
import Derived.Test.YtmjcjaecaigahaaDoorLM
namespace Go.Proofs.YtmjcjaecaigahaaDoor
open Go.RowKit Go.Lib

/-- The dots that Thin keeps, and the feature of a stroke. -/
noncomputable def thn8 (ds : List Dt) : List Nat := by
  classical exact if h : ∃ L, IsThin (BetwP ds 40) (ds.length - 1) L then h.choose else []
theorem thn8_eq {ds : List Dt} {L : List Nat} (h : IsThin (BetwP ds 40) (ds.length - 1) L) : thn8 ds = L := by
  have hx : ∃ L, IsThin (BetwP ds 40) (ds.length - 1) L := ⟨L, h⟩
  unfold thn8
  rw [dif_pos hx]
  exact hx.choose_spec.unique h
noncomputable def look8 (ds : List Dt) : F8 := lk8 ds (thn8 ds)
/-- Strokes in memory. -/
structure K8 where
  P : Int
  N : Int
  ds : List Dt
  A : Option Addr
  c : Nat
def k8c (s : K8) : List Value := [.int .i64 s.P, .int .i64 s.N, .slice s.A s.ds.length s.c]
def K8.ok (s : K8) : Prop := Vd s.P s.N s.ds ∧ s.ds.length ≤ s.c
def K8.code (s : K8) : Int := 1000 * s.P + s.N
/-- A slice of strokes that reads. -/
def Lz8 (w : World) (A : Option Addr) (l : List K8) : Prop := Rz k8c 3 w A l ∧ ∀ s ∈ l, Dz w s.A s.ds
theorem Lz8.below {w w' : World} {A : Option Addr} {l : List K8} {B : Nat} (h : Lz8 w A l) (hb : Below B w w') (hB : w.heap.size ≤ B) : Lz8 w' A l := ⟨h.1.below hb hB, fun s hs => (h.2 s hs).below hb hB⟩
theorem Lz8.cells {w w' : World} {b o : Nat} {l : List K8} {B : Nat} (h : Lz8 w (some ⟨b, o, none⟩) l) (hb : Below B w w') (hB : w.heap.size ≤ B) {i : Nat} (hi : i < l.length) :
    w'.cell? ⟨b, o + i * 3, none⟩ = some (.int .i64 l[i].P) ∧ w'.cell? ⟨b, o + i * 3 + 1, none⟩ = some (.int .i64 l[i].N) ∧ w'.cell? ⟨b, o + i * 3 + 2, none⟩ = some (.slice l[i].A l[i].ds.length l[i].c) :=
  ⟨h.1.cells hb hB hi (j := 0) rfl, h.1.cells hb hB hi (j := 1) rfl, h.1.cells hb hB hi (j := 2) rfl⟩
/-- Readable: one stroke, or two of different codes. -/
def Rd8 (l : List K8) : Prop := (l.length = 1 ∨ l.length = 2) ∧ (∀ s ∈ l, s.ok) ∧ ∀ a b, l[0]? = some a → l[1]? = some b → a.code ≠ b.code
theorem Wy.in8 {B : Nat → Nat → Prop} {k n : Nat} {L : List Nat} (h : Wy B k L) (hk : k < n) : ∀ a ∈ L, a < n := fun a ha => Nat.lt_of_le_of_lt (h.le a ha) hk
/-- What Look makes. -/
def Fok8 (F : F8) : Prop := Ok8 F.ss ∧ (1 ≤ F.ps.length ∧ F.ps.length ≤ 200) ∧ ∀ p ∈ F.ps, p.ok
theorem fok8_lk {P N : Int} {ds : List Dt} {L : List Nat} (hv : Vd P N ds) (h : Wy (BetwP ds 40) (ds.length - 1) L) : Fok8 (lk8 ds L) := by
  have h1 := h.len; have h2 := hv.2.2.1
  refine ⟨⟨?_, stp8_ds _⟩, ?_, fun p hp => ?_⟩
  · show (stp8 (L.map (pt8 ds))).length ≤ 200
    rw [stp8_length, List.length_map]; omega
  · show 1 ≤ (L.map (pt8 ds)).length ∧ (L.map (pt8 ds)).length ≤ 200
    rw [List.length_map]; omega
  · obtain ⟨k, hk, rfl⟩ := List.mem_map.1 (show p ∈ L.map (pt8 ds) from hp)
    have h3 : k < ds.length := by have := h.le k hk; omega
    have h4 := (hv.mem ds[k] (List.getElem_mem h3)).1
    unfold pt8 P7.ok
    rw [List.getD_eq_getElem?_getD, List.getElem?_eq_getElem h3, Option.getD_some]
    simp only; omega
theorem k8_code {s : K8} (h : s.ok) : 1 ≤ s.code ∧ s.code ≤ 40000 := by have h1 := h.1.1; have h2 := h.1.2.1; unfold K8.code; omega
set_option maxRecDepth 100000 in
set_option maxHeartbeats 8000000 in
theorem look8_yes (P N : Int) (ds : List Dt) (A : Option Addr) (c : Nat) (w : World) (hA : Dz w A ds) (hc : ds.length ≤ c) (hv : Vd P N ds) (hT : Cp8 w) :
    Calls Tryd.prog 21 #[.agg #[.int .i64 P, .int .i64 N, .slice A ds.length c]] w fun e w' => (∃ v, e = .returned (.tuple #[v, .int .i64 0]) ∧ Fz8 w' w.heap.size v (look8 ds) ∧ Fok8 (look8 ds)) ∧ Below w.heap.size w w' := by
  have hl := hv.2.2.1
  have HTH := Lib.hid (fun W (h : Below w.heap.size w W) => pthin_yes P N ds A c 40 W (hA.below h (Nat.le_refl _)) (by omega) hc hv (by omega))
  have HFE := Lib.hid (fun (L : List Nat) B d W (h : Below w.heap.size w W) (hI : Iz W B (L.map Int.ofNat)) (hth : IsThin (BetwP ds 40) (ds.length - 1) L) => featureof8_any P N ds L A B c d W (hA.below h (Nat.le_refl _)) hI (by have := hth.1.len; omega) (hth.1.in8 (by omega)) (by omega) hv.mem (hT.below h (Nat.le_refl _)))
  have HLK : Hid (∀ L, IsThin (BetwP ds 40) (ds.length - 1) L → lk8 ds L = look8 ds) := Lib.hid (fun L h => by unfold look8; rw [thn8_eq h])
  have HFO : Hid (∀ L, IsThin (BetwP ds 40) (ds.length - 1) L → Fok8 (look8 ds)) := Lib.hid (fun L h => by unfold look8; rw [thn8_eq h]; exact fok8_lk hv h.1)
  generalize look8 ds = F at *
  clear hA hc hv hT hl
  have S_0 : Hid (Blk ((w.alloc (.cells #[.int .i64 P, .int .i64 N, .slice A ds.length c] 26)).alloc (.cells #[.slice none 0 0, .slice none 0 0, .bool false] 48)) w.heap.size 26 #[.int .i64 P, .int .i64 N, .slice A ds.length c]) := allocs_blk [(#[.int .i64 P, .int .i64 N, .slice A ds.length c], 26), (#[.slice none 0 0, .slice none 0 0, .bool false], 48)] w 0 _ rfl
  have Z_0 : Hid (Blk ((w.alloc (.cells #[.int .i64 P, .int .i64 N, .slice A ds.length c] 26)).alloc (.cells #[.slice none 0 0, .slice none 0 0, .bool false] 48)) (w.heap.size + 1) 48 #[.slice none 0 0, .slice none 0 0, .bool false]) := allocs_blk [(#[.int .i64 P, .int .i64 N, .slice A ds.length c], 26), (#[.slice none 0 0, .slice none 0 0, .bool false], 48)] w 1 _ rfl
  have HB_0 : Hid (Below w.heap.size w ((w.alloc (.cells #[.int .i64 P, .int .i64 N, .slice A ds.length c] 26)).alloc (.cells #[.slice none 0 0, .slice none 0 0, .bool false] 48))) := allocs_below [(#[.int .i64 P, .int .i64 N, .slice A ds.length c], 26), (#[.slice none 0 0, .slice none 0 0, .bool false], 48)] w (Below.refl w.heap.size w) (Nat.le_refl _)
  go_enter Tryd.func21, Tryd.ntmps21
  have yy0 := S_0.out.cell (i := 0) (v := .int .i64 P) rfl; have yy1 := S_0.out.cell (i := 1) (v := .int .i64 N) rfl; have yy2 := S_0.out.cell (i := 2) (v := .slice A ds.length c) rfl
  go_wp2_with fail
  refine (HTH.out _ HB_0.out).mono ?_
  rintro e v0 ⟨L, B, k, rfl, hth, hI, hb⟩
  have HI := Lib.hid hI; have HH := Lib.hid hth; clear hI hth
  clear yy0 yy1 yy2
  have S_1 : Hid (Blk v0 w.heap.size 26 #[.int .i64 P, .int .i64 N, .slice A ds.length c]) := Lib.hid (S_0.out.below hb S_0.out.lt)
  have Z_1 : Hid (Blk v0 (w.heap.size + 1) 48 #[.slice none 0 0, .slice none 0 0, .bool false]) := Lib.hid (Z_0.out.below hb Z_0.out.lt)
  have HB_1 : Hid (Below w.heap.size w v0) := Lib.hid (HB_0.out.trans (hb.mono HB_0.out.size))
  clear hb S_0 Z_0 HB_0
  have HF := Lib.hid (HFE.out L B k _ HB_1.out HI.out HH.out)
  have he0 : ((0 : Int) != 0) = false := rfl
  have yy0 := S_1.out.cell (i := 0) (v := .int .i64 P) rfl; have yy1 := S_1.out.cell (i := 1) (v := .int .i64 N) rfl; have yy2 := S_1.out.cell (i := 2) (v := .slice A ds.length c) rfl
  go_wp2_with fail
  refine (HF.out).mono ?_
  rintro e v1 ⟨⟨v, rfl, hz⟩, hb⟩
  rw [HLK.out L HH.out] at hz
  have HZZ := Lib.hid hz; clear hz
  have HS1 : Hid (w.heap.size + 1 < v0.heap.size) := Lib.hid Z_1.out.lt
  clear yy0 yy1 yy2
  have S_2 : Hid (Blk v1 w.heap.size 26 #[.int .i64 P, .int .i64 N, .slice A ds.length c]) := Lib.hid (S_1.out.below hb S_1.out.lt)
  have Z_2 : Hid (Blk v1 (w.heap.size + 1) 48 #[.slice none 0 0, .slice none 0 0, .bool false]) := Lib.hid (Z_1.out.below hb Z_1.out.lt)
  have HB_2 : Hid (Below w.heap.size w v1) := Lib.hid (HB_1.out.trans (hb.mono HB_1.out.size))
  clear hb S_1 Z_1 HB_1
  obtain ⟨p, q, rfl, hpq, hbp, hbq⟩ := HZZ.out
  have HPQ := Lib.hid hpq; have HBP := Lib.hid hbp; have HBQ := Lib.hid hbq; clear hpq hbp hbq
  have r0 := Z_2.out.cell (i := 0) (v := .slice none 0 0) rfl; have f0 := Z_2.out.frozen 0
  have r1 := Z_2.out.cell (i := 1) (v := .slice none 0 0) rfl; have f1 := Z_2.out.frozen 1
  have r2 := Z_2.out.cell (i := 2) (v := .bool false) rfl; have f2 := Z_2.out.frozen 2
  go_wp2_with fail
  clear r0 r1 r2 f0 f1 f2
  have HFZ := Lib.hid (((Z_2.out.set 0 (.slice (some ⟨p, 0, none⟩) F.ps.length F.ps.length)).set 1 (.slice (some ⟨q, 0, none⟩) F.ss.length F.ss.length)).set 2 (.bool F.cl))
  have rZ0 := HFZ.out.cell (i := 0) (v := .slice (some ⟨p, 0, none⟩) F.ps.length F.ps.length) rfl
  have rZ1 := HFZ.out.cell (i := 1) (v := .slice (some ⟨q, 0, none⟩) F.ss.length F.ss.length) rfl
  have rZ2 := HFZ.out.cell (i := 2) (v := .bool F.cl) rfl
  exact bodyPost_ret (v := .tuple #[.agg #[.slice (some ⟨p, 0, none⟩) F.ps.length F.ps.length, .slice (some ⟨q, 0, none⟩) F.ss.length F.ss.length, .bool F.cl], .int .i64 0]) (by simp [results, Tryd.results21, go_sem, rZ0, rZ1, rZ2]) rfl ⟨⟨_, rfl, (((HZZ.out.far HS1.out 0 _).far HS1.out 1 _).far HS1.out 2 _).base (by have := HS1.out; omega), HFO.out L HH.out⟩, (((HB_2.out.setCell (p := ⟨(w.heap.size + 1), 0, none⟩) (by show w.heap.size ≤ (w.heap.size + 1); omega) (.slice (some ⟨p, 0, none⟩) F.ps.length F.ps.length)).setCell (p := ⟨(w.heap.size + 1), 1, none⟩) (by show w.heap.size ≤ (w.heap.size + 1); omega) (.slice (some ⟨q, 0, none⟩) F.ss.length F.ss.length)).setCell (p := ⟨(w.heap.size + 1), 2, none⟩) (by show w.heap.size ≤ (w.heap.size + 1); omega) (.bool F.cl))⟩
def mo8 (k n : Int) : Bool := if k = 1 ∨ k = 2 then n == 1 else if k = 3 then n == 2 else decide (k = 4 ∨ k = 5)
set_option maxRecDepth 100000 in
set_option maxHeartbeats 8000000 in
theorem madeof8_any (k n : Int) (w : World) : Yl 48 #[.int .i64 k, .int .i64 n] w (.bool (mo8 k n)) := by
  have hundef := un_none
  by_cases h1 : k = 1
  case pos =>
    subst h1
    rw [show mo8 1 n = (n == 1) from rfl]
    go_enter Tryd.func48, Tryd.ntmps48
    go_wp2_with fail
    all_goals (go_ret; exact ⟨rfl, Below.refl _ _⟩)
  case neg =>
  by_cases h2 : k = 2
  case pos =>
    subst h2
    rw [show mo8 2 n = (n == 1) from rfl]
    go_enter Tryd.func48, Tryd.ntmps48
    go_wp2_with fail
    all_goals (go_ret; exact ⟨rfl, Below.refl _ _⟩)
  case neg =>
  by_cases h3 : k = 3
  case pos =>
    subst h3
    rw [show mo8 3 n = (n == 2) from rfl]
    go_enter Tryd.func48, Tryd.ntmps48
    go_wp2_with fail
    all_goals (go_ret; exact ⟨rfl, Below.refl _ _⟩)
  case neg =>
  have b1 : (k == 1) = false := by rw [beq_eq_false_iff_ne]; exact h1
  have b2 : (k == 2) = false := by rw [beq_eq_false_iff_ne]; exact h2
  have b3 : (k == 3) = false := by rw [beq_eq_false_iff_ne]; exact h3
  have hv : mo8 k n = decide (k = 4 ∨ k = 5) := by unfold mo8; rw [if_neg (by omega), if_neg h3]
  rw [hv]
  clear hv
  by_cases h4 : k = 4
  case pos =>
    subst h4
    clear b1 b2 b3 h1 h2 h3
    go_enter Tryd.func48, Tryd.ntmps48
    go_wp2_with fail
    all_goals (go_ret; exact ⟨rfl, Below.refl _ _⟩)
  case neg =>
    have b4 : (k == 4) = false := by rw [beq_eq_false_iff_ne]; exact h4
    rw [show decide (k = 4 ∨ k = 5) = (k == 5) from by rw [Bool.eq_iff_iff, decide_eq_true_eq, beq_iff_eq]; omega]
    go_enter Tryd.func48, Tryd.ntmps48
    go_wp2_with fail
    all_goals (go_ret; exact ⟨rfl, Below.refl _ _⟩)
set_option maxRecDepth 100000 in
set_option maxHeartbeats 8000000 in
theorem readable8_none (w : World) (A : Option Addr) (c : Nat) : Yl 42 #[.slice A 0 c] w (.bool false) := by
  go_enter Tryd.func42, Tryd.ntmps42
  go_wp2_with fail
  refine (isfrom8_no 0 1 2 _ (by omega)).mono ?_
  rintro e v0 ⟨rfl, hb⟩
  go_wp2_with fail
  go_ret
  exact ⟨rfl, hb⟩
set_option maxRecDepth 100000 in
set_option maxHeartbeats 8000000 in
theorem readable8_yes (l : List K8) (A : Option Addr) (c : Nat) (w : World) (hL : Lz8 w A l) (h : Rd8 l) : Yl 42 #[.slice A l.length c] w (.bool true) := by
  have hl := h.1
  obtain ⟨b, o, rfl⟩ := hL.1.some (by omega)
  have HL := Lib.hid hL; have HR := Lib.hid h; have HLN := Lib.hid hl
  have HCO := Lib.hid (fun i (hi : i < l.length) W (hb : Below w.heap.size w W) => pcode_yes l[i].P l[i].N l[i].ds l[i].A l[i].c W ((hL.2 l[i] (List.getElem_mem hi)).below hb (Nat.le_refl _)) (by have := (h.2.1 l[i] (List.getElem_mem hi)).1.2.2.1; omega) (h.2.1 l[i] (List.getElem_mem hi)).1)
  have HFR := Lib.hid (fun W => isfrom8_yes (l.length : Int) 1 2 W (by omega))
  clear hL h hl
  go_enter Tryd.func42, Tryd.ntmps42
  go_wp2_with fail
  refine (HFR.out _).mono ?_
  rintro e v0 ⟨rfl, hb⟩
  have HB0 := Lib.hid hb; clear hb HFR
  go_wp2_with fail
  go_loopw [12] (fun ii wr => ∃ i : Nat, ii = .int .i64 i ∧ i ≤ l.length ∧ Below w.heap.size w wr) (fun ii _ => l.length - (intOf ii).toNat)
  case atStart => exact ⟨0, rfl, Nat.zero_le _, HB0.out⟩
  case round =>
    clear HB0
    obtain ⟨i, rfl, hi, hB⟩ := hrel
    have HB := Lib.hid hB; clear hB
    by_cases hlt : i < l.length
    case neg =>
      obtain rfl : i = l.length := by omega
      have s1 : ¬ (l.length : Int) < (l.length : Int) := by omega
      clear hlt hi
      go_wp2_with fail
      go_ret
      exact ⟨rfl, HB.out⟩
    case pos =>
      obtain ⟨k0, k1, k2⟩ := HL.out.cells HB.out (Nat.le_refl _) hlt
      have hcd := k8_code (HR.out.2.1 l[i] (List.getElem_mem hlt))
      have HC1 := Lib.hid (HCO.out i hlt)
      have hsi : l[i]? = some l[i] := List.getElem?_eq_getElem hlt
      obtain ⟨s, hs⟩ : ∃ s, s = l[i] := ⟨_, rfl⟩
      rw [← hs] at k0 k1 k2 hcd HC1 hsi
      have HSI := Lib.hid hsi
      have q1 : (0 : Int) ≤ (i : Int) := by omega
      have q2 : (i : Int) < (l.length : Int) := by omega
      have q5 : (i : Int) ≤ 9223372036854775806 := by have := HLN.out; omega
      have HI := Lib.hid hlt; have HCD := Lib.hid hcd
      clear hs hsi hcd hi hlt
      go_wp2_with fail
      have S_0 := Lib.hid (Blk.new wr 26 #[.int .i64 s.P, .int .i64 s.N, .slice s.A s.ds.length s.c])
      have B_0 := Lib.hid (HB.out.alloc HB.out.size (.cells #[.int .i64 s.P, .int .i64 s.N, .slice s.A s.ds.length s.c] 26))
      clear k0 k1 k2
      refine (HC1.out _ B_0.out).mono ?_
      rintro e v1 ⟨rfl, hb⟩
      have B_1 := Lib.hid (B_0.out.trans (hb.mono B_0.out.size)); clear hb B_0 S_0
      obtain ⟨cd, hcd⟩ : ∃ cd, cd = s.code := ⟨_, rfl⟩
      have hcv : 1000 * s.P + s.N = cd := hcd.symm
      have HV := Lib.hid hcd
      have z1 : (cd == 0) = false := by rw [beq_eq_false_iff_ne]; have := HCD.out; omega
      simp only [hcv]
      clear hcv hcd
      by_cases h0 : 0 < i
      case neg =>
        have h0b : ¬ (0 : Int) < (i : Int) := by omega
        have hundef := un_none
        have H0 := Lib.hid h0; clear h0
        go_wp2_with fail
        go_roundw
        case rel => exact ⟨i + 1, by go_num, HI.out, B_1.out⟩
        case measure => have := HI.out; simp [intOf]; omega
      case pos =>
        have h0b : (0 : Int) < (i : Int) := by omega
        have hl0 : 0 < l.length := by have := HI.out; omega
        obtain ⟨k0, k1, k2⟩ := HL.out.cells B_1.out (Nat.le_refl _) hl0
        have hne : l[0].code ≠ cd := by
          have h1 := HI.out; have h2 := HLN.out
          have e : i = 1 := by omega
          have h3 := HSI.out
          rw [e] at h3
          rw [HV.out]
          exact HR.out.2.2 _ _ (List.getElem?_eq_getElem hl0) h3
        have HC2 := Lib.hid (HCO.out 0 hl0)
        obtain ⟨t, ht⟩ : ∃ t, t = l[0] := ⟨_, rfl⟩
        rw [← ht] at k0 k1 k2 hne HC2
        rw [Nat.zero_mul, Nat.add_zero] at k0 k1 k2
        have hne2 : ¬ 1000 * t.P + t.N = cd := hne
        obtain ⟨ct, hct⟩ : ∃ ct, ct = 1000 * t.P + t.N := ⟨_, rfl⟩
        rw [← hct] at hne2 HC2
        have z2 : (cd == ct) = false := by rw [beq_eq_false_iff_ne]; exact fun h => hne2 h.symm
        have q0 : (0 : Int) < (l.length : Int) := by omega
        have HL0 := Lib.hid hl0
        clear ht hct hne hne2 hl0 h0
        go_wp2_with fail
        refine (HC2.out _ B_1.out).mono ?_
        rintro e v2 ⟨rfl, hb⟩
        have B_2 := Lib.hid (B_1.out.trans (hb.mono B_1.out.size)); clear hb B_1 k0 k1 k2
        go_wp2_with fail
        go_roundw
        case rel => exact ⟨i + 1, by go_num, HI.out, B_2.out⟩
        case measure => have := HI.out; simp [intOf]; omega
/-- Features in memory: a row of them in block g, from B on. -/
def fc8 (f : Nat → Value × Value × Value) (n : Nat) : List Value := (List.range (n * 3)).map fun m => if m % 3 = 0 then (f (m / 3)).1 else if m % 3 = 1 then (f (m / 3)).2.1 else (f (m / 3)).2.2
def Gz8 (w : World) (B g : Nat) (Fs : List F8) : Prop := B ≤ g ∧ ∃ f : Nat → Value × Value × Value, Blk w g 48 (fc8 f Fs.length).toArray ∧ ∀ i (hi : i < Fs.length), Fz8 w B (.agg #[(f i).1, (f i).2.1, (f i).2.2]) Fs[i]
theorem Gz8.below {w w' : World} {B B2 g : Nat} {Fs : List F8} (h : Gz8 w B g Fs) (hb : Below B2 w w') (hB : w.heap.size ≤ B2) : Gz8 w' B g Fs := by
  obtain ⟨h0, f, h1, h2⟩ := h
  exact ⟨h0, f, h1.below hb (Nat.lt_of_lt_of_le h1.lt hB), fun i hi => (h2 i hi).below hb hB⟩
theorem fc8_at {f : Nat → Value × Value × Value} {n k : Nat} (h : k < n) : (fc8 f n).toArray[k * 3]? = some (f k).1 ∧ (fc8 f n).toArray[k * 3 + 1]? = some (f k).2.1 ∧ (fc8 f n).toArray[k * 3 + 2]? = some (f k).2.2 := by
  refine ⟨?_, ?_, ?_⟩ <;> rw [List.getElem?_toArray] <;> unfold fc8 <;> rw [List.getElem?_map, List.getElem?_range (by omega)]
  · simp only [Option.map_some, show k * 3 % 3 = 0 by omega, show k * 3 / 3 = k by omega, if_pos]
  · simp only [Option.map_some, show (k * 3 + 1) % 3 = 1 by omega, show (k * 3 + 1) / 3 = k by omega]; simp
  · simp only [Option.map_some, show (k * 3 + 2) % 3 = 2 by omega, show (k * 3 + 2) / 3 = k by omega]; simp
theorem fc8_set {f : Nat → Value × Value × Value} {n k : Nat} (v : Value × Value × Value) (hk : k < n) : (((fc8 f n).toArray.setIfInBounds (k * 3) v.1).setIfInBounds (k * 3 + 1) v.2.1).setIfInBounds (k * 3 + 2) v.2.2 = (fc8 (fun j => if j = k then v else f j) n).toArray := by
  rw [List.setIfInBounds_toArray, List.setIfInBounds_toArray, List.setIfInBounds_toArray]
  refine congrArg List.toArray ?_
  apply List.ext_getElem?
  intro m
  unfold fc8
  rw [List.getElem?_set, List.getElem?_set, List.getElem?_set]
  simp only [List.length_set, List.length_map, List.length_range]
  by_cases hm : m < n * 3
  · rw [List.getElem?_map, List.getElem?_map, List.getElem?_range hm]
    by_cases h1 : k * 3 + 2 = m
    · rw [if_pos h1, if_pos (by omega)]
      simp only [Option.map_some, show m % 3 = 2 by omega, show m / 3 = k by omega]; simp
    · rw [if_neg h1]
      by_cases h2 : k * 3 + 1 = m
      · rw [if_pos h2, if_pos (by omega)]
        simp only [Option.map_some, show m % 3 = 1 by omega, show m / 3 = k by omega]; simp
      · rw [if_neg h2]
        by_cases h3 : k * 3 = m
        · rw [if_pos h3, if_pos (by omega)]
          simp only [Option.map_some, show m % 3 = 0 by omega, show m / 3 = k by omega, if_pos]
        · rw [if_neg h3]
          simp only [Option.map_some, if_neg (show ¬ m / 3 = k by omega)]
  · have hn : (List.map (fun m => if m % 3 = 0 then (f (m / 3)).1 else if m % 3 = 1 then (f (m / 3)).2.1 else (f (m / 3)).2.2) (List.range (n * 3)))[m]? = none := List.getElem?_eq_none (by simp; omega)
    have hn2 : (List.map (fun m => if m % 3 = 0 then ((fun j => if j = k then v else f j) (m / 3)).1 else if m % 3 = 1 then ((fun j => if j = k then v else f j) (m / 3)).2.1 else ((fun j => if j = k then v else f j) (m / 3)).2.2) (List.range (n * 3)))[m]? = none := List.getElem?_eq_none (by simp; omega)
    rw [hn, hn2, if_neg (by omega), if_neg (by omega), if_neg (by omega)]
theorem Fw8.store {w : World} {p n k : Nat} {f : Nat → Value × Value × Value} (h : Blk w p 48 (fc8 f n).toArray) (v : Value × Value × Value) (hk : k < n) : Blk (((w.setCell ⟨p, k * 3, none⟩ v.1).setCell ⟨p, k * 3 + 1, none⟩ v.2.1).setCell ⟨p, k * 3 + 2, none⟩ v.2.2) p 48 (fc8 (fun j => if j = k then v else f j) n).toArray := by
  have h2 := ((Blk.set h (k * 3) v.1).set (k * 3 + 1) v.2.1).set (k * 3 + 2) v.2.2
  rwa [fc8_set v hk] at h2
def z8v : Value × Value × Value := (.slice none 0 0, .slice none 0 0, .bool false)
theorem info_feature8 : (Tryd.prog.info? 48).map (fun i => (i.zero, i.size, i.bytes)) = some (some (.agg #[.slice none 0 0, .slice none 0 0, .bool false]), 3, 56) := by kernel_rfl
theorem run_make_features (n : Nat) (hn : n ≤ 100000) (w : World) :
    (Instr.makeSlice 84 (.int .i64 (n : Nat)) (.int .i64 (n : Nat))).run Tryd.prog w = .ok (.slice (some ⟨w.heap.size, 0, none⟩) n n) (w.alloc (.cells (fc8 (fun _ => z8v) n).toArray 48)) := by
  obtain ⟨i, hi, hz, hs, hb⟩ := info_of info_feature8
  have h := run_make (P := Tryd.prog) w 84 48 i (.agg #[.slice none 0 0, .slice none 0 0, .bool false]) Tryd.underlying84 hi hz .i64 .i64 n n (by omega) (by omega) (by rw [hb]; omega) (by omega)
  rw [hs] at h
  simp only [Int.toNat_natCast] at h
  have e : madeCells (Value.agg #[.slice none 0 0, .slice none 0 0, .bool false]).cells (n * 3) = (fc8 (fun _ => z8v) n).toArray := by
    apply Array.ext
    · simp [madeCells, fc8]
    · intro j h1 h2
      have h3 : j % 3 = 0 ∨ j % 3 = 1 ∨ j % 3 = 2 := by omega
      rcases h3 with h3 | h3 | h3 <;> simp [madeCells, Value.cells, fc8, z8v, h3]
  rw [e] at h
  exact h
set_option maxRecDepth 100000 in
set_option maxHeartbeats 8000000 in
theorem features8_yes (l : List K8) (A : Option Addr) (c : Nat) (w : World) (hL : Lz8 w A l) (h : Rd8 l) (hT : Cp8 w) :
    Calls Tryd.prog 45 #[.slice A l.length c] w fun e w' => (∃ g, e = .returned (.slice (some ⟨g, 0, none⟩) l.length l.length) ∧ Gz8 w' w.heap.size g (l.map fun s => look8 s.ds) ∧ ∀ F ∈ l.map (fun s => look8 s.ds), Fok8 F) ∧ Below w.heap.size w w' := by
  have hl := h.1
  obtain ⟨b, o, rfl⟩ := hL.1.some (by omega)
  have HL := Lib.hid hL; have HLN := Lib.hid hl
  have HLO := Lib.hid (fun i (hi : i < l.length) W (hb : Below w.heap.size w W) => look8_yes l[i].P l[i].N l[i].ds l[i].A l[i].c W ((hL.2 l[i] (List.getElem_mem hi)).below hb (Nat.le_refl _)) (h.2.1 l[i] (List.getElem_mem hi)).2 (h.2.1 l[i] (List.getElem_mem hi)).1 (hT.below hb (Nat.le_refl _)))
  have hmk := fun W => run_make_features l.length (by omega) W
  have HG0 := Lib.hid (Blk.new w 48 (fc8 (fun _ => z8v) l.length).toArray)
  have HB0 := Lib.hid ((Below.refl w.heap.size w).alloc (Nat.le_refl _) (.cells (fc8 (fun _ => z8v) l.length).toArray 48))
  obtain ⟨n, hn⟩ : ∃ n, n = l.length := ⟨_, rfl⟩
  have HN := Lib.hid hn
  have hsz : (w.alloc (.cells (fc8 (fun _ => z8v) l.length).toArray 48)).heap.size = w.heap.size + 1 := by simp
  have HSZ := Lib.hid hsz
  clear hL h hT hl hn hsz
  rw [← HN.out] at hmk HG0 HB0 HSZ ⊢
  go_enter Tryd.func45, Tryd.ntmps45
  go_wp2_with fail
  clear hmk
  go_loopw [11] (fun ii wr => ∃ i : Nat, ii = .int .i64 i ∧ i ≤ n ∧ (∃ f : Nat → Value × Value × Value, Blk wr w.heap.size 48 (fc8 f n).toArray ∧ ∀ j (hj : j < l.length), j < i → Fz8 wr (w.heap.size + 1) (.agg #[(f j).1, (f j).2.1, (f j).2.2]) (look8 l[j].ds) ∧ Fok8 (look8 l[j].ds)) ∧ Below w.heap.size w wr ∧ w.heap.size + 1 ≤ wr.heap.size) (fun ii _ => n - (intOf ii).toNat)
  case atStart => exact ⟨0, rfl, Nat.zero_le _, ⟨_, HG0.out, fun j _ h => absurd h (Nat.not_lt_zero j)⟩, HB0.out, Nat.le_of_eq HSZ.out.symm⟩
  case round =>
    clear HG0 HB0 HSZ
    obtain ⟨i, rfl, hi, ⟨f, hg, hf⟩, hB, hsz⟩ := hrel
    rename World => wr
    have HB := Lib.hid hB; have HG := Lib.hid hg; have HF := Lib.hid hf; have HSZ := Lib.hid hsz; clear hB hg hf hsz
    by_cases hlt : i < n
    case neg =>
      obtain rfl : i = n := by omega
      have s1 : ¬ (i : Int) < (i : Int) := by omega
      clear hlt hi
      go_wp2_with fail
      go_ret
      refine ⟨⟨_, rfl, ⟨Nat.le_refl _, f, ?_, fun j hj => ?_⟩, fun F hF => ?_⟩, HB.out⟩
      · rw [List.length_map, ← HN.out]; exact HG.out
      · rw [List.length_map] at hj
        rw [List.getElem_map]
        exact (HF.out j hj (by rw [HN.out]; exact hj)).1.base (by omega)
      · obtain ⟨j, hj, rfl⟩ := List.getElem_of_mem hF
        exact (HF.out j hj (by rw [HN.out]; exact hj)).2
    case pos =>
      have hil : i < l.length := by rw [← HN.out]; exact hlt
      obtain ⟨k0, k1, k2⟩ := HL.out.cells HB.out (Nat.le_refl _) hil
      have HLK := Lib.hid (HLO.out i hil)
      obtain ⟨F, hF⟩ : ∃ F, F = look8 l[i].ds := ⟨_, rfl⟩
      rw [← hF] at HLK
      have HFE : Hid (∀ (hi : i < l.length), look8 l[i].ds = F) := Lib.hid (fun _ => hF.symm)
      obtain ⟨s, hs⟩ : ∃ s, s = l[i] := ⟨_, rfl⟩
      rw [← hs] at k0 k1 k2 HLK
      have q1 : (0 : Int) ≤ (i : Int) := by omega
      have q2 : (i : Int) < (n : Int) := by omega
      have q3 : (i : Int) < (l.length : Int) := by omega
      have q5 : (i : Int) ≤ 9223372036854775806 := by have := HLN.out; have := HN.out; omega
      have HI := Lib.hid hlt
      clear hs hF hi hlt hil
      go_wp2_with fail
      have B_0 := Lib.hid (HB.out.alloc HB.out.size (.cells #[.int .i64 s.P, .int .i64 s.N, .slice s.A s.ds.length s.c] 26))
      have G_0 := Lib.hid (HG.out.alloc (.cells #[.int .i64 s.P, .int .i64 s.N, .slice s.A s.ds.length s.c] 26))
      have S_0 := Lib.hid (allocs_below [(#[.int .i64 s.P, .int .i64 s.N, .slice s.A s.ds.length s.c], 26)] wr (Below.refl wr.heap.size wr) (Nat.le_refl _))
      clear k0 k1 k2
      refine (HLK.out _ B_0.out).mono ?_
      rintro e v1 ⟨⟨v, rfl, hz, hfo⟩, hb⟩
      have HFO := Lib.hid hfo; clear hfo
      have B_1 := Lib.hid (B_0.out.trans (hb.mono B_0.out.size)); have G_1 := Lib.hid (G_0.out.below hb G_0.out.lt); have S_1 := Lib.hid (S_0.out.trans (hb.mono S_0.out.size))
      have hz2 := hz.base (B2 := w.heap.size + 1) (Nat.le_trans HSZ.out S_0.out.size)
      obtain ⟨p, q, rfl, hpq, hbp, hbq⟩ := hz2
      have HZ : Hid (Fz8 v1 (w.heap.size + 1) (.agg #[.slice (some ⟨p, 0, none⟩) F.ps.length F.ps.length, .slice (some ⟨q, 0, none⟩) F.ss.length F.ss.length, .bool F.cl]) F) := Lib.hid ⟨p, q, rfl, hpq, hbp, hbq⟩
      clear hz hpq hbp hbq hb B_0 G_0 S_0
      have y0 := G_1.out.cell (fc8_at (f := f) HI.out).1; have y1 := G_1.out.cell (fc8_at (f := f) HI.out).2.1; have y2 := G_1.out.cell (fc8_at (f := f) HI.out).2.2
      have f0 := G_1.out.frozen (i * 3); have f1 := G_1.out.frozen (i * 3 + 1); have f2 := G_1.out.frozen (i * 3 + 2)
      go_wp2_with fail
      clear y0 y1 y2 f0 f1 f2
      go_roundw
      case rel =>
        refine ⟨i + 1, by go_num, HI.out, ⟨_, Fw8.store G_1.out (.slice (some ⟨p, 0, none⟩) F.ps.length F.ps.length, .slice (some ⟨q, 0, none⟩) F.ss.length F.ss.length, .bool F.cl) HI.out, fun j hj h => ?_⟩, ((B_1.out.setCell (p := ⟨w.heap.size, i * 3, none⟩) (Nat.le_refl _) _).setCell (p := ⟨w.heap.size, i * 3 + 1, none⟩) (Nat.le_refl _) _).setCell (p := ⟨w.heap.size, i * 3 + 2, none⟩) (Nat.le_refl _) _, ?_⟩
        · by_cases hji : j = i
          · subst hji
            simp only [if_pos]
            rw [HFE.out hj]
            exact ⟨((HZ.out.far (Nat.lt_succ_self _) _ _).far (Nat.lt_succ_self _) _ _).far (Nat.lt_succ_self _) _ _, HFO.out⟩
          · simp only [if_neg hji]
            exact ⟨((((HF.out j hj (by omega)).1.below S_1.out (Nat.le_refl _)).far (Nat.lt_succ_self _) _ _).far (Nat.lt_succ_self _) _ _).far (Nat.lt_succ_self _) _ _, (HF.out j hj (by omega)).2⟩
        · have h1 := S_1.out.size; have h2 := HSZ.out
          simp only [World.size_setCell]
          omega
      case measure => have := HI.out; simp [intOf]; omega
end Go.Proofs.YtmjcjaecaigahaaDoor
