/- The statement TemplateLook. Conditions: a slice of triples that reads, the tables. -/
import Derived.Test.YtmjcjaecaigahaaDoorLY
import Derived.Test.YtmjcjaecaigahaaDoorLZ
namespace Go.Proofs.YtmjcjaecaigahaaDoor
open Go.RowKit Go.Lib

set_option maxRecDepth 100000 in
set_option maxHeartbeats 8000000 in
theorem look8_more (P N : Int) (ds : List Dt) (A : Option Addr) (c : Nat) (w : World) (hA : Dz w A ds) (hc : ds.length ≤ c) (hv : Vd P N ds) (hT : Cp8 w) :
    Calls Tryd.prog 21 #[.agg #[.int .i64 P, .int .i64 N, .slice A ds.length c]] w fun e w' => (∃ v, e = .returned (.tuple #[v, .int .i64 0]) ∧ Fz8 w' w.heap.size v (look8 ds) ∧ ∃ L, IsThin (BetwP ds 40) (ds.length - 1) L ∧ look8 ds = lk8 ds L) ∧ Below w.heap.size w w' := by
  have hl := hv.2.2.1
  have HTH := Lib.hid (fun W (h : Below w.heap.size w W) => pthin_yes P N ds A c 40 W (hA.below h (Nat.le_refl _)) (by omega) hc hv (by omega))
  have HFE := Lib.hid (fun (L : List Nat) B d W (h : Below w.heap.size w W) (hI : Iz W B (L.map Int.ofNat)) (hth : IsThin (BetwP ds 40) (ds.length - 1) L) => featureof8_any P N ds L A B c d W (hA.below h (Nat.le_refl _)) hI (by have := hth.1.len; omega) (hth.1.in8 (by omega)) (by omega) hv.mem (hT.below h (Nat.le_refl _)))
  have HLK : Hid (∀ L, IsThin (BetwP ds 40) (ds.length - 1) L → lk8 ds L = look8 ds) := Lib.hid (fun L h => by unfold look8; rw [thn8_eq h])
  generalize look8 ds = F at *
  clear hA hc hv hT hl
  have S_0 : Hid (Blk ((w.alloc (.cells #[.int .i64 P, .int .i64 N, .slice A ds.length c] 26)).alloc (.cells #[.slice none 0 0, .slice none 0 0, .bool false] 48)) w.heap.size 26 #[.int .i64 P, .int .i64 N, .slice A ds.length c]) := allocs_blk [(#[.int .i64 P, .int .i64 N, .slice A ds.length c], 26), (#[.slice none 0 0, .slice none 0 0, .bool false], 48)] w 0 _ rfl
  have Z_0 : Hid (Blk ((w.alloc (.cells #[.int .i64 P, .int .i64 N, .slice A ds.length c] 26)).alloc (.cells #[.slice none 0 0, .slice none 0 0, .bool false] 48)) (w.heap.size + 1) 48 #[.slice none 0 0, .slice none 0 0, .bool false]) := allocs_blk [(#[.int .i64 P, .int .i64 N, .slice A ds.length c], 26), (#[.slice none 0 0, .slice none 0 0, .bool false], 48)] w 1 _ rfl
  have HB_0 : Hid (Below w.heap.size w ((w.alloc (.cells #[.int .i64 P, .int .i64 N, .slice A ds.length c] 26)).alloc (.cells #[.slice none 0 0, .slice none 0 0, .bool false] 48))) := allocs_below [(#[.int .i64 P, .int .i64 N, .slice A ds.length c], 26), (#[.slice none 0 0, .slice none 0 0, .bool false], 48)] w (Below.refl w.heap.size w) (Nat.le_refl _)
  go_enter Tryd.func21, Tryd.ntmps21
  have yy0 := S_0.out.cell (i := 0) (v := .int .i64 P) rfl; have yy1 := S_0.out.cell (i := 1) (v := .int .i64 N) rfl; have yy2 := S_0.out.cell (i := 2) (v := .slice A ds.length c) rfl
  go_wp2_with fail
  refine (HTH.out _ HB_0.out).mono ?_
  rintro e v0 ⟨L, B, k, rfl, hth, hI, hb⟩
  have HI := Lib.hid hI; have HH := Lib.hid hth; clear hI hth
  clear yy0 yy1 yy2
  have S_1 : Hid (Blk v0 w.heap.size 26 #[.int .i64 P, .int .i64 N, .slice A ds.length c]) := Lib.hid (S_0.out.below hb S_0.out.lt)
  have Z_1 : Hid (Blk v0 (w.heap.size + 1) 48 #[.slice none 0 0, .slice none 0 0, .bool false]) := Lib.hid (Z_0.out.below hb Z_0.out.lt)
  have HB_1 : Hid (Below w.heap.size w v0) := Lib.hid (HB_0.out.trans (hb.mono HB_0.out.size))
  clear hb S_0 Z_0 HB_0
  have HF := Lib.hid (HFE.out L B k _ HB_1.out HI.out HH.out)
  have he0 : ((0 : Int) != 0) = false := rfl
  have yy0 := S_1.out.cell (i := 0) (v := .int .i64 P) rfl; have yy1 := S_1.out.cell (i := 1) (v := .int .i64 N) rfl; have yy2 := S_1.out.cell (i := 2) (v := .slice A ds.length c) rfl
  go_wp2_with fail
  refine (HF.out).mono ?_
  rintro e v1 ⟨⟨v, rfl, hz⟩, hb⟩
  rw [HLK.out L HH.out] at hz
  have HZZ := Lib.hid hz; clear hz
  have HS1 : Hid (w.heap.size + 1 < v0.heap.size) := Lib.hid Z_1.out.lt
  clear yy0 yy1 yy2
  have S_2 : Hid (Blk v1 w.heap.size 26 #[.int .i64 P, .int .i64 N, .slice A ds.length c]) := Lib.hid (S_1.out.below hb S_1.out.lt)
  have Z_2 : Hid (Blk v1 (w.heap.size + 1) 48 #[.slice none 0 0, .slice none 0 0, .bool false]) := Lib.hid (Z_1.out.below hb Z_1.out.lt)
  have HB_2 : Hid (Below w.heap.size w v1) := Lib.hid (HB_1.out.trans (hb.mono HB_1.out.size))
  clear hb S_1 Z_1 HB_1
  obtain ⟨p, q, rfl, hpq, hbp, hbq⟩ := HZZ.out
  have HPQ := Lib.hid hpq; have HBP := Lib.hid hbp; have HBQ := Lib.hid hbq; clear hpq hbp hbq
  have r0 := Z_2.out.cell (i := 0) (v := .slice none 0 0) rfl; have f0 := Z_2.out.frozen 0
  have r1 := Z_2.out.cell (i := 1) (v := .slice none 0 0) rfl; have f1 := Z_2.out.frozen 1
  have r2 := Z_2.out.cell (i := 2) (v := .bool false) rfl; have f2 := Z_2.out.frozen 2
  go_wp2_with fail
  clear r0 r1 r2 f0 f1 f2
  have HFZ := Lib.hid (((Z_2.out.set 0 (.slice (some ⟨p, 0, none⟩) F.ps.length F.ps.length)).set 1 (.slice (some ⟨q, 0, none⟩) F.ss.length F.ss.length)).set 2 (.bool F.cl))
  have rZ0 := HFZ.out.cell (i := 0) (v := .slice (some ⟨p, 0, none⟩) F.ps.length F.ps.length) rfl
  have rZ1 := HFZ.out.cell (i := 1) (v := .slice (some ⟨q, 0, none⟩) F.ss.length F.ss.length) rfl
  have rZ2 := HFZ.out.cell (i := 2) (v := .bool F.cl) rfl
  exact bodyPost_ret (v := .tuple #[.agg #[.slice (some ⟨p, 0, none⟩) F.ps.length F.ps.length, .slice (some ⟨q, 0, none⟩) F.ss.length F.ss.length, .bool F.cl], .int .i64 0]) (by simp [results, Tryd.results21, go_sem, rZ0, rZ1, rZ2]) rfl ⟨⟨_, rfl, (((HZZ.out.far HS1.out 0 _).far HS1.out 1 _).far HS1.out 2 _).base (by have := HS1.out; omega), L, HH.out, (HLK.out L HH.out).symm⟩, (((HB_2.out.setCell (p := ⟨(w.heap.size + 1), 0, none⟩) (by show w.heap.size ≤ (w.heap.size + 1); omega) (.slice (some ⟨p, 0, none⟩) F.ps.length F.ps.length)).setCell (p := ⟨(w.heap.size + 1), 1, none⟩) (by show w.heap.size ≤ (w.heap.size + 1); omega) (.slice (some ⟨q, 0, none⟩) F.ss.length F.ss.length)).setCell (p := ⟨(w.heap.size + 1), 2, none⟩) (by show w.heap.size ≤ (w.heap.size + 1); omega) (.bool F.cl))⟩
theorem ln8_neg (n m : Int) : ln8 (-n) (-m) = -ln8 n m := by
  unfold ln8
  by_cases h : 2 * max n (-n) ≤ max m (-m)
  · rw [if_pos h, if_pos (by omega)]; rfl
  · rw [if_neg h, if_neg (by omega)]
    by_cases h2 : n < 0
    · rw [if_pos h2, if_neg (by omega)]; rfl
    · rw [if_neg h2, if_pos (by omega)]
theorem ln8_both {x y : Int} (h1 : ln8 x y = 0) (h2 : ln8 y x = 0) : x = 0 ∧ y = 0 := by
  have key : ∀ n m : Int, ln8 n m = 0 → 2 * max n (-n) ≤ max m (-m) := fun n m h => by
    unfold ln8 at h
    split at h
    · assumption
    · split at h <;> omega
  have a1 := key x y h1; have a2 := key y x h2
  omega
theorem dir8_neg {x y : Int} (h : ¬ (x = 0 ∧ y = 0)) : dir8 (-x) (-y) = (dir8 x y + 4).tmod 8 := by
  unfold dir8
  rw [ln8_neg, ln8_neg]
  rcases ln8_three y x with h1 | h1 | h1 <;> rcases ln8_three x y with h2 | h2 | h2 <;> rw [h1, h2] <;> first | rfl | exact absurd (ln8_both h2 h1) h
theorem dr8_same (a : P7) : dr8 a a = 0 := by unfold dr8; rw [Int.sub_self, Int.sub_self]; rfl
theorem dr8_other {a b : P7} (h : a ≠ b) : dr8 b a = (dr8 a b + 4).tmod 8 := by
  unfold dr8
  rw [show a.x - b.x = -(b.x - a.x) by omega, show a.y - b.y = -(b.y - a.y) by omega]
  refine dir8_neg fun h2 => h ?_
  obtain ⟨ax, ay⟩ := a; obtain ⟨bx, by_⟩ := b
  simp only at h2
  rw [show ax = bx by omega, show ay = by_ by omega]
theorem pdir8 (a b : P7) (w : World) (ha : a.ok) (hb : b.ok) (hT : Cp8 w) : Yl 25 #[p7v a, p7v b] w (.int .i64 (dr8 a b)) := by
  have h := Direction8_any a b w hT
  rwa [show Dir8 a b = dr8 a b from if_pos ⟨ha, hb⟩] at h
/-- What TemplateLook asks of a feature. -/
structure Lw8 (ds : List Dt) (F : F8) : Prop where
  n1 : 1 ≤ F.ps.length ∧ F.ps.length ≤ 200
  len : F.ss.length = F.ps.length - 1
  first : F.ps[0]? = some (pt8 ds 0)
  last : F.ps[F.ps.length - 1]? = some (pt8 ds (ds.length - 1))
  step : ∀ j (h : j + 1 < F.ps.length), F.ss[j]? = some (dr8 F.ps[j] F.ps[j + 1])
  ok : ∀ p ∈ F.ps, p.ok
  cl : F.cl = (decide (4 ≤ F.ps.length) && nr8 (pt8 ds 0) (pt8 ds (ds.length - 1)))
theorem lw8_of {P N : Int} {ds : List Dt} {L : List Nat} (hv : Vd P N ds) (h : IsThin (BetwP ds 40) (ds.length - 1) L) : Lw8 ds (lk8 ds L) := by
  have hok := fok8_lk hv h.1
  have hps : (lk8 ds L).ps = L.map (pt8 ds) := rfl
  have hss : (lk8 ds L).ss = stp8 (L.map (pt8 ds)) := rfl
  have h1 := h.1.len
  have hf : (lk8 ds L).ps[0]? = some (pt8 ds 0) := by rw [hps, List.getElem?_map, h.1.first]; rfl
  have hl : (lk8 ds L).ps[(lk8 ds L).ps.length - 1]? = some (pt8 ds (ds.length - 1)) := by rw [hps, List.length_map, List.getElem?_map, h.1.last]; rfl
  refine ⟨hok.2.1, by rw [hps, hss, stp8_length], hf, hl, fun j hj => ?_, hok.2.2, ?_⟩
  · exact stp8_at (L.map (pt8 ds)) j hj
  · show cls8 (L.map (pt8 ds)) = _
    unfold cls8
    have e1 : (L.map (pt8 ds)).getD 0 ⟨0, 0⟩ = pt8 ds 0 := by rw [List.getD_eq_getElem?_getD]; rw [hps] at hf; rw [hf]; rfl
    have e2 : (L.map (pt8 ds)).getD ((L.map (pt8 ds)).length - 1) ⟨0, 0⟩ = pt8 ds (ds.length - 1) := by rw [List.getD_eq_getElem?_getD]; rw [hps] at hl; rw [hl]; rfl
    rw [e1, e2, hps]
end Go.Proofs.YtmjcjaecaigahaaDoor
