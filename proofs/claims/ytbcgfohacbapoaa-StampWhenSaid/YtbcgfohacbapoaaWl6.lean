
/- The contract of the statement StampWhen: it answers true. Conditions: ints; the rows read. -/
import Derived.Test.YtbcgfohacbapoaaSn6
import Derived.Test.YtbcgfohacbapoaaCl6
namespace Go.Proofs.Ytbcgfohacbapoaa
open Go.RowKit Go.Lib

theorem wh_no {l : List Sk} (h : l.length = 0) (q t : Int) : whR l q t = .tuple #[.agg #[.int .i64 0, .int .i64 0], .int .i64 60] := by
  obtain rfl : l = [] := List.eq_nil_of_length_eq_zero h
  unfold whR; rw [if_neg (fun h => by have := h.1; cases this)]
theorem wh_at {l : List Sk} (h : IsClk l) {k : Nat} (hk : k < l.length) {t : Int} (ht : 0 ≤ t ∧ t ≤ 1000000) : whR l l[k].p t = .tuple #[.agg #[.int .i64 (t - l[k].hi), .int .i64 (t - l[k].lo + 1)], .int .i64 0] := by
  have hf := fnd_mem h.ok.apart l[k] (List.getElem_mem hk)
  unfold whR; rw [if_pos ⟨by rw [hf]; rfl, h.ok, ht⟩, hf]; rfl
set_option maxRecDepth 100000 in
set_option maxHeartbeats 16000000 in
theorem when_law (A : Option Addr) (n c : Nat) (which clock later : Int) (w : World) (hA : Xz 2 w A n) (hz : n ≤ 9223372036854775807) (h1 : -9223372036854775808 ≤ which ∧ which ≤ 9223372036854775807) (h2 : -9223372036854775808 ≤ clock ∧ clock ≤ 9223372036854775807) (h3 : -9223372036854775808 ≤ later ∧ later ≤ 9223372036854775807) :
    Calls Try.prog 10 #[.slice A n c, .int .i64 which, .int .i64 clock, .int .i64 later] w fun e w' => e = .returned (.bool true) ∧ Below w.heap.size w w' := by
  have HCK := Lib.hid (fun W (hb : Below w.heap.size w W) => rclocks_any A n c W (hA.below hb (Nat.le_refl _)) hz)
  have HW := Lib.hid h1
  obtain ⟨cl, hcl, hPC⟩ := lpick_one clock 1000 h2 (by omega)
  obtain ⟨la, hla, hPL⟩ := lpick_one later 1000 h3 (by omega)
  have HPC := Lib.hid hPC; have HPL := Lib.hid hPL; have HCL := Lib.hid hcl; have HLA := Lib.hid hla
  clear hA hz h1 h2 h3 hPC hPL hcl hla
  have HB_0 : Hid (Below w.heap.size w w) := Below.refl _ _
  go_enter Try.func10, Try.ntmps10
  go_wp2_with fail
  refine (sane6_any _).mono ?_
  rintro e v0 ⟨rfl, hb⟩
  have HB_1 : Hid (Below w.heap.size w v0) := Lib.hid (HB_0.out.trans (hb.mono HB_0.out.size))
  clear hb HB_0
  go_wp2_with fail
  refine (HCK.out _ HB_1.out).mono ?_
  rintro e v1 ⟨⟨l, A2, c2, rfl, hck, hkz, -, -, -, -⟩, hb⟩
  have HC := Lib.hid hck; clear hck
  have FK_1 := Lib.hid hkz
  have FK_2 : Hid (Kz v1 A2 l) := Lib.hid FK_1.out
  clear FK_1
  have HB_2 : Hid (Below w.heap.size w v1) := Lib.hid (HB_1.out.trans (hb.mono HB_1.out.size))
  clear hb HB_1
  by_cases hl : l.length = 0
  case pos =>
    have hw := pwhen_any l 0 5 A2 c2 _ FK_2.out (by have := HC.out.1; omega)
    rw [wh_no hl] at hw
    have HWN := Lib.hid hw
    have d1 : ((l.length : Int) == 0) = true := by rw [beq_iff_eq]; omega
    have d2 : (l.length == 0) = true := by rw [beq_iff_eq]; exact hl
    clear hw hl
    go_wp2_with fail
    refine (HWN.out).mono ?_
    rintro e v2 ⟨rfl, hb⟩
    clear HWN
    have FK_3 : Hid (Kz (v2.alloc (.cells #[.int .i64 0, .int .i64 0] 91)) A2 l) := Lib.hid (FK_2.out.below (allocs_below [(#[.int .i64 0, .int .i64 0], 91)] _ hb hb.size) (Nat.le_refl _))
    clear FK_2
    have HB_3 : Hid (Below w.heap.size w (v2.alloc (.cells #[.int .i64 0, .int .i64 0] 91))) := Lib.hid (allocs_below [(#[.int .i64 0, .int .i64 0], 91)] _ (HB_2.out.trans (hb.mono HB_2.out.size)) (HB_2.out.trans (hb.mono HB_2.out.size)).size)
    have X_3 : Hid (Blk (v2.alloc (.cells #[.int .i64 0, .int .i64 0] 91)) v2.heap.size 91 #[.int .i64 0, .int .i64 0]) := Lib.hid (allocs_blk [(#[.int .i64 0, .int .i64 0], 91)] v2 0 _ rfl)
    clear hb HB_2
    go_wp2_with fail
    go_ret
    exact ⟨rfl, HB_3.out⟩
  case neg =>
    have hc1 := HC.out.1
    obtain ⟨k, hk, hPK⟩ := lpick_one which (l.length : Int) HW.out (by omega)
    obtain ⟨k, rfl⟩ : ∃ kn : Nat, k = (kn : Int) := ⟨k.toNat, by omega⟩
    have hkl : k < l.length := by omega
    have HPK := Lib.hid hPK
    obtain ⟨b, o, rfl⟩ := Rz.some FK_2.out (by omega)
    have HLK := Lib.hid (fun W (hk2 : Kz W (some ⟨b, o, none⟩) l) => Kz.cell hk2 (Below.refl W.heap.size W) (Nat.le_refl _) hkl)
    have HRD := Lib.hid (fun t ht => wh_at HC.out hkl (t := t) ht)
    have hcb := HC.out.2 k hkl
    have d1 : ((l.length : Int) == 0) = false := by rw [beq_eq_false_iff_ne]; omega
    have d2 : (l.length == 0) = false := by rw [beq_eq_false_iff_ne]; exact hl
    obtain ⟨s, hs⟩ : ∃ s, s = l[k] := ⟨_, rfl⟩
    rw [← hs] at HLK HRD hcb
    obtain ⟨p, lo, hi⟩ := s
    dsimp only at HLK HRD hcb
    have hcl := HCL.out; have hla := HLA.out
    obtain ⟨cm, hcm⟩ : ∃ x, x = cl + la := ⟨_, rfl⟩
    obtain ⟨f1, hf1⟩ : ∃ x, x = cl - hi := ⟨_, rfl⟩
    obtain ⟨t1, ht1⟩ : ∃ x, x = cl - lo + 1 := ⟨_, rfl⟩
    obtain ⟨f2, hf2⟩ : ∃ x, x = cm - hi := ⟨_, rfl⟩
    obtain ⟨t2, ht2⟩ : ∃ x, x = cm - lo + 1 := ⟨_, rfl⟩
    obtain ⟨E, hE⟩ : ∃ x, x = hi - lo := ⟨_, rfl⟩
    obtain ⟨D, hD⟩ : ∃ x, x = E + 1 := ⟨_, rfl⟩
    obtain ⟨G, hG⟩ : ∃ x, x = t1 - 1 := ⟨_, rfl⟩
    have hr1 := HRD.out cl (by omega)
    have hr2 := HRD.out cm (by omega)
    rw [← hf1, ← ht1] at hr1; rw [← hf2, ← ht2] at hr2
    have HR1 := Lib.hid hr1; have HR2 := Lib.hid hr2
    have w0 : IntKind.i64.wrap (cl + la) = cm := by rw [hcm]; exact IntWalk.i64_in _ (by omega)
    have w1 : IntKind.i64.wrap (t1 - f1) = D := by rw [IntWalk.i64_in _ (by omega)]; omega
    have w2 : IntKind.i64.wrap (hi - lo) = E := by rw [hE]; exact IntWalk.i64_in _ (by omega)
    have w3 : IntKind.i64.wrap (E + 1) = D := by rw [hD]; exact IntWalk.i64_in _ (by omega)
    have w4 : IntKind.i64.wrap (f2 - f1) = la := by rw [IntWalk.i64_in _ (by omega)]; omega
    have w5 : IntKind.i64.wrap (t2 - t1) = la := by rw [IntWalk.i64_in _ (by omega)]; omega
    have w6 : IntKind.i64.wrap (cl - f1) = hi := by rw [IntWalk.i64_in _ (by omega)]; omega
    have w7 : IntKind.i64.wrap (t1 - 1) = G := by rw [hG]; exact IntWalk.i64_in _ (by omega)
    have w8 : IntKind.i64.wrap (cl - G) = lo := by rw [IntWalk.i64_in _ (by omega)]; omega
    have HWA := Lib.hid (fun W (hk2 : Kz W (some ⟨b, o, none⟩) l) t => pwhen_any l p t (some ⟨b, o, none⟩) c2 W hk2 (by omega))
    have q1 : (0 : Int) ≤ (k : Int) := by omega
    have q2 : (k : Int) < (l.length : Int) := by omega
    clear hl hk hPK hs hcb hcl hla hcm hf1 ht1 hf2 ht2 hE hD hG hr1 hr2 HRD hc1 hkl
    go_wp2_with fail
    refine (HPK.out _).mono ?_
    rintro e v2 ⟨rfl, hb⟩
    have FK_3 : Hid (Kz v2 (some ⟨b, o, none⟩) l) := Lib.hid (FK_2.out.below hb (Nat.le_refl _))
    clear FK_2
    have HB_3 : Hid (Below w.heap.size w v2) := Lib.hid (HB_2.out.trans (hb.mono HB_2.out.size))
    clear hb HB_2
    obtain ⟨l0_, l1_, l2_⟩ := HLK.out _ FK_3.out
    go_wp2_with fail
    refine (HPC.out _).mono ?_
    rintro e v3 ⟨rfl, hb1⟩
    clear l0_ l1_ l2_
    have hb := ((Below.refl v2.heap.size v2).alloc (Nat.le_refl _) (.cells #[.int .i64 p, .int .i64 lo, .int .i64 hi] 77)).trans (hb1.mono (by simp))
    have SB := Lib.hid ((Blk.new v2 77 #[.int .i64 p, .int .i64 lo, .int .i64 hi]).below hb1 (by simp))
    clear hb1
    have FK_4 : Hid (Kz v3 (some ⟨b, o, none⟩) l) := Lib.hid (FK_3.out.below hb (Nat.le_refl _))
    clear FK_3
    have HB_4 : Hid (Below w.heap.size w v3) := Lib.hid (HB_3.out.trans (hb.mono HB_3.out.size))
    clear hb HB_3
    have S_4 : Hid (Blk v3 v2.heap.size 77 #[.int .i64 p, .int .i64 lo, .int .i64 hi]) := SB; clear SB
    have yy0 := S_4.out.cell (i := 0) (v := .int .i64 p) rfl; have yy1 := S_4.out.cell (i := 1) (v := .int .i64 lo) rfl; have yy2 := S_4.out.cell (i := 2) (v := .int .i64 hi) rfl
    go_wp2_with fail
    refine (HPL.out _).mono ?_
    rintro e v4 ⟨rfl, hb⟩
    clear yy0 yy1 yy2
    have FK_5 : Hid (Kz v4 (some ⟨b, o, none⟩) l) := Lib.hid (FK_4.out.below hb (Nat.le_refl _))
    clear FK_4
    have S_5 : Hid (Blk v4 v2.heap.size 77 #[.int .i64 p, .int .i64 lo, .int .i64 hi]) := Lib.hid (S_4.out.below hb S_4.out.lt)
    have HB_5 : Hid (Below w.heap.size w v4) := Lib.hid (HB_4.out.trans (hb.mono HB_4.out.size))
    clear hb S_4 HB_4
    have hwa := HWA.out _ FK_5.out cl; rw [HR1.out] at hwa; have HW1 := Lib.hid hwa; clear hwa
    have yy0 := S_5.out.cell (i := 0) (v := .int .i64 p) rfl; have yy1 := S_5.out.cell (i := 1) (v := .int .i64 lo) rfl; have yy2 := S_5.out.cell (i := 2) (v := .int .i64 hi) rfl
    go_wp2_with fail
    refine (HW1.out).mono ?_
    rintro e v5 ⟨rfl, hb⟩
    clear HW1
    clear yy0 yy1 yy2
    have FK_6 : Hid (Kz (v5.alloc (.cells #[.int .i64 f1, .int .i64 t1] 91)) (some ⟨b, o, none⟩) l) := Lib.hid (FK_5.out.below (allocs_below [(#[.int .i64 f1, .int .i64 t1], 91)] _ hb hb.size) (Nat.le_refl _))
    clear FK_5
    have S_6 : Hid (Blk (v5.alloc (.cells #[.int .i64 f1, .int .i64 t1] 91)) v2.heap.size 77 #[.int .i64 p, .int .i64 lo, .int .i64 hi]) := Lib.hid (allocs_keep [(#[.int .i64 f1, .int .i64 t1], 91)] _ (S_5.out.below hb S_5.out.lt))
    have HB_6 : Hid (Below w.heap.size w (v5.alloc (.cells #[.int .i64 f1, .int .i64 t1] 91))) := Lib.hid (allocs_below [(#[.int .i64 f1, .int .i64 t1], 91)] _ (HB_5.out.trans (hb.mono HB_5.out.size)) (HB_5.out.trans (hb.mono HB_5.out.size)).size)
    have X_6 : Hid (Blk (v5.alloc (.cells #[.int .i64 f1, .int .i64 t1] 91)) v5.heap.size 91 #[.int .i64 f1, .int .i64 t1]) := Lib.hid (allocs_blk [(#[.int .i64 f1, .int .i64 t1], 91)] v5 0 _ rfl)
    clear hb S_5 HB_5
    have hwa := HWA.out _ FK_6.out cm; rw [HR2.out] at hwa; have HW2 := Lib.hid hwa; clear hwa
    have yy0 := S_6.out.cell (i := 0) (v := .int .i64 p) rfl; have yy1 := S_6.out.cell (i := 1) (v := .int .i64 lo) rfl; have yy2 := S_6.out.cell (i := 2) (v := .int .i64 hi) rfl
    go_wp2_with fail
    refine (HW2.out).mono ?_
    rintro e v6 ⟨rfl, hb⟩
    clear HW2
    clear yy0 yy1 yy2
    have FK_7 : Hid (Kz (v6.alloc (.cells #[.int .i64 f2, .int .i64 t2] 91)) (some ⟨b, o, none⟩) l) := Lib.hid (FK_6.out.below (allocs_below [(#[.int .i64 f2, .int .i64 t2], 91)] _ hb hb.size) (Nat.le_refl _))
    clear FK_6
    have S_7 : Hid (Blk (v6.alloc (.cells #[.int .i64 f2, .int .i64 t2] 91)) v2.heap.size 77 #[.int .i64 p, .int .i64 lo, .int .i64 hi]) := Lib.hid (allocs_keep [(#[.int .i64 f2, .int .i64 t2], 91)] _ (S_6.out.below hb S_6.out.lt))
    have X_7 : Hid (Blk (v6.alloc (.cells #[.int .i64 f2, .int .i64 t2] 91)) v5.heap.size 91 #[.int .i64 f1, .int .i64 t1]) := Lib.hid (allocs_keep [(#[.int .i64 f2, .int .i64 t2], 91)] _ (X_6.out.below hb X_6.out.lt))
    have HB_7 : Hid (Below w.heap.size w (v6.alloc (.cells #[.int .i64 f2, .int .i64 t2] 91))) := Lib.hid (allocs_below [(#[.int .i64 f2, .int .i64 t2], 91)] _ (HB_6.out.trans (hb.mono HB_6.out.size)) (HB_6.out.trans (hb.mono HB_6.out.size)).size)
    have Y_7 : Hid (Blk (v6.alloc (.cells #[.int .i64 f2, .int .i64 t2] 91)) v6.heap.size 91 #[.int .i64 f2, .int .i64 t2]) := Lib.hid (allocs_blk [(#[.int .i64 f2, .int .i64 t2], 91)] v6 0 _ rfl)
    clear hb S_6 X_6 HB_6
    have yy0 := S_7.out.cell (i := 0) (v := .int .i64 p) rfl; have yy1 := S_7.out.cell (i := 1) (v := .int .i64 lo) rfl; have yy2 := S_7.out.cell (i := 2) (v := .int .i64 hi) rfl
    have yy3 := X_7.out.cell (i := 0) (v := .int .i64 f1) rfl; have yy4 := X_7.out.cell (i := 1) (v := .int .i64 t1) rfl
    have yy5 := Y_7.out.cell (i := 0) (v := .int .i64 f2) rfl; have yy6 := Y_7.out.cell (i := 1) (v := .int .i64 t2) rfl
    go_wp2_with fail
    go_ret
    exact ⟨rfl, HB_7.out⟩
end Go.Proofs.Ytbcgfohacbapoaa
