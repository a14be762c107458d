
/- The contracts of isEarlier and Order. Conditions: the slices read. -/
import Derived.Test.YtbcgfohacbapoaaTt6
namespace Go.Proofs.Ytbcgfohacbapoaa
open Go.RowKit Go.Lib

theorem IsTt.len {l : List Sk} {ms : List Mt} {out : List Sk} (h : IsTt l ms out) : out.length = l.length := by simpa using congrArg List.length h.1
theorem IsTt.mem {l : List Sk} {ms : List Mt} {out : List Sk} (h : IsTt l ms out) (hs : SkOk l) {s : Sk} (hm : s ∈ out) : (0 ≤ s.p ∧ s.p ≤ 39) ∧ -100000 ≤ s.lo ∧ s.lo ≤ s.hi ∧ s.hi ≤ 100000 := by
  have hp : s.p ∈ l.map (·.p) := by rw [← h.1]; exact List.mem_map.2 ⟨s, hm, rfl⟩
  obtain ⟨t, ht, hst⟩ := List.mem_map.1 hp
  obtain ⟨L, hL, eL⟩ := h.2.1
  obtain ⟨H, hH, eH⟩ := h.2.2.1
  have h1 := hs.mem ht; have h2 := hL.1 t ht; have h3 := hH.1 t ht; have h4 := eL s hm; have h5 := eH s hm; have h6 := h.2.2.2 L hL s hm
  rw [hst] at h2 h3
  omega
theorem IsTt.prs {l : List Sk} {ms : List Mt} {out : List Sk} (h : IsTt l ms out) (hs : SkOk l) : Prs out := ⟨h.apart hs.apart, by rw [h.len]; exact hs.few, fun _ hm => (h.mem hs hm).1⟩
theorem IsTt.who {l : List Sk} {ms : List Mt} {out : List Sk} (h : IsTt l ms out) : who out = who l := by
  funext q
  have h1 := who_mem (l := out) (q := q); have h2 := who_mem (l := l) (q := q)
  rw [h.1, ← h2] at h1
  exact Bool.eq_iff_iff.2 h1
theorem IsTt.bd {l : List Sk} {ms : List Mt} {out : List Sk} (h : IsTt l ms out) (hs : SkOk l) : Bd (byP out) 100000 := fun q => by
  unfold byP
  cases hf : fnd out q with
  | none => simp [z0]
  | some s => have := h.mem hs (fnd_some hf).1; simp only [Option.getD_some]; omega
theorem late_bd {F : Int → Sk} {C : Int} (h : Bd F C) (q : Int) : Bd (late F q) C := fun x => by
  have h1 := h q; have h2 := h x
  unfold late; split
  · dsimp only; omega
  · exact h2
/-- With the bounds of one person at the least, something is possible. -/
theorem late_poss {l : List Sk} {ms : List Mt} (hp : Apart l) {out : List Sk} (ht : IsTt l ms out) {q : Int} (hq : q ∈ l.map (·.p)) : ∃ A, PossF (l.map (·.p)) (sdL ms) (late (byP out) q) A := by
  have hap := ht.apart hp
  obtain ⟨L, hL, eL⟩ := ht.2.1
  have h1 := (poss_iff hap).2 (ht.within.2 hL)
  rw [ht.1] at h1
  refine ⟨L, fun p hpm => ?_, h1.2⟩
  unfold late
  by_cases e : p = q
  · subst e
    rw [if_pos rfl]
    have hm : p ∈ out.map (·.p) := by rw [ht.1]; exact hpm
    obtain ⟨s, hs, rfl⟩ := List.mem_map.1 hm
    rw [byP_mem hap hs]
    have := eL s hs
    dsimp only; omega
  · rw [if_neg e]; exact h1.1 p hpm
noncomputable instance (l : List Sk) (ms : List Mt) (a b : Sm) : Decidable (Earl l ms a b) := Classical.propDecidable _
set_option maxRecDepth 100000 in
set_option maxHeartbeats 8000000 in
theorem pearl_any (l : List Sk) (ms : List Mt) (out : List Sk) (a b : Sm) (A B : Option Addr) (c d : Nat) (w : World) (hp : PrOk l ms) (ht : IsTt l ms out) (ha : a.p ∈ l.map (·.p)) (hb : b.p ∈ l.map (·.p)) (hat : 0 ≤ a.t ∧ a.t ≤ 1000000) (hbt : 0 ≤ b.t ∧ b.t ≤ 1000000)
    (hA : Kz w A out) (hB : Mz w B ms) :
    Calls Try.prog 103 #[.slice A out.length c, .slice B ms.length d, smv a, smv b] w fun e w' => e = .returned (.bool (decide (Earl l ms a b))) ∧ Below w.heap.size w w' := by
  have HBY := Lib.hid (fun W (hb : Below w.heap.size w W) => pbyperson_any out A c W (hA.below hb (Nat.le_refl _)) (ht.prs hp.1))
  have hlen := ht.len
  have HNA := Lib.hid (fun W mb (hM : MapB W mb out.length (who out) (late (byP out) a.p)) (hb : Below w.heap.size w W) => pnarrowed_any mb out.length (who out) _ 100000 ms B d W hM (by have := hp.1.few; omega) (hB.below hb (Nat.le_refl _)) hp.2.1 hp.2.tms (by rw [ht.who]; exact edOk_of hp.1 hp.2) (late_bd (ht.bd hp.1) _) (by omega))
  have hka : i64 a.p := by obtain ⟨s, hs, e⟩ := List.mem_map.1 ha; have := (hp.1.mem hs).1; exact ⟨by omega, by omega⟩
  have hkb : i64 b.p := by obtain ⟨s, hs, e⟩ := List.mem_map.1 hb; have := (hp.1.mem hs).1; exact ⟨by omega, by omega⟩
  have hwa : who out a.p = true := by rw [ht.who]; exact who_mem.2 ha
  have hn40 : out.length ≤ 1000 := by have := hp.1.few; omega
  have hba := ht.bd hp.1 a.p
  have HER : Hid (∀ F', NarN out.length (sdL ms) (late (byP out) a.p) F' → (a.t - (byP out a.p).lo < b.t - (F' b.p).hi ↔ Earl l ms a b) ∧ -100000 ≤ (F' b.p).hi ∧ (F' b.p).hi ≤ 100000) := Lib.hid (fun F' hn => by
    have hn' : Nar (l.map (·.p)) (sdL ms) (late (byP out) a.p) F' := by
      obtain ⟨k, h1, h2⟩ := hn; exact ⟨k, h1, by rw [hlen] at h2; simpa using h2⟩
    obtain ⟨A0, hA0⟩ := late_poss hp.1.apart ht ha
    have h3 := (nar_yes hn' hp.2.met.ends sdL_sym hA0).2.1.1 b.p hb
    have h4 := late_bd (ht.bd hp.1) a.p b.p
    dsimp only at h3
    exact ⟨earl_iff hp.1.apart hp.2.met ht ha hb hn', by omega, by omega⟩)
  obtain ⟨F, hF⟩ : ∃ F, F = byP out a.p := ⟨_, rfl⟩
  have HLT : Hid ((fun x => if x = a.p then (⟨F.p, F.lo, F.lo⟩ : Sk) else byP out x) = late (byP out) a.p) := Lib.hid (by unfold late; rw [← hF])
  have HFE : Hid (byP out a.p = F) := Lib.hid hF.symm
  rw [← hF] at hba HER
  obtain ⟨fp, flo, fhi⟩ := F
  dsimp only at hba HLT HER
  have HWA := Lib.hid hwa; have HKA := Lib.hid hka; have HKB := Lib.hid hkb; have HN := Lib.hid hn40
  obtain ⟨al, hal⟩ : ∃ x, x = a.t - flo := ⟨_, rfl⟩
  have e1 : IntKind.i64.wrap (a.t - flo) = al := by rw [hal]; exact IntWalk.i64_in _ (by omega)
  rw [← hal] at HER
  have HBT := Lib.hid hbt
  clear hA hB hp ht ha hb hat hbt hlen hka hkb hwa hn40 hba hF hal
  have A_0 : Hid (Blk ((w.alloc (.cells #[.int .i64 a.t, .int .i64 a.p, .int .i64 a.n] 64)).alloc (.cells #[.int .i64 b.t, .int .i64 b.p, .int .i64 b.n] 64)) w.heap.size 64 #[.int .i64 a.t, .int .i64 a.p, .int .i64 a.n]) := allocs_blk [(#[.int .i64 a.t, .int .i64 a.p, .int .i64 a.n], 64), (#[.int .i64 b.t, .int .i64 b.p, .int .i64 b.n], 64)] w 0 _ rfl
  have B_0 : Hid (Blk ((w.alloc (.cells #[.int .i64 a.t, .int .i64 a.p, .int .i64 a.n] 64)).alloc (.cells #[.int .i64 b.t, .int .i64 b.p, .int .i64 b.n] 64)) (w.heap.size + 1) 64 #[.int .i64 b.t, .int .i64 b.p, .int .i64 b.n]) := allocs_blk [(#[.int .i64 a.t, .int .i64 a.p, .int .i64 a.n], 64), (#[.int .i64 b.t, .int .i64 b.p, .int .i64 b.n], 64)] w 1 _ rfl
  have HB_0 : Hid (Below w.heap.size w ((w.alloc (.cells #[.int .i64 a.t, .int .i64 a.p, .int .i64 a.n] 64)).alloc (.cells #[.int .i64 b.t, .int .i64 b.p, .int .i64 b.n] 64))) := allocs_below [(#[.int .i64 a.t, .int .i64 a.p, .int .i64 a.n], 64), (#[.int .i64 b.t, .int .i64 b.p, .int .i64 b.n], 64)] w (Below.refl w.heap.size w) (Nat.le_refl _)
  go_enter Try.func103, Try.ntmps103
  have yy0 := A_0.out.cell (i := 0) (v := .int .i64 a.t) rfl; have yy1 := A_0.out.cell (i := 1) (v := .int .i64 a.p) rfl; have yy2 := A_0.out.cell (i := 2) (v := .int .i64 a.n) rfl
  have yy3 := B_0.out.cell (i := 0) (v := .int .i64 b.t) rfl; have yy4 := B_0.out.cell (i := 1) (v := .int .i64 b.p) rfl; have yy5 := B_0.out.cell (i := 2) (v := .int .i64 b.n) rfl
  go_wp2_with fail
  refine (HBY.out _ HB_0.out).mono ?_
  rintro e v0 ⟨he, hM1, hb⟩
  obtain ⟨mb, hmb⟩ : ∃ mb, mb = (((w.alloc (.cells #[.int .i64 a.t, .int .i64 a.p, .int .i64 a.n] 64)).alloc (.cells #[.int .i64 b.t, .int .i64 b.p, .int .i64 b.n] 64))).heap.size := ⟨_, rfl⟩
  rw [← hmb] at he hM1
  have LMB : Hid (w.heap.size + 1 < mb) := Lib.hid (by rw [hmb]; simp)
  clear hmb; subst he
  have HM1 := Lib.hid hM1; clear hM1
  clear yy0 yy1 yy2 yy3 yy4 yy5
  have A_1 : Hid (Blk v0 w.heap.size 64 #[.int .i64 a.t, .int .i64 a.p, .int .i64 a.n]) := Lib.hid (A_0.out.below hb A_0.out.lt)
  have B_1 : Hid (Blk v0 (w.heap.size + 1) 64 #[.int .i64 b.t, .int .i64 b.p, .int .i64 b.n]) := Lib.hid (B_0.out.below hb B_0.out.lt)
  have HB_1 : Hid (Below w.heap.size w v0) := Lib.hid (HB_0.out.trans (hb.mono HB_0.out.size))
  clear hb A_0 B_0 HB_0
  have hlk := HM1.out.look HKA.out
  rw [HFE.out] at hlk
  dsimp only [skv] at hlk
  have HD := Lib.hid (Blk.new v0 77 #[.int .i64 fp, .int .i64 flo, .int .i64 fhi])
  have d1 := HD.out.cell (i := 1) (v := .int .i64 flo) rfl; have d2 := HD.out.cell (i := 2) (v := .int .i64 fhi) rfl; have df := HD.out.frozen 2
  have AX := (A_1.out.alloc (.cells #[.int .i64 fp, .int .i64 flo, .int .i64 fhi] 77)).cell (i := 1) (v := .int .i64 a.p) rfl
  have AY := (A_1.out.alloc (.cells #[.int .i64 fp, .int .i64 flo, .int .i64 flo] 77)).cell (i := 1) (v := .int .i64 a.p) rfl
  have HE := Lib.hid (Blk.new v0 77 #[.int .i64 fp, .int .i64 flo, .int .i64 flo])
  have x0 := HE.out.cell (i := 0) (v := .int .i64 fp) rfl; have x1 := HE.out.cell (i := 1) (v := .int .i64 flo) rfl; have x2 := HE.out.cell (i := 2) (v := .int .i64 flo) rfl
  obtain ⟨w2, hrun, hM2, hG2⟩ := (HM1.out.alloc (.cells #[.int .i64 fp, .int .i64 flo, .int .i64 flo] 77)).store HKA.out HN.out ⟨fp, flo, flo⟩
  rw [HLT.out, if_pos HWA.out, upd_true HWA.out] at hM2
  have HM2 := Lib.hid hM2; have HG2 := Lib.hid hG2; clear hM2 hG2
  have yy0 := A_1.out.cell (i := 1) (v := .int .i64 a.p) rfl
  go_wp2_with fail
  clear hlk d1 d2 df AX AY x0 x1 x2
  clear yy0
  have hb2 : Below w.heap.size w (v0.alloc (.cells #[.int .i64 fp, .int .i64 flo, .int .i64 flo] 77)) := HB_1.out.alloc HB_1.out.size _
  have LM := Lib.hid HM1.out.lt
  have LB := Lib.hid B_1.out.lt
  have HB2 := Lib.hid (hb2.grown HG2.out hb2.size (fun k e => by cases e; have := LMB.out; omega))
  have A_2 := Lib.hid ((A_1.out.alloc (.cells #[.int .i64 fp, .int .i64 flo, .int .i64 flo] 77)).only HG2.out (by have := LMB.out; simp; omega))
  have B_2 := Lib.hid ((B_1.out.alloc (.cells #[.int .i64 fp, .int .i64 flo, .int .i64 flo] 77)).only HG2.out (by have := LMB.out; simp; omega))
  have E_2 := Lib.hid (HE.out.only HG2.out (by have := LM.out; simp; omega))
  clear hb2 A_1 B_1 HE HD HB_1 HM1 HG2
  refine (HNA.out _ _ HM2.out HB2.out).mono ?_
  rintro e v3 ⟨F', hn, rfl, hM3, hG3⟩
  have A_3 := Lib.hid (A_2.out.only hG3 (by have := LMB.out; simp; omega))
  have B_3 := Lib.hid (B_2.out.only hG3 (by have := LMB.out; simp; omega))
  have E_3 := Lib.hid (E_2.out.only hG3 (by have := LM.out; simp; omega))
  have HB3 := Lib.hid (HB2.out.grown hG3 HB2.out.size (fun k e => by cases e; have := LMB.out; omega))
  have HE1 := Lib.hid (HER.out F' hn)
  have hlk := hM3.look HKB.out
  obtain ⟨G, hG⟩ : ∃ G, G = F' b.p := ⟨_, rfl⟩
  rw [← hG] at hlk HE1
  obtain ⟨gp, glo, ghi⟩ := G
  dsimp only [skv] at hlk
  have hge := HE1.out; have hbt := HBT.out
  dsimp only at hge
  have e2 : IntKind.i64.wrap (b.t - ghi) = b.t - ghi := IntWalk.i64_in _ (by omega)
  have HF : Hid (decide (Earl l ms a b) = decide (al < b.t - ghi)) := Lib.hid (by
    by_cases h : al < b.t - ghi
    · rw [decide_eq_true h, decide_eq_true (hge.1.1 h)]
    · rw [decide_eq_false h, decide_eq_false (fun hh => h (hge.1.2 hh))])
  have hfl : ∀ W, (Instr.field 77 (.agg #[.int .i64 gp, .int .i64 glo, .int .i64 ghi]) 2).run Try.prog W = .ok (.int .i64 ghi) W := fun W => by kernel_rfl
  clear hge hbt hn hM3 hG3 hG HE1 A_2 B_2 E_2 HB2 HM2
  have a0 := A_3.out.cell (i := 0) (v := .int .i64 a.t) rfl; have b0 := B_3.out.cell (i := 0) (v := .int .i64 b.t) rfl; have b1 := B_3.out.cell (i := 1) (v := .int .i64 b.p) rfl; have x1 := E_3.out.cell (i := 1) (v := .int .i64 flo) rfl
  go_wp2_with fail
  go_ret
  exact ⟨by rw [HF.out]; rfl, HB3.out⟩
/-- Order's result. -/
def OrOk (l : List Sk) (ms : List Mt) (a b : Sm) : Prop := PrOk l ms ∧ Feas l ms ∧ Told l a ∧ Told l b
noncomputable instance (l : List Sk) (ms : List Mt) (a b : Sm) : Decidable (OrOk l ms a b) := Classical.propDecidable _
noncomputable def orR (l : List Sk) (ms : List Mt) (a b : Sm) : Value :=
  if OrOk l ms a b then .tuple #[.int .i64 (if Earl l ms a b then -1 else if Earl l ms b a then 1 else 0), .int .i64 0] else .tuple #[.int .i64 0, .int .i64 60]
theorem IsTt.told {l : List Sk} {ms : List Mt} {out : List Sk} (h : IsTt l ms out) (a : Sm) : Told out a ↔ Told l a := by
  have := congrFun h.who a.p
  unfold Go.Proofs.Ytbcgfohacbapoaa.who at this
  unfold Told; rw [this]
set_option maxRecDepth 100000 in
set_option maxHeartbeats 8000000 in
theorem porder_no (l : List Sk) (ms : List Mt) (a b : Sm) (A B : Option Addr) (c d : Nat) (w : World) (hA : Kz w A l) (hz : l.length ≤ 9000000000000000000) (hB : Mz w B ms) (hy : ms.length ≤ 9000000000000000000) (hd : ms.length ≤ d) (h : ¬ (PrOk l ms ∧ Feas l ms)) :
    Calls Try.prog 61 #[.slice A l.length c, .slice B ms.length d, smv a, smv b] w fun e w' => e = .returned (.tuple #[.int .i64 0, .int .i64 60]) ∧ Below w.heap.size w w' := by
  have HT : Hid (∀ W, Below w.heap.size w W → Calls Try.prog 54 #[.slice A l.length c, .slice B ms.length d] W fun e w' => (∃ x y, e = .returned (.tuple #[.slice none 0 0, .int .i64 x, .int .i64 y])) ∧ Below W.heap.size W w') := Lib.hid (fun W hb => by
    by_cases hp : PrOk l ms
    · refine (ptight_bad l ms A B c d W (hA.below hb (Nat.le_refl _)) hz (hB.below hb (Nat.le_refl _)) hy hd hp (fun hf => h ⟨hp, hf⟩)).mono ?_
      rintro e v ⟨⟨k, _, rfl, _⟩, h2⟩; exact ⟨⟨_, _, rfl⟩, h2⟩
    · refine (ptight_no l ms A B c d W (hA.below hb (Nat.le_refl _)) hz (hB.below hb (Nat.le_refl _)) hy hp).mono ?_
      rintro e v ⟨rfl, h2⟩; exact ⟨⟨_, _, rfl⟩, h2⟩)
  have HI := Lib.hid (fun W => pistold_any [] a none 0 W (Rz.nil _ _) (by simp))
  rw [show decide (Told [] a) = false from decide_eq_false fun h => by have := h.1; cases this] at HI
  clear hA hz hB hy hd h
  have A_0 : Hid (Blk ((w.alloc (.cells #[.int .i64 a.t, .int .i64 a.p, .int .i64 a.n] 64)).alloc (.cells #[.int .i64 b.t, .int .i64 b.p, .int .i64 b.n] 64)) w.heap.size 64 #[.int .i64 a.t, .int .i64 a.p, .int .i64 a.n]) := allocs_blk [(#[.int .i64 a.t, .int .i64 a.p, .int .i64 a.n], 64), (#[.int .i64 b.t, .int .i64 b.p, .int .i64 b.n], 64)] w 0 _ rfl
  have B_0 : Hid (Blk ((w.alloc (.cells #[.int .i64 a.t, .int .i64 a.p, .int .i64 a.n] 64)).alloc (.cells #[.int .i64 b.t, .int .i64 b.p, .int .i64 b.n] 64)) (w.heap.size + 1) 64 #[.int .i64 b.t, .int .i64 b.p, .int .i64 b.n]) := allocs_blk [(#[.int .i64 a.t, .int .i64 a.p, .int .i64 a.n], 64), (#[.int .i64 b.t, .int .i64 b.p, .int .i64 b.n], 64)] w 1 _ rfl
  have HB_0 : Hid (Below w.heap.size w ((w.alloc (.cells #[.int .i64 a.t, .int .i64 a.p, .int .i64 a.n] 64)).alloc (.cells #[.int .i64 b.t, .int .i64 b.p, .int .i64 b.n] 64))) := allocs_below [(#[.int .i64 a.t, .int .i64 a.p, .int .i64 a.n], 64), (#[.int .i64 b.t, .int .i64 b.p, .int .i64 b.n], 64)] w (Below.refl w.heap.size w) (Nat.le_refl _)
  have hundef := un_none
  go_enter Try.func61, Try.ntmps61
  have yy0 := A_0.out.cell (i := 0) (v := .int .i64 a.t) rfl; have yy1 := A_0.out.cell (i := 1) (v := .int .i64 a.p) rfl; have yy2 := A_0.out.cell (i := 2) (v := .int .i64 a.n) rfl
  have yy3 := B_0.out.cell (i := 0) (v := .int .i64 b.t) rfl; have yy4 := B_0.out.cell (i := 1) (v := .int .i64 b.p) rfl; have yy5 := B_0.out.cell (i := 2) (v := .int .i64 b.n) rfl
  go_wp2_with fail
  refine (HT.out _ HB_0.out).mono ?_
  rintro e v0 ⟨⟨x, y, rfl⟩, hb⟩
  clear yy0 yy1 yy2 yy3 yy4 yy5
  have A_1 : Hid (Blk v0 w.heap.size 64 #[.int .i64 a.t, .int .i64 a.p, .int .i64 a.n]) := Lib.hid (A_0.out.below hb A_0.out.lt)
  have B_1 : Hid (Blk v0 (w.heap.size + 1) 64 #[.int .i64 b.t, .int .i64 b.p, .int .i64 b.n]) := Lib.hid (B_0.out.below hb B_0.out.lt)
  have HB_1 : Hid (Below w.heap.size w v0) := Lib.hid (HB_0.out.trans (hb.mono HB_0.out.size))
  clear hb A_0 B_0 HB_0
  have yy0 := A_1.out.cell (i := 0) (v := .int .i64 a.t) rfl; have yy1 := A_1.out.cell (i := 1) (v := .int .i64 a.p) rfl; have yy2 := A_1.out.cell (i := 2) (v := .int .i64 a.n) rfl
  have yy3 := B_1.out.cell (i := 0) (v := .int .i64 b.t) rfl; have yy4 := B_1.out.cell (i := 1) (v := .int .i64 b.p) rfl; have yy5 := B_1.out.cell (i := 2) (v := .int .i64 b.n) rfl
  go_wp2_with fail
  refine (HI.out _).mono ?_
  rintro e v1 ⟨rfl, hb⟩
  clear yy0 yy1 yy2 yy3 yy4 yy5
  have A_2 : Hid (Blk v1 w.heap.size 64 #[.int .i64 a.t, .int .i64 a.p, .int .i64 a.n]) := Lib.hid (A_1.out.below hb A_1.out.lt)
  have B_2 : Hid (Blk v1 (w.heap.size + 1) 64 #[.int .i64 b.t, .int .i64 b.p, .int .i64 b.n]) := Lib.hid (B_1.out.below hb B_1.out.lt)
  have HB_2 : Hid (Below w.heap.size w v1) := Lib.hid (HB_1.out.trans (hb.mono HB_1.out.size))
  clear hb A_1 B_1 HB_1
  go_wp2_with fail
  exact bodyPost_ret (v := .tuple #[.int .i64 0, .int .i64 60]) (by kernel_rfl) rfl ⟨rfl, HB_2.out⟩
set_option maxRecDepth 100000 in
set_option maxHeartbeats 8000000 in
theorem porder_na (l : List Sk) (ms : List Mt) (a b : Sm) (A B : Option Addr) (c d : Nat) (w : World) (hA : Kz w A l) (hz : l.length ≤ 9000000000000000000) (hB : Mz w B ms) (hy : ms.length ≤ 9000000000000000000) (hp : PrOk l ms) (hf : Feas l ms) (h1 : ¬ Told l a) :
    Calls Try.prog 61 #[.slice A l.length c, .slice B ms.length d, smv a, smv b] w fun e w' => e = .returned (.tuple #[.int .i64 0, .int .i64 60]) ∧ Below w.heap.size w w' := by
  have HT := Lib.hid (fun W (hb : Below w.heap.size w W) => ptight_ok l ms A B c d W (hA.below hb (Nat.le_refl _)) hz (hB.below hb (Nat.le_refl _)) hy hp hf)
  have HIA := Lib.hid (fun out W g (ht : IsTt l ms out) (hk : Kz W (some ⟨g, 0, none⟩) out) => pistold_any out a (some ⟨g, 0, none⟩) out.length W hk (by have := hp.1.few; have := ht.len; omega))
  have HIB := Lib.hid (fun out W g (ht : IsTt l ms out) (hk : Kz W (some ⟨g, 0, none⟩) out) => pistold_any out b (some ⟨g, 0, none⟩) out.length W hk (by have := hp.1.few; have := ht.len; omega))
  have HTA : Hid (∀ out, IsTt l ms out → decide (Told out a) = false) := Lib.hid (fun out ht => decide_eq_false fun hh => h1 ((ht.told a).1 hh))
  clear hA hz hB hy hp hf h1
  have A_0 : Hid (Blk ((w.alloc (.cells #[.int .i64 a.t, .int .i64 a.p, .int .i64 a.n] 64)).alloc (.cells #[.int .i64 b.t, .int .i64 b.p, .int .i64 b.n] 64)) w.heap.size 64 #[.int .i64 a.t, .int .i64 a.p, .int .i64 a.n]) := allocs_blk [(#[.int .i64 a.t, .int .i64 a.p, .int .i64 a.n], 64), (#[.int .i64 b.t, .int .i64 b.p, .int .i64 b.n], 64)] w 0 _ rfl
  have B_0 : Hid (Blk ((w.alloc (.cells #[.int .i64 a.t, .int .i64 a.p, .int .i64 a.n] 64)).alloc (.cells #[.int .i64 b.t, .int .i64 b.p, .int .i64 b.n] 64)) (w.heap.size + 1) 64 #[.int .i64 b.t, .int .i64 b.p, .int .i64 b.n]) := allocs_blk [(#[.int .i64 a.t, .int .i64 a.p, .int .i64 a.n], 64), (#[.int .i64 b.t, .int .i64 b.p, .int .i64 b.n], 64)] w 1 _ rfl
  have HB_0 : Hid (Below w.heap.size w ((w.alloc (.cells #[.int .i64 a.t, .int .i64 a.p, .int .i64 a.n] 64)).alloc (.cells #[.int .i64 b.t, .int .i64 b.p, .int .i64 b.n] 64))) := allocs_below [(#[.int .i64 a.t, .int .i64 a.p, .int .i64 a.n], 64), (#[.int .i64 b.t, .int .i64 b.p, .int .i64 b.n], 64)] w (Below.refl w.heap.size w) (Nat.le_refl _)
  have hundef := un_none
  go_enter Try.func61, Try.ntmps61
  have yy0 := A_0.out.cell (i := 0) (v := .int .i64 a.t) rfl; have yy1 := A_0.out.cell (i := 1) (v := .int .i64 a.p) rfl; have yy2 := A_0.out.cell (i := 2) (v := .int .i64 a.n) rfl
  have yy3 := B_0.out.cell (i := 0) (v := .int .i64 b.t) rfl; have yy4 := B_0.out.cell (i := 1) (v := .int .i64 b.p) rfl; have yy5 := B_0.out.cell (i := 2) (v := .int .i64 b.n) rfl
  go_wp2_with fail
  refine (HT.out _ HB_0.out).mono ?_
  rintro e v0 ⟨⟨out, gg, rfl, ht, hk⟩, hb⟩
  have HTT := Lib.hid ht; have HK_1 := Lib.hid hk; clear ht hk
  clear yy0 yy1 yy2 yy3 yy4 yy5
  have A_1 : Hid (Blk v0 w.heap.size 64 #[.int .i64 a.t, .int .i64 a.p, .int .i64 a.n]) := Lib.hid (A_0.out.below hb A_0.out.lt)
  have B_1 : Hid (Blk v0 (w.heap.size + 1) 64 #[.int .i64 b.t, .int .i64 b.p, .int .i64 b.n]) := Lib.hid (B_0.out.below hb B_0.out.lt)
  have HB_1 : Hid (Below w.heap.size w v0) := Lib.hid (HB_0.out.trans (hb.mono HB_0.out.size))
  clear hb A_0 B_0 HB_0
  have hc := HIA.out out _ gg HTT.out HK_1.out
  rw [HTA.out out HTT.out] at hc
  have yy0 := A_1.out.cell (i := 0) (v := .int .i64 a.t) rfl; have yy1 := A_1.out.cell (i := 1) (v := .int .i64 a.p) rfl; have yy2 := A_1.out.cell (i := 2) (v := .int .i64 a.n) rfl
  have yy3 := B_1.out.cell (i := 0) (v := .int .i64 b.t) rfl; have yy4 := B_1.out.cell (i := 1) (v := .int .i64 b.p) rfl; have yy5 := B_1.out.cell (i := 2) (v := .int .i64 b.n) rfl
  have HC := Lib.hid hc; clear hc
  go_wp2_with fail
  refine HC.out.mono ?_
  rintro e v1 ⟨rfl, hb⟩
  clear HC
  have HK_2 := Lib.hid (HK_1.out.below hb (Nat.le_refl _))
  clear yy0 yy1 yy2 yy3 yy4 yy5
  have A_2 : Hid (Blk v1 w.heap.size 64 #[.int .i64 a.t, .int .i64 a.p, .int .i64 a.n]) := Lib.hid (A_1.out.below hb A_1.out.lt)
  have B_2 : Hid (Blk v1 (w.heap.size + 1) 64 #[.int .i64 b.t, .int .i64 b.p, .int .i64 b.n]) := Lib.hid (B_1.out.below hb B_1.out.lt)
  have HB_2 : Hid (Below w.heap.size w v1) := Lib.hid (HB_1.out.trans (hb.mono HB_1.out.size))
  clear hb A_1 B_1 HB_1
  go_wp2_with fail
  exact bodyPost_ret (v := .tuple #[.int .i64 0, .int .i64 60]) (by kernel_rfl) rfl ⟨rfl, HB_2.out⟩
set_option maxRecDepth 100000 in
set_option maxHeartbeats 8000000 in
theorem porder_nb (l : List Sk) (ms : List Mt) (a b : Sm) (A B : Option Addr) (c d : Nat) (w : World) (hA : Kz w A l) (hz : l.length ≤ 9000000000000000000) (hB : Mz w B ms) (hy : ms.length ≤ 9000000000000000000) (hp : PrOk l ms) (hf : Feas l ms) (h1 : Told l a) (h2 : ¬ Told l b) :
    Calls Try.prog 61 #[.slice A l.length c, .slice B ms.length d, smv a, smv b] w fun e w' => e = .returned (.tuple #[.int .i64 0, .int .i64 60]) ∧ Below w.heap.size w w' := by
  have HT := Lib.hid (fun W (hb : Below w.heap.size w W) => ptight_ok l ms A B c d W (hA.below hb (Nat.le_refl _)) hz (hB.below hb (Nat.le_refl _)) hy hp hf)
  have HIA := Lib.hid (fun out W g (ht : IsTt l ms out) (hk : Kz W (some ⟨g, 0, none⟩) out) => pistold_any out a (some ⟨g, 0, none⟩) out.length W hk (by have := hp.1.few; have := ht.len; omega))
  have HIB := Lib.hid (fun out W g (ht : IsTt l ms out) (hk : Kz W (some ⟨g, 0, none⟩) out) => pistold_any out b (some ⟨g, 0, none⟩) out.length W hk (by have := hp.1.few; have := ht.len; omega))
  have HTA : Hid (∀ out, IsTt l ms out → decide (Told out a) = true) := Lib.hid (fun out ht => decide_eq_true ((ht.told a).2 h1))
  have HTB : Hid (∀ out, IsTt l ms out → decide (Told out b) = false) := Lib.hid (fun out ht => decide_eq_false fun hh => h2 ((ht.told b).1 hh))
  clear hA hz hB hy hp hf h1 h2
  have A_0 : Hid (Blk ((w.alloc (.cells #[.int .i64 a.t, .int .i64 a.p, .int .i64 a.n] 64)).alloc (.cells #[.int .i64 b.t, .int .i64 b.p, .int .i64 b.n] 64)) w.heap.size 64 #[.int .i64 a.t, .int .i64 a.p, .int .i64 a.n]) := allocs_blk [(#[.int .i64 a.t, .int .i64 a.p, .int .i64 a.n], 64), (#[.int .i64 b.t, .int .i64 b.p, .int .i64 b.n], 64)] w 0 _ rfl
  have B_0 : Hid (Blk ((w.alloc (.cells #[.int .i64 a.t, .int .i64 a.p, .int .i64 a.n] 64)).alloc (.cells #[.int .i64 b.t, .int .i64 b.p, .int .i64 b.n] 64)) (w.heap.size + 1) 64 #[.int .i64 b.t, .int .i64 b.p, .int .i64 b.n]) := allocs_blk [(#[.int .i64 a.t, .int .i64 a.p, .int .i64 a.n], 64), (#[.int .i64 b.t, .int .i64 b.p, .int .i64 b.n], 64)] w 1 _ rfl
  have HB_0 : Hid (Below w.heap.size w ((w.alloc (.cells #[.int .i64 a.t, .int .i64 a.p, .int .i64 a.n] 64)).alloc (.cells #[.int .i64 b.t, .int .i64 b.p, .int .i64 b.n] 64))) := allocs_below [(#[.int .i64 a.t, .int .i64 a.p, .int .i64 a.n], 64), (#[.int .i64 b.t, .int .i64 b.p, .int .i64 b.n], 64)] w (Below.refl w.heap.size w) (Nat.le_refl _)
  have hundef := un_none
  go_enter Try.func61, Try.ntmps61
  have yy0 := A_0.out.cell (i := 0) (v := .int .i64 a.t) rfl; have yy1 := A_0.out.cell (i := 1) (v := .int .i64 a.p) rfl; have yy2 := A_0.out.cell (i := 2) (v := .int .i64 a.n) rfl
  have yy3 := B_0.out.cell (i := 0) (v := .int .i64 b.t) rfl; have yy4 := B_0.out.cell (i := 1) (v := .int .i64 b.p) rfl; have yy5 := B_0.out.cell (i := 2) (v := .int .i64 b.n) rfl
  go_wp2_with fail
  refine (HT.out _ HB_0.out).mono ?_
  rintro e v0 ⟨⟨out, gg, rfl, ht, hk⟩, hb⟩
  have HTT := Lib.hid ht; have HK_1 := Lib.hid hk; clear ht hk
  clear yy0 yy1 yy2 yy3 yy4 yy5
  have A_1 : Hid (Blk v0 w.heap.size 64 #[.int .i64 a.t, .int .i64 a.p, .int .i64 a.n]) := Lib.hid (A_0.out.below hb A_0.out.lt)
  have B_1 : Hid (Blk v0 (w.heap.size + 1) 64 #[.int .i64 b.t, .int .i64 b.p, .int .i64 b.n]) := Lib.hid (B_0.out.below hb B_0.out.lt)
  have HB_1 : Hid (Below w.heap.size w v0) := Lib.hid (HB_0.out.trans (hb.mono HB_0.out.size))
  clear hb A_0 B_0 HB_0
  have hc := HIA.out out _ gg HTT.out HK_1.out
  rw [HTA.out out HTT.out] at hc
  have yy0 := A_1.out.cell (i := 0) (v := .int .i64 a.t) rfl; have yy1 := A_1.out.cell (i := 1) (v := .int .i64 a.p) rfl; have yy2 := A_1.out.cell (i := 2) (v := .int .i64 a.n) rfl
  have yy3 := B_1.out.cell (i := 0) (v := .int .i64 b.t) rfl; have yy4 := B_1.out.cell (i := 1) (v := .int .i64 b.p) rfl; have yy5 := B_1.out.cell (i := 2) (v := .int .i64 b.n) rfl
  have HC := Lib.hid hc; clear hc
  go_wp2_with fail
  refine HC.out.mono ?_
  rintro e v1 ⟨rfl, hb⟩
  clear HC
  have HK_2 := Lib.hid (HK_1.out.below hb (Nat.le_refl _))
  clear yy0 yy1 yy2 yy3 yy4 yy5
  have A_2 : Hid (Blk v1 w.heap.size 64 #[.int .i64 a.t, .int .i64 a.p, .int .i64 a.n]) := Lib.hid (A_1.out.below hb A_1.out.lt)
  have B_2 : Hid (Blk v1 (w.heap.size + 1) 64 #[.int .i64 b.t, .int .i64 b.p, .int .i64 b.n]) := Lib.hid (B_1.out.below hb B_1.out.lt)
  have HB_2 : Hid (Below w.heap.size w v1) := Lib.hid (HB_1.out.trans (hb.mono HB_1.out.size))
  clear hb A_1 B_1 HB_1
  have hc := HIB.out out _ gg HTT.out HK_2.out
  rw [HTB.out out HTT.out] at hc
  have yy0 := A_2.out.cell (i := 0) (v := .int .i64 a.t) rfl; have yy1 := A_2.out.cell (i := 1) (v := .int .i64 a.p) rfl; have yy2 := A_2.out.cell (i := 2) (v := .int .i64 a.n) rfl
  have yy3 := B_2.out.cell (i := 0) (v := .int .i64 b.t) rfl; have yy4 := B_2.out.cell (i := 1) (v := .int .i64 b.p) rfl; have yy5 := B_2.out.cell (i := 2) (v := .int .i64 b.n) rfl
  have HC := Lib.hid hc; clear hc
  go_wp2_with fail
  refine HC.out.mono ?_
  rintro e v2 ⟨rfl, hb⟩
  clear HC
  have HK_3 := Lib.hid (HK_2.out.below hb (Nat.le_refl _))
  clear yy0 yy1 yy2 yy3 yy4 yy5
  have A_3 : Hid (Blk v2 w.heap.size 64 #[.int .i64 a.t, .int .i64 a.p, .int .i64 a.n]) := Lib.hid (A_2.out.below hb A_2.out.lt)
  have B_3 : Hid (Blk v2 (w.heap.size + 1) 64 #[.int .i64 b.t, .int .i64 b.p, .int .i64 b.n]) := Lib.hid (B_2.out.below hb B_2.out.lt)
  have HB_3 : Hid (Below w.heap.size w v2) := Lib.hid (HB_2.out.trans (hb.mono HB_2.out.size))
  clear hb A_2 B_2 HB_2
  go_wp2_with fail
  exact bodyPost_ret (v := .tuple #[.int .i64 0, .int .i64 60]) (by kernel_rfl) rfl ⟨rfl, HB_3.out⟩
set_option maxRecDepth 100000 in
set_option maxHeartbeats 8000000 in
theorem porder_lt (l : List Sk) (ms : List Mt) (a b : Sm) (A B : Option Addr) (c d : Nat) (w : World) (hA : Kz w A l) (hz : l.length ≤ 9000000000000000000) (hB : Mz w B ms) (hy : ms.length ≤ 9000000000000000000) (hp : PrOk l ms) (hf : Feas l ms) (h1 : Told l a) (h2 : Told l b) (h3 : Earl l ms a b) :
    Calls Try.prog 61 #[.slice A l.length c, .slice B ms.length d, smv a, smv b] w fun e w' => e = .returned (.tuple #[.int .i64 (-1), .int .i64 0]) ∧ Below w.heap.size w w' := by
  have HT := Lib.hid (fun W (hb : Below w.heap.size w W) => ptight_ok l ms A B c d W (hA.below hb (Nat.le_refl _)) hz (hB.below hb (Nat.le_refl _)) hy hp hf)
  have HIA := Lib.hid (fun out W g (ht : IsTt l ms out) (hk : Kz W (some ⟨g, 0, none⟩) out) => pistold_any out a (some ⟨g, 0, none⟩) out.length W hk (by have := hp.1.few; have := ht.len; omega))
  have HIB := Lib.hid (fun out W g (ht : IsTt l ms out) (hk : Kz W (some ⟨g, 0, none⟩) out) => pistold_any out b (some ⟨g, 0, none⟩) out.length W hk (by have := hp.1.few; have := ht.len; omega))
  have HTA : Hid (∀ out, IsTt l ms out → decide (Told out a) = true) := Lib.hid (fun out ht => decide_eq_true ((ht.told a).2 h1))
  have HTB : Hid (∀ out, IsTt l ms out → decide (Told out b) = true) := Lib.hid (fun out ht => decide_eq_true ((ht.told b).2 h2))
  have HE1 := Lib.hid (fun W (hb : Below w.heap.size w W) out g (ht : IsTt l ms out) (hk : Kz W (some ⟨g, 0, none⟩) out) => pearl_any l ms out a b (some ⟨g, 0, none⟩) B out.length d W hp ht (who_mem.1 h1.1) (who_mem.1 h2.1) h1.2.1 h2.2.1 hk (hB.below hb (Nat.le_refl _)))
  rw [decide_eq_true h3] at HE1
  clear hA hz hB hy hp hf h1 h2 h3
  have A_0 : Hid (Blk ((w.alloc (.cells #[.int .i64 a.t, .int .i64 a.p, .int .i64 a.n] 64)).alloc (.cells #[.int .i64 b.t, .int .i64 b.p, .int .i64 b.n] 64)) w.heap.size 64 #[.int .i64 a.t, .int .i64 a.p, .int .i64 a.n]) := allocs_blk [(#[.int .i64 a.t, .int .i64 a.p, .int .i64 a.n], 64), (#[.int .i64 b.t, .int .i64 b.p, .int .i64 b.n], 64)] w 0 _ rfl
  have B_0 : Hid (Blk ((w.alloc (.cells #[.int .i64 a.t, .int .i64 a.p, .int .i64 a.n] 64)).alloc (.cells #[.int .i64 b.t, .int .i64 b.p, .int .i64 b.n] 64)) (w.heap.size + 1) 64 #[.int .i64 b.t, .int .i64 b.p, .int .i64 b.n]) := allocs_blk [(#[.int .i64 a.t, .int .i64 a.p, .int .i64 a.n], 64), (#[.int .i64 b.t, .int .i64 b.p, .int .i64 b.n], 64)] w 1 _ rfl
  have HB_0 : Hid (Below w.heap.size w ((w.alloc (.cells #[.int .i64 a.t, .int .i64 a.p, .int .i64 a.n] 64)).alloc (.cells #[.int .i64 b.t, .int .i64 b.p, .int .i64 b.n] 64))) := allocs_below [(#[.int .i64 a.t, .int .i64 a.p, .int .i64 a.n], 64), (#[.int .i64 b.t, .int .i64 b.p, .int .i64 b.n], 64)] w (Below.refl w.heap.size w) (Nat.le_refl _)
  have hundef := un_none
  go_enter Try.func61, Try.ntmps61
  have yy0 := A_0.out.cell (i := 0) (v := .int .i64 a.t) rfl; have yy1 := A_0.out.cell (i := 1) (v := .int .i64 a.p) rfl; have yy2 := A_0.out.cell (i := 2) (v := .int .i64 a.n) rfl
  have yy3 := B_0.out.cell (i := 0) (v := .int .i64 b.t) rfl; have yy4 := B_0.out.cell (i := 1) (v := .int .i64 b.p) rfl; have yy5 := B_0.out.cell (i := 2) (v := .int .i64 b.n) rfl
  go_wp2_with fail
  refine (HT.out _ HB_0.out).mono ?_
  rintro e v0 ⟨⟨out, gg, rfl, ht, hk⟩, hb⟩
  have HTT := Lib.hid ht; have HK_1 := Lib.hid hk; clear ht hk
  clear yy0 yy1 yy2 yy3 yy4 yy5
  have A_1 : Hid (Blk v0 w.heap.size 64 #[.int .i64 a.t, .int .i64 a.p, .int .i64 a.n]) := Lib.hid (A_0.out.below hb A_0.out.lt)
  have B_1 : Hid (Blk v0 (w.heap.size + 1) 64 #[.int .i64 b.t, .int .i64 b.p, .int .i64 b.n]) := Lib.hid (B_0.out.below hb B_0.out.lt)
  have HB_1 : Hid (Below w.heap.size w v0) := Lib.hid (HB_0.out.trans (hb.mono HB_0.out.size))
  clear hb A_0 B_0 HB_0
  have hc := HIA.out out _ gg HTT.out HK_1.out
  rw [HTA.out out HTT.out] at hc
  have yy0 := A_1.out.cell (i := 0) (v := .int .i64 a.t) rfl; have yy1 := A_1.out.cell (i := 1) (v := .int .i64 a.p) rfl; have yy2 := A_1.out.cell (i := 2) (v := .int .i64 a.n) rfl
  have yy3 := B_1.out.cell (i := 0) (v := .int .i64 b.t) rfl; have yy4 := B_1.out.cell (i := 1) (v := .int .i64 b.p) rfl; have yy5 := B_1.out.cell (i := 2) (v := .int .i64 b.n) rfl
  have HC := Lib.hid hc; clear hc
  go_wp2_with fail
  refine HC.out.mono ?_
  rintro e v1 ⟨rfl, hb⟩
  clear HC
  have HK_2 := Lib.hid (HK_1.out.below hb (Nat.le_refl _))
  clear yy0 yy1 yy2 yy3 yy4 yy5
  have A_2 : Hid (Blk v1 w.heap.size 64 #[.int .i64 a.t, .int .i64 a.p, .int .i64 a.n]) := Lib.hid (A_1.out.below hb A_1.out.lt)
  have B_2 : Hid (Blk v1 (w.heap.size + 1) 64 #[.int .i64 b.t, .int .i64 b.p, .int .i64 b.n]) := Lib.hid (B_1.out.below hb B_1.out.lt)
  have HB_2 : Hid (Below w.heap.size w v1) := Lib.hid (HB_1.out.trans (hb.mono HB_1.out.size))
  clear hb A_1 B_1 HB_1
  have hc := HIB.out out _ gg HTT.out HK_2.out
  rw [HTB.out out HTT.out] at hc
  have yy0 := A_2.out.cell (i := 0) (v := .int .i64 a.t) rfl; have yy1 := A_2.out.cell (i := 1) (v := .int .i64 a.p) rfl; have yy2 := A_2.out.cell (i := 2) (v := .int .i64 a.n) rfl
  have yy3 := B_2.out.cell (i := 0) (v := .int .i64 b.t) rfl; have yy4 := B_2.out.cell (i := 1) (v := .int .i64 b.p) rfl; have yy5 := B_2.out.cell (i := 2) (v := .int .i64 b.n) rfl
  have HC := Lib.hid hc; clear hc
  go_wp2_with fail
  refine HC.out.mono ?_
  rintro e v2 ⟨rfl, hb⟩
  clear HC
  have HK_3 := Lib.hid (HK_2.out.below hb (Nat.le_refl _))
  clear yy0 yy1 yy2 yy3 yy4 yy5
  have A_3 : Hid (Blk v2 w.heap.size 64 #[.int .i64 a.t, .int .i64 a.p, .int .i64 a.n]) := Lib.hid (A_2.out.below hb A_2.out.lt)
  have B_3 : Hid (Blk v2 (w.heap.size + 1) 64 #[.int .i64 b.t, .int .i64 b.p, .int .i64 b.n]) := Lib.hid (B_2.out.below hb B_2.out.lt)
  have HB_3 : Hid (Below w.heap.size w v2) := Lib.hid (HB_2.out.trans (hb.mono HB_2.out.size))
  clear hb A_2 B_2 HB_2
  have hc := HE1.out _ HB_3.out out gg HTT.out HK_3.out
  have yy0 := A_3.out.cell (i := 0) (v := .int .i64 a.t) rfl; have yy1 := A_3.out.cell (i := 1) (v := .int .i64 a.p) rfl; have yy2 := A_3.out.cell (i := 2) (v := .int .i64 a.n) rfl
  have yy3 := B_3.out.cell (i := 0) (v := .int .i64 b.t) rfl; have yy4 := B_3.out.cell (i := 1) (v := .int .i64 b.p) rfl; have yy5 := B_3.out.cell (i := 2) (v := .int .i64 b.n) rfl
  have HC := Lib.hid hc; clear hc
  go_wp2_with fail
  refine HC.out.mono ?_
  rintro e v3 ⟨rfl, hb⟩
  clear HC
  have HK_4 := Lib.hid (HK_3.out.below hb (Nat.le_refl _))
  clear yy0 yy1 yy2 yy3 yy4 yy5
  have A_4 : Hid (Blk v3 w.heap.size 64 #[.int .i64 a.t, .int .i64 a.p, .int .i64 a.n]) := Lib.hid (A_3.out.below hb A_3.out.lt)
  have B_4 : Hid (Blk v3 (w.heap.size + 1) 64 #[.int .i64 b.t, .int .i64 b.p, .int .i64 b.n]) := Lib.hid (B_3.out.below hb B_3.out.lt)
  have HB_4 : Hid (Below w.heap.size w v3) := Lib.hid (HB_3.out.trans (hb.mono HB_3.out.size))
  clear hb A_3 B_3 HB_3
  go_wp2_with fail
  exact bodyPost_ret (v := .tuple #[.int .i64 (-1), .int .i64 0]) (by kernel_rfl) rfl ⟨rfl, HB_4.out⟩
set_option maxRecDepth 100000 in
set_option maxHeartbeats 8000000 in
theorem porder_gt (l : List Sk) (ms : List Mt) (a b : Sm) (A B : Option Addr) (c d : Nat) (w : World) (hA : Kz w A l) (hz : l.length ≤ 9000000000000000000) (hB : Mz w B ms) (hy : ms.length ≤ 9000000000000000000) (hp : PrOk l ms) (hf : Feas l ms) (h1 : Told l a) (h2 : Told l b) (h3 : ¬ Earl l ms a b) (h4 : Earl l ms b a) :
    Calls Try.prog 61 #[.slice A l.length c, .slice B ms.length d, smv a, smv b] w fun e w' => e = .returned (.tuple #[.int .i64 1, .int .i64 0]) ∧ Below w.heap.size w w' := by
  have HT := Lib.hid (fun W (hb : Below w.heap.size w W) => ptight_ok l ms A B c d W (hA.below hb (Nat.le_refl _)) hz (hB.below hb (Nat.le_refl _)) hy hp hf)
  have HIA := Lib.hid (fun out W g (ht : IsTt l ms out) (hk : Kz W (some ⟨g, 0, none⟩) out) => pistold_any out a (some ⟨g, 0, none⟩) out.length W hk (by have := hp.1.few; have := ht.len; omega))
  have HIB := Lib.hid (fun out W g (ht : IsTt l ms out) (hk : Kz W (some ⟨g, 0, none⟩) out) => pistold_any out b (some ⟨g, 0, none⟩) out.length W hk (by have := hp.1.few; have := ht.len; omega))
  have HTA : Hid (∀ out, IsTt l ms out → decide (Told out a) = true) := Lib.hid (fun out ht => decide_eq_true ((ht.told a).2 h1))
  have HTB : Hid (∀ out, IsTt l ms out → decide (Told out b) = true) := Lib.hid (fun out ht => decide_eq_true ((ht.told b).2 h2))
  have HE1 := Lib.hid (fun W (hb : Below w.heap.size w W) out g (ht : IsTt l ms out) (hk : Kz W (some ⟨g, 0, none⟩) out) => pearl_any l ms out a b (some ⟨g, 0, none⟩) B out.length d W hp ht (who_mem.1 h1.1) (who_mem.1 h2.1) h1.2.1 h2.2.1 hk (hB.below hb (Nat.le_refl _)))
  rw [decide_eq_false h3] at HE1
  have HE2 := Lib.hid (fun W (hb : Below w.heap.size w W) out g (ht : IsTt l ms out) (hk : Kz W (some ⟨g, 0, none⟩) out) => pearl_any l ms out b a (some ⟨g, 0, none⟩) B out.length d W hp ht (who_mem.1 h2.1) (who_mem.1 h1.1) h2.2.1 h1.2.1 hk (hB.below hb (Nat.le_refl _)))
  rw [decide_eq_true h4] at HE2
  clear hA hz hB hy hp hf h1 h2 h3 h4
  have A_0 : Hid (Blk ((w.alloc (.cells #[.int .i64 a.t, .int .i64 a.p, .int .i64 a.n] 64)).alloc (.cells #[.int .i64 b.t, .int .i64 b.p, .int .i64 b.n] 64)) w.heap.size 64 #[.int .i64 a.t, .int .i64 a.p, .int .i64 a.n]) := allocs_blk [(#[.int .i64 a.t, .int .i64 a.p, .int .i64 a.n], 64), (#[.int .i64 b.t, .int .i64 b.p, .int .i64 b.n], 64)] w 0 _ rfl
  have B_0 : Hid (Blk ((w.alloc (.cells #[.int .i64 a.t, .int .i64 a.p, .int .i64 a.n] 64)).alloc (.cells #[.int .i64 b.t, .int .i64 b.p, .int .i64 b.n] 64)) (w.heap.size + 1) 64 #[.int .i64 b.t, .int .i64 b.p, .int .i64 b.n]) := allocs_blk [(#[.int .i64 a.t, .int .i64 a.p, .int .i64 a.n], 64), (#[.int .i64 b.t, .int .i64 b.p, .int .i64 b.n], 64)] w 1 _ rfl
  have HB_0 : Hid (Below w.heap.size w ((w.alloc (.cells #[.int .i64 a.t, .int .i64 a.p, .int .i64 a.n] 64)).alloc (.cells #[.int .i64 b.t, .int .i64 b.p, .int .i64 b.n] 64))) := allocs_below [(#[.int .i64 a.t, .int .i64 a.p, .int .i64 a.n], 64), (#[.int .i64 b.t, .int .i64 b.p, .int .i64 b.n], 64)] w (Below.refl w.heap.size w) (Nat.le_refl _)
  have hundef := un_none
  go_enter Try.func61, Try.ntmps61
  have yy0 := A_0.out.cell (i := 0) (v := .int .i64 a.t) rfl; have yy1 := A_0.out.cell (i := 1) (v := .int .i64 a.p) rfl; have yy2 := A_0.out.cell (i := 2) (v := .int .i64 a.n) rfl
  have yy3 := B_0.out.cell (i := 0) (v := .int .i64 b.t) rfl; have yy4 := B_0.out.cell (i := 1) (v := .int .i64 b.p) rfl; have yy5 := B_0.out.cell (i := 2) (v := .int .i64 b.n) rfl
  go_wp2_with fail
  refine (HT.out _ HB_0.out).mono ?_
  rintro e v0 ⟨⟨out, gg, rfl, ht, hk⟩, hb⟩
  have HTT := Lib.hid ht; have HK_1 := Lib.hid hk; clear ht hk
  clear yy0 yy1 yy2 yy3 yy4 yy5
  have A_1 : Hid (Blk v0 w.heap.size 64 #[.int .i64 a.t, .int .i64 a.p, .int .i64 a.n]) := Lib.hid (A_0.out.below hb A_0.out.lt)
  have B_1 : Hid (Blk v0 (w.heap.size + 1) 64 #[.int .i64 b.t, .int .i64 b.p, .int .i64 b.n]) := Lib.hid (B_0.out.below hb B_0.out.lt)
  have HB_1 : Hid (Below w.heap.size w v0) := Lib.hid (HB_0.out.trans (hb.mono HB_0.out.size))
  clear hb A_0 B_0 HB_0
  have hc := HIA.out out _ gg HTT.out HK_1.out
  rw [HTA.out out HTT.out] at hc
  have yy0 := A_1.out.cell (i := 0) (v := .int .i64 a.t) rfl; have yy1 := A_1.out.cell (i := 1) (v := .int .i64 a.p) rfl; have yy2 := A_1.out.cell (i := 2) (v := .int .i64 a.n) rfl
  have yy3 := B_1.out.cell (i := 0) (v := .int .i64 b.t) rfl; have yy4 := B_1.out.cell (i := 1) (v := .int .i64 b.p) rfl; have yy5 := B_1.out.cell (i := 2) (v := .int .i64 b.n) rfl
  have HC := Lib.hid hc; clear hc
  go_wp2_with fail
  refine HC.out.mono ?_
  rintro e v1 ⟨rfl, hb⟩
  clear HC
  have HK_2 := Lib.hid (HK_1.out.below hb (Nat.le_refl _))
  clear yy0 yy1 yy2 yy3 yy4 yy5
  have A_2 : Hid (Blk v1 w.heap.size 64 #[.int .i64 a.t, .int .i64 a.p, .int .i64 a.n]) := Lib.hid (A_1.out.below hb A_1.out.lt)
  have B_2 : Hid (Blk v1 (w.heap.size + 1) 64 #[.int .i64 b.t, .int .i64 b.p, .int .i64 b.n]) := Lib.hid (B_1.out.below hb B_1.out.lt)
  have HB_2 : Hid (Below w.heap.size w v1) := Lib.hid (HB_1.out.trans (hb.mono HB_1.out.size))
  clear hb A_1 B_1 HB_1
  have hc := HIB.out out _ gg HTT.out HK_2.out
  rw [HTB.out out HTT.out] at hc
  have yy0 := A_2.out.cell (i := 0) (v := .int .i64 a.t) rfl; have yy1 := A_2.out.cell (i := 1) (v := .int .i64 a.p) rfl; have yy2 := A_2.out.cell (i := 2) (v := .int .i64 a.n) rfl
  have yy3 := B_2.out.cell (i := 0) (v := .int .i64 b.t) rfl; have yy4 := B_2.out.cell (i := 1) (v := .int .i64 b.p) rfl; have yy5 := B_2.out.cell (i := 2) (v := .int .i64 b.n) rfl
  have HC := Lib.hid hc; clear hc
  go_wp2_with fail
  refine HC.out.mono ?_
  rintro e v2 ⟨rfl, hb⟩
  clear HC
  have HK_3 := Lib.hid (HK_2.out.below hb (Nat.le_refl _))
  clear yy0 yy1 yy2 yy3 yy4 yy5
  have A_3 : Hid (Blk v2 w.heap.size 64 #[.int .i64 a.t, .int .i64 a.p, .int .i64 a.n]) := Lib.hid (A_2.out.below hb A_2.out.lt)
  have B_3 : Hid (Blk v2 (w.heap.size + 1) 64 #[.int .i64 b.t, .int .i64 b.p, .int .i64 b.n]) := Lib.hid (B_2.out.below hb B_2.out.lt)
  have HB_3 : Hid (Below w.heap.size w v2) := Lib.hid (HB_2.out.trans (hb.mono HB_2.out.size))
  clear hb A_2 B_2 HB_2
  have hc := HE1.out _ HB_3.out out gg HTT.out HK_3.out
  have yy0 := A_3.out.cell (i := 0) (v := .int .i64 a.t) rfl; have yy1 := A_3.out.cell (i := 1) (v := .int .i64 a.p) rfl; have yy2 := A_3.out.cell (i := 2) (v := .int .i64 a.n) rfl
  have yy3 := B_3.out.cell (i := 0) (v := .int .i64 b.t) rfl; have yy4 := B_3.out.cell (i := 1) (v := .int .i64 b.p) rfl; have yy5 := B_3.out.cell (i := 2) (v := .int .i64 b.n) rfl
  have HC := Lib.hid hc; clear hc
  go_wp2_with fail
  refine HC.out.mono ?_
  rintro e v3 ⟨rfl, hb⟩
  clear HC
  have HK_4 := Lib.hid (HK_3.out.below hb (Nat.le_refl _))
  clear yy0 yy1 yy2 yy3 yy4 yy5
  have A_4 : Hid (Blk v3 w.heap.size 64 #[.int .i64 a.t, .int .i64 a.p, .int .i64 a.n]) := Lib.hid (A_3.out.below hb A_3.out.lt)
  have B_4 : Hid (Blk v3 (w.heap.size + 1) 64 #[.int .i64 b.t, .int .i64 b.p, .int .i64 b.n]) := Lib.hid (B_3.out.below hb B_3.out.lt)
  have HB_4 : Hid (Below w.heap.size w v3) := Lib.hid (HB_3.out.trans (hb.mono HB_3.out.size))
  clear hb A_3 B_3 HB_3
  have hc := HE2.out _ HB_4.out out gg HTT.out HK_4.out
  have yy0 := A_4.out.cell (i := 0) (v := .int .i64 a.t) rfl; have yy1 := A_4.out.cell (i := 1) (v := .int .i64 a.p) rfl; have yy2 := A_4.out.cell (i := 2) (v := .int .i64 a.n) rfl
  have yy3 := B_4.out.cell (i := 0) (v := .int .i64 b.t) rfl; have yy4 := B_4.out.cell (i := 1) (v := .int .i64 b.p) rfl; have yy5 := B_4.out.cell (i := 2) (v := .int .i64 b.n) rfl
  have HC := Lib.hid hc; clear hc
  go_wp2_with fail
  refine HC.out.mono ?_
  rintro e v4 ⟨rfl, hb⟩
  clear HC
  have HK_5 := Lib.hid (HK_4.out.below hb (Nat.le_refl _))
  clear yy0 yy1 yy2 yy3 yy4 yy5
  have A_5 : Hid (Blk v4 w.heap.size 64 #[.int .i64 a.t, .int .i64 a.p, .int .i64 a.n]) := Lib.hid (A_4.out.below hb A_4.out.lt)
  have B_5 : Hid (Blk v4 (w.heap.size + 1) 64 #[.int .i64 b.t, .int .i64 b.p, .int .i64 b.n]) := Lib.hid (B_4.out.below hb B_4.out.lt)
  have HB_5 : Hid (Below w.heap.size w v4) := Lib.hid (HB_4.out.trans (hb.mono HB_4.out.size))
  clear hb A_4 B_4 HB_4
  go_wp2_with fail
  exact bodyPost_ret (v := .tuple #[.int .i64 1, .int .i64 0]) (by kernel_rfl) rfl ⟨rfl, HB_5.out⟩
set_option maxRecDepth 100000 in
set_option maxHeartbeats 8000000 in
theorem porder_eq (l : List Sk) (ms : List Mt) (a b : Sm) (A B : Option Addr) (c d : Nat) (w : World) (hA : Kz w A l) (hz : l.length ≤ 9000000000000000000) (hB : Mz w B ms) (hy : ms.length ≤ 9000000000000000000) (hp : PrOk l ms) (hf : Feas l ms) (h1 : Told l a) (h2 : Told l b) (h3 : ¬ Earl l ms a b) (h4 : ¬ Earl l ms b a) :
    Calls Try.prog 61 #[.slice A l.length c, .slice B ms.length d, smv a, smv b] w fun e w' => e = .returned (.tuple #[.int .i64 0, .int .i64 0]) ∧ Below w.heap.size w w' := by
  have HT := Lib.hid (fun W (hb : Below w.heap.size w W) => ptight_ok l ms A B c d W (hA.below hb (Nat.le_refl _)) hz (hB.below hb (Nat.le_refl _)) hy hp hf)
  have HIA := Lib.hid (fun out W g (ht : IsTt l ms out) (hk : Kz W (some ⟨g, 0, none⟩) out) => pistold_any out a (some ⟨g, 0, none⟩) out.length W hk (by have := hp.1.few; have := ht.len; omega))
  have HIB := Lib.hid (fun out W g (ht : IsTt l ms out) (hk : Kz W (some ⟨g, 0, none⟩) out) => pistold_any out b (some ⟨g, 0, none⟩) out.length W hk (by have := hp.1.few; have := ht.len; omega))
  have HTA : Hid (∀ out, IsTt l ms out → decide (Told out a) = true) := Lib.hid (fun out ht => decide_eq_true ((ht.told a).2 h1))
  have HTB : Hid (∀ out, IsTt l ms out → decide (Told out b) = true) := Lib.hid (fun out ht => decide_eq_true ((ht.told b).2 h2))
  have HE1 := Lib.hid (fun W (hb : Below w.heap.size w W) out g (ht : IsTt l ms out) (hk : Kz W (some ⟨g, 0, none⟩) out) => pearl_any l ms out a b (some ⟨g, 0, none⟩) B out.length d W hp ht (who_mem.1 h1.1) (who_mem.1 h2.1) h1.2.1 h2.2.1 hk (hB.below hb (Nat.le_refl _)))
  rw [decide_eq_false h3] at HE1
  have HE2 := Lib.hid (fun W (hb : Below w.heap.size w W) out g (ht : IsTt l ms out) (hk : Kz W (some ⟨g, 0, none⟩) out) => pearl_any l ms out b a (some ⟨g, 0, none⟩) B out.length d W hp ht (who_mem.1 h2.1) (who_mem.1 h1.1) h2.2.1 h1.2.1 hk (hB.below hb (Nat.le_refl _)))
  rw [decide_eq_false h4] at HE2
  clear hA hz hB hy hp hf h1 h2 h3 h4
  have A_0 : Hid (Blk ((w.alloc (.cells #[.int .i64 a.t, .int .i64 a.p, .int .i64 a.n] 64)).alloc (.cells #[.int .i64 b.t, .int .i64 b.p, .int .i64 b.n] 64)) w.heap.size 64 #[.int .i64 a.t, .int .i64 a.p, .int .i64 a.n]) := allocs_blk [(#[.int .i64 a.t, .int .i64 a.p, .int .i64 a.n], 64), (#[.int .i64 b.t, .int .i64 b.p, .int .i64 b.n], 64)] w 0 _ rfl
  have B_0 : Hid (Blk ((w.alloc (.cells #[.int .i64 a.t, .int .i64 a.p, .int .i64 a.n] 64)).alloc (.cells #[.int .i64 b.t, .int .i64 b.p, .int .i64 b.n] 64)) (w.heap.size + 1) 64 #[.int .i64 b.t, .int .i64 b.p, .int .i64 b.n]) := allocs_blk [(#[.int .i64 a.t, .int .i64 a.p, .int .i64 a.n], 64), (#[.int .i64 b.t, .int .i64 b.p, .int .i64 b.n], 64)] w 1 _ rfl
  have HB_0 : Hid (Below w.heap.size w ((w.alloc (.cells #[.int .i64 a.t, .int .i64 a.p, .int .i64 a.n] 64)).alloc (.cells #[.int .i64 b.t, .int .i64 b.p, .int .i64 b.n] 64))) := allocs_below [(#[.int .i64 a.t, .int .i64 a.p, .int .i64 a.n], 64), (#[.int .i64 b.t, .int .i64 b.p, .int .i64 b.n], 64)] w (Below.refl w.heap.size w) (Nat.le_refl _)
  have hundef := un_none
  go_enter Try.func61, Try.ntmps61
  have yy0 := A_0.out.cell (i := 0) (v := .int .i64 a.t) rfl; have yy1 := A_0.out.cell (i := 1) (v := .int .i64 a.p) rfl; have yy2 := A_0.out.cell (i := 2) (v := .int .i64 a.n) rfl
  have yy3 := B_0.out.cell (i := 0) (v := .int .i64 b.t) rfl; have yy4 := B_0.out.cell (i := 1) (v := .int .i64 b.p) rfl; have yy5 := B_0.out.cell (i := 2) (v := .int .i64 b.n) rfl
  go_wp2_with fail
  refine (HT.out _ HB_0.out).mono ?_
  rintro e v0 ⟨⟨out, gg, rfl, ht, hk⟩, hb⟩
  have HTT := Lib.hid ht; have HK_1 := Lib.hid hk; clear ht hk
  clear yy0 yy1 yy2 yy3 yy4 yy5
  have A_1 : Hid (Blk v0 w.heap.size 64 #[.int .i64 a.t, .int .i64 a.p, .int .i64 a.n]) := Lib.hid (A_0.out.below hb A_0.out.lt)
  have B_1 : Hid (Blk v0 (w.heap.size + 1) 64 #[.int .i64 b.t, .int .i64 b.p, .int .i64 b.n]) := Lib.hid (B_0.out.below hb B_0.out.lt)
  have HB_1 : Hid (Below w.heap.size w v0) := Lib.hid (HB_0.out.trans (hb.mono HB_0.out.size))
  clear hb A_0 B_0 HB_0
  have hc := HIA.out out _ gg HTT.out HK_1.out
  rw [HTA.out out HTT.out] at hc
  have yy0 := A_1.out.cell (i := 0) (v := .int .i64 a.t) rfl; have yy1 := A_1.out.cell (i := 1) (v := .int .i64 a.p) rfl; have yy2 := A_1.out.cell (i := 2) (v := .int .i64 a.n) rfl
  have yy3 := B_1.out.cell (i := 0) (v := .int .i64 b.t) rfl; have yy4 := B_1.out.cell (i := 1) (v := .int .i64 b.p) rfl; have yy5 := B_1.out.cell (i := 2) (v := .int .i64 b.n) rfl
  have HC := Lib.hid hc; clear hc
  go_wp2_with fail
  refine HC.out.mono ?_
  rintro e v1 ⟨rfl, hb⟩
  clear HC
  have HK_2 := Lib.hid (HK_1.out.below hb (Nat.le_refl _))
  clear yy0 yy1 yy2 yy3 yy4 yy5
  have A_2 : Hid (Blk v1 w.heap.size 64 #[.int .i64 a.t, .int .i64 a.p, .int .i64 a.n]) := Lib.hid (A_1.out.below hb A_1.out.lt)
  have B_2 : Hid (Blk v1 (w.heap.size + 1) 64 #[.int .i64 b.t, .int .i64 b.p, .int .i64 b.n]) := Lib.hid (B_1.out.below hb B_1.out.lt)
  have HB_2 : Hid (Below w.heap.size w v1) := Lib.hid (HB_1.out.trans (hb.mono HB_1.out.size))
  clear hb A_1 B_1 HB_1
  have hc := HIB.out out _ gg HTT.out HK_2.out
  rw [HTB.out out HTT.out] at hc
  have yy0 := A_2.out.cell (i := 0) (v := .int .i64 a.t) rfl; have yy1 := A_2.out.cell (i := 1) (v := .int .i64 a.p) rfl; have yy2 := A_2.out.cell (i := 2) (v := .int .i64 a.n) rfl
  have yy3 := B_2.out.cell (i := 0) (v := .int .i64 b.t) rfl; have yy4 := B_2.out.cell (i := 1) (v := .int .i64 b.p) rfl; have yy5 := B_2.out.cell (i := 2) (v := .int .i64 b.n) rfl
  have HC := Lib.hid hc; clear hc
  go_wp2_with fail
  refine HC.out.mono ?_
  rintro e v2 ⟨rfl, hb⟩
  clear HC
  have HK_3 := Lib.hid (HK_2.out.below hb (Nat.le_refl _))
  clear yy0 yy1 yy2 yy3 yy4 yy5
  have A_3 : Hid (Blk v2 w.heap.size 64 #[.int .i64 a.t, .int .i64 a.p, .int .i64 a.n]) := Lib.hid (A_2.out.below hb A_2.out.lt)
  have B_3 : Hid (Blk v2 (w.heap.size + 1) 64 #[.int .i64 b.t, .int .i64 b.p, .int .i64 b.n]) := Lib.hid (B_2.out.below hb B_2.out.lt)
  have HB_3 : Hid (Below w.heap.size w v2) := Lib.hid (HB_2.out.trans (hb.mono HB_2.out.size))
  clear hb A_2 B_2 HB_2
  have hc := HE1.out _ HB_3.out out gg HTT.out HK_3.out
  have yy0 := A_3.out.cell (i := 0) (v := .int .i64 a.t) rfl; have yy1 := A_3.out.cell (i := 1) (v := .int .i64 a.p) rfl; have yy2 := A_3.out.cell (i := 2) (v := .int .i64 a.n) rfl
  have yy3 := B_3.out.cell (i := 0) (v := .int .i64 b.t) rfl; have yy4 := B_3.out.cell (i := 1) (v := .int .i64 b.p) rfl; have yy5 := B_3.out.cell (i := 2) (v := .int .i64 b.n) rfl
  have HC := Lib.hid hc; clear hc
  go_wp2_with fail
  refine HC.out.mono ?_
  rintro e v3 ⟨rfl, hb⟩
  clear HC
  have HK_4 := Lib.hid (HK_3.out.below hb (Nat.le_refl _))
  clear yy0 yy1 yy2 yy3 yy4 yy5
  have A_4 : Hid (Blk v3 w.heap.size 64 #[.int .i64 a.t, .int .i64 a.p, .int .i64 a.n]) := Lib.hid (A_3.out.below hb A_3.out.lt)
  have B_4 : Hid (Blk v3 (w.heap.size + 1) 64 #[.int .i64 b.t, .int .i64 b.p, .int .i64 b.n]) := Lib.hid (B_3.out.below hb B_3.out.lt)
  have HB_4 : Hid (Below w.heap.size w v3) := Lib.hid (HB_3.out.trans (hb.mono HB_3.out.size))
  clear hb A_3 B_3 HB_3
  have hc := HE2.out _ HB_4.out out gg HTT.out HK_4.out
  have yy0 := A_4.out.cell (i := 0) (v := .int .i64 a.t) rfl; have yy1 := A_4.out.cell (i := 1) (v := .int .i64 a.p) rfl; have yy2 := A_4.out.cell (i := 2) (v := .int .i64 a.n) rfl
  have yy3 := B_4.out.cell (i := 0) (v := .int .i64 b.t) rfl; have yy4 := B_4.out.cell (i := 1) (v := .int .i64 b.p) rfl; have yy5 := B_4.out.cell (i := 2) (v := .int .i64 b.n) rfl
  have HC := Lib.hid hc; clear hc
  go_wp2_with fail
  refine HC.out.mono ?_
  rintro e v4 ⟨rfl, hb⟩
  clear HC
  have HK_5 := Lib.hid (HK_4.out.below hb (Nat.le_refl _))
  clear yy0 yy1 yy2 yy3 yy4 yy5
  have A_5 : Hid (Blk v4 w.heap.size 64 #[.int .i64 a.t, .int .i64 a.p, .int .i64 a.n]) := Lib.hid (A_4.out.below hb A_4.out.lt)
  have B_5 : Hid (Blk v4 (w.heap.size + 1) 64 #[.int .i64 b.t, .int .i64 b.p, .int .i64 b.n]) := Lib.hid (B_4.out.below hb B_4.out.lt)
  have HB_5 : Hid (Below w.heap.size w v4) := Lib.hid (HB_4.out.trans (hb.mono HB_4.out.size))
  clear hb A_4 B_4 HB_4
  go_wp2_with fail
  exact bodyPost_ret (v := .tuple #[.int .i64 0, .int .i64 0]) (by kernel_rfl) rfl ⟨rfl, HB_5.out⟩
theorem porder_any (l : List Sk) (ms : List Mt) (a b : Sm) (A B : Option Addr) (c d : Nat) (w : World) (hA : Kz w A l) (hz : l.length ≤ 9000000000000000000) (hB : Mz w B ms) (hy : ms.length ≤ 9000000000000000000) (hd : ms.length ≤ d) :
    Calls Try.prog 61 #[.slice A l.length c, .slice B ms.length d, smv a, smv b] w fun e w' => e = .returned (orR l ms a b) ∧ Below w.heap.size w w' := by
  unfold orR
  by_cases h : OrOk l ms a b
  · rw [if_pos h]
    obtain ⟨hp, hf, h1, h2⟩ := h
    by_cases h3 : Earl l ms a b
    · rw [if_pos h3]; exact porder_lt l ms a b A B c d w hA hz hB hy hp hf h1 h2 h3
    · rw [if_neg h3]
      by_cases h4 : Earl l ms b a
      · rw [if_pos h4]; exact porder_gt l ms a b A B c d w hA hz hB hy hp hf h1 h2 h3 h4
      · rw [if_neg h4]; exact porder_eq l ms a b A B c d w hA hz hB hy hp hf h1 h2 h3 h4
  · rw [if_neg h]
    by_cases hp : PrOk l ms ∧ Feas l ms
    · by_cases h1 : Told l a
      · exact porder_nb l ms a b A B c d w hA hz hB hy hp.1 hp.2 h1 (fun h2 => h ⟨hp.1, hp.2, h1, h2⟩)
      · exact porder_na l ms a b A B c d w hA hz hB hy hp.1 hp.2 h1
    · exact porder_no l ms a b A B c d w hA hz hB hy hd hp
end Go.Proofs.Ytbcgfohacbapoaa
