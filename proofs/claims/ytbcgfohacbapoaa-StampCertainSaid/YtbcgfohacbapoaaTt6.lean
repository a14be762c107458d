
/- The contract of Tight. Conditions: the slices read. -/
import Derived.Test.YtbcgfohacbapoaaTg6
namespace Go.Proofs.Ytbcgfohacbapoaa
open Go.RowKit Go.Lib

theorem feas_nil {l : List Sk} (hs : SkOk l) : Feas l [] := ⟨fun q => (byP l q).lo, fun s hs2 => by have := hs.mem hs2; dsimp only; rw [byP_mem hs.apart hs2]; omega, fun _ h => by cases h⟩
set_option maxRecDepth 100000 in
set_option maxHeartbeats 8000000 in
theorem ptight_no (l : List Sk) (ms : List Mt) (A B : Option Addr) (c d : Nat) (w : World) (hA : Kz w A l) (hz : l.length ≤ 9000000000000000000) (hB : Mz w B ms) (hy : ms.length ≤ 9000000000000000000) (hp : ¬ PrOk l ms) :
    Calls Try.prog 54 #[.slice A l.length c, .slice B ms.length d] w fun e w' => e = .returned (.tuple #[.slice none 0 0, .int .i64 0, .int .i64 60]) ∧ Below w.heap.size w w' := by
  have HPR := Lib.hid (fun W (hb : Below w.heap.size w W) => pproper_any l ms A B c d W (hA.below hb (Nat.le_refl _)) hz (hB.below hb (Nat.le_refl _)) hy)
  rw [decide_eq_false hp] at HPR
  clear hA hz hB hy hp
  have K_0 : Hid (Blk ((w.alloc (.cells #[.slice A l.length c] 80)).alloc (.cells #[.slice B ms.length d] 82)) w.heap.size 80 #[.slice A l.length c]) := allocs_blk [(#[.slice A l.length c], 80), (#[.slice B ms.length d], 82)] w 0 _ rfl
  have M_0 : Hid (Blk ((w.alloc (.cells #[.slice A l.length c] 80)).alloc (.cells #[.slice B ms.length d] 82)) (w.heap.size + 1) 82 #[.slice B ms.length d]) := allocs_blk [(#[.slice A l.length c], 80), (#[.slice B ms.length d], 82)] w 1 _ rfl
  have HB_0 : Hid (Below w.heap.size w ((w.alloc (.cells #[.slice A l.length c] 80)).alloc (.cells #[.slice B ms.length d] 82))) := allocs_below [(#[.slice A l.length c], 80), (#[.slice B ms.length d], 82)] w (Below.refl w.heap.size w) (Nat.le_refl _)
  go_enter Try.func54, Try.ntmps54
  have yy0 := K_0.out.cell (i := 0) (v := .slice A l.length c) rfl
  have yy1 := M_0.out.cell (i := 0) (v := .slice B ms.length d) rfl
  go_wp2_with fail
  refine (HPR.out _ HB_0.out).mono ?_
  rintro e v0 ⟨rfl, hb⟩
  clear yy0 yy1
  have K_1 : Hid (Blk v0 w.heap.size 80 #[.slice A l.length c]) := Lib.hid (K_0.out.below hb K_0.out.lt)
  have M_1 : Hid (Blk v0 (w.heap.size + 1) 82 #[.slice B ms.length d]) := Lib.hid (M_0.out.below hb M_0.out.lt)
  have HB_1 : Hid (Below w.heap.size w v0) := Lib.hid (HB_0.out.trans (hb.mono HB_0.out.size))
  clear hb K_0 M_0 HB_0
  go_wp2_with fail
  exact bodyPost_ret (v := .tuple #[.slice none 0 0, .int .i64 0, .int .i64 60]) (by kernel_rfl) rfl ⟨rfl, HB_1.out⟩
set_option maxRecDepth 100000 in
set_option maxHeartbeats 8000000 in
theorem ptight_bad (l : List Sk) (ms : List Mt) (A B : Option Addr) (c d : Nat) (w : World) (hA : Kz w A l) (hz : l.length ≤ 9000000000000000000) (hB : Mz w B ms) (hy : ms.length ≤ 9000000000000000000) (hd : ms.length ≤ d) (hp : PrOk l ms) (hf : ¬ Feas l ms) :
    Calls Try.prog 54 #[.slice A l.length c, .slice B ms.length d] w fun e w' => (∃ k : Nat, k < ms.length ∧ e = .returned (.tuple #[.slice none 0 0, .int .i64 k, .int .i64 0]) ∧ ¬ Feas l (ms.take (k + 1)) ∧ ∀ j, j ≤ k → Feas l (ms.take j)) ∧ Below w.heap.size w w' := by
  have hne : 0 < ms.length := by
    cases ms with
    | nil => exact absurd (feas_nil hp.1) hf
    | cons m r => simp
  obtain ⟨b, o, rfl⟩ := hB.some hne
  have HF0 := Lib.hid (feas_nil hp.1)
  have HPR := Lib.hid (fun W (hb : Below w.heap.size w W) => pproper_any l ms A (some ⟨b, o, none⟩) c d W (hA.below hb (Nat.le_refl _)) hz (hB.below hb (Nat.le_refl _)) hy)
  rw [decide_eq_true hp] at HPR
  have HBY := Lib.hid (fun W (hb : Below w.heap.size w W) => pbyperson_any l A c W (hA.below hb (Nat.le_refl _)) hp.1.prs)
  have HNA := Lib.hid (fun W (hb : Below w.heap.size w W) mb (hM : MapB W mb l.length (who l) (byP l)) => pnar_any l ms mb (some ⟨b, o, none⟩) d W hM hp.1 hp.2 (hB.below hb (Nat.le_refl _)))
  rw [decide_eq_false hf] at HNA
  have hl60 := hp.2.1
  have HT1 := Lib.hid (fun W (hb : Below w.heap.size w W) k (hk : k < ms.length) bk bm (hbk : bk < W.heap.size) (hbm : bm < W.heap.size) h1 h2 => ptight1_any l ms A c b o d bk bm k W (hA.below hb (Nat.le_refl _)) hp.1 (hB.below hb (Nat.le_refl _)) hp.2 hk hd hbk hbm h1 h2)
  have HFI := Lib.hid (fun W (cs : List Value) h1 => pfirst_any (ms.length - 1) 93 cs (fun k => !decide (Feas l (ms.take (k + 1)))) W (by omega) (enters_of Try.func93 (by kernel_rfl) rfl) (by
    rw [show ms.length - 1 + 1 = ms.length from by omega, List.take_length, decide_eq_false hf]; rfl) (fun j k hjk h => by
    simp only [Bool.not_eq_true', decide_eq_false_iff_not] at h ⊢
    exact fun hh => h (hh.mono (by omega))) h1)
  have el : IntKind.i64.wrap ((ms.length : Int) - 1) = ((ms.length - 1 : Nat) : Int) := by rw [IntWalk.i64_in _ (by omega)]; omega
  have HNE := Lib.hid hne
  clear hA hz hB hy hp hf hd hne hl60
  have K_0 : Hid (Blk ((w.alloc (.cells #[.slice A l.length c] 80)).alloc (.cells #[.slice (some ⟨b, o, none⟩) ms.length d] 82)) w.heap.size 80 #[.slice A l.length c]) := allocs_blk [(#[.slice A l.length c], 80), (#[.slice (some ⟨b, o, none⟩) ms.length d], 82)] w 0 _ rfl
  have M_0 : Hid (Blk ((w.alloc (.cells #[.slice A l.length c] 80)).alloc (.cells #[.slice (some ⟨b, o, none⟩) ms.length d] 82)) (w.heap.size + 1) 82 #[.slice (some ⟨b, o, none⟩) ms.length d]) := allocs_blk [(#[.slice A l.length c], 80), (#[.slice (some ⟨b, o, none⟩) ms.length d], 82)] w 1 _ rfl
  have HB_0 : Hid (Below w.heap.size w ((w.alloc (.cells #[.slice A l.length c] 80)).alloc (.cells #[.slice (some ⟨b, o, none⟩) ms.length d] 82))) := allocs_below [(#[.slice A l.length c], 80), (#[.slice (some ⟨b, o, none⟩) ms.length d], 82)] w (Below.refl w.heap.size w) (Nat.le_refl _)
  go_enter Try.func54, Try.ntmps54
  have yy0 := K_0.out.cell (i := 0) (v := .slice A l.length c) rfl
  have yy1 := M_0.out.cell (i := 0) (v := .slice (some ⟨b, o, none⟩) ms.length d) rfl
  go_wp2_with fail
  refine (HPR.out _ HB_0.out).mono ?_
  rintro e v0 ⟨rfl, hb⟩
  clear yy0 yy1
  have K_1 : Hid (Blk v0 w.heap.size 80 #[.slice A l.length c]) := Lib.hid (K_0.out.below hb K_0.out.lt)
  have M_1 : Hid (Blk v0 (w.heap.size + 1) 82 #[.slice (some ⟨b, o, none⟩) ms.length d]) := Lib.hid (M_0.out.below hb M_0.out.lt)
  have HB_1 : Hid (Below w.heap.size w v0) := Lib.hid (HB_0.out.trans (hb.mono HB_0.out.size))
  clear hb K_0 M_0 HB_0
  have yy0 := K_1.out.cell (i := 0) (v := .slice A l.length c) rfl
  have yy1 := M_1.out.cell (i := 0) (v := .slice (some ⟨b, o, none⟩) ms.length d) rfl
  go_wp2_with fail
  refine (HBY.out _ HB_1.out).mono ?_
  rintro e v1 ⟨rfl, hM1, hb⟩
  have HM1 := Lib.hid hM1; clear hM1
  have LV : Hid (w.heap.size + 1 < v0.heap.size) := Lib.hid M_1.out.lt
  clear yy0 yy1
  have K_2 : Hid (Blk v1 w.heap.size 80 #[.slice A l.length c]) := Lib.hid (K_1.out.below hb K_1.out.lt)
  have M_2 : Hid (Blk v1 (w.heap.size + 1) 82 #[.slice (some ⟨b, o, none⟩) ms.length d]) := Lib.hid (M_1.out.below hb M_1.out.lt)
  have HB_2 : Hid (Below w.heap.size w v1) := Lib.hid (HB_1.out.trans (hb.mono HB_1.out.size))
  clear hb K_1 M_1 HB_1
  have yy0 := K_2.out.cell (i := 0) (v := .slice A l.length c) rfl
  have yy1 := M_2.out.cell (i := 0) (v := .slice (some ⟨b, o, none⟩) ms.length d) rfl
  go_wp2_with fail
  refine (HNA.out _ HB_2.out _ HM1.out).mono ?_
  rintro e v2 ⟨F2, rfl, hM2, hG2, htt⟩
  clear yy0 yy1
  have HM2 := Lib.hid hM2; have HTT := Lib.hid htt
  have K_3 : Hid (Blk v2 w.heap.size 80 #[.slice A l.length c]) := Lib.hid (K_2.out.only hG2 (by have := LV.out; simp; omega))
  have M_3 : Hid (Blk v2 (w.heap.size + 1) 82 #[.slice (some ⟨b, o, none⟩) ms.length d]) := Lib.hid (M_2.out.only hG2 (by have := LV.out; simp; omega))
  have HB_3 : Hid (Below w.heap.size w v2) := Lib.hid (HB_2.out.grown hG2 HB_2.out.size (fun k e => by cases e; have := LV.out; omega))
  clear hM2 htt hG2 K_2 M_2 HB_2 HM1
  have yy0 := M_3.out.cell (i := 0) (v := .slice (some ⟨b, o, none⟩) ms.length d) rfl
  go_wp2_with fail
  refine (HFI.out _ [.pointer (some ⟨w.heap.size, 0, none⟩), .pointer (some ⟨w.heap.size + 1, 0, none⟩)] (fun W hb k hk => ?_)).mono ?_
  · exact HT1.out W (HB_3.out.trans (hb.mono HB_3.out.size)) k (by have := HNE.out; omega) w.heap.size (w.heap.size + 1) (Nat.lt_of_lt_of_le K_3.out.lt hb.size) (Nat.lt_of_lt_of_le M_3.out.lt hb.size) ((K_3.out.below hb K_3.out.lt).cell (i := 0) rfl) ((M_3.out.below hb M_3.out.lt).cell (i := 0) rfl)
  rintro e v3 ⟨⟨k, hk, rfl, hPk, hno⟩, hb⟩
  clear yy0
  have HB_4 := Lib.hid (HB_3.out.trans (hb.mono HB_3.out.size))
  have HK : Hid (k < ms.length ∧ ¬ Feas l (ms.take (k + 1)) ∧ ∀ j, j ≤ k → Feas l (ms.take j)) := Lib.hid (by
    have := HNE.out
    refine ⟨by omega, by simpa using hPk, fun j hj => ?_⟩
    cases j with
    | zero => rw [List.take_zero]; exact HF0.out
    | succ j => simpa using hno j (by omega))
  clear hb hk hPk hno
  go_wp2_with fail
  exact bodyPost_ret (v := .tuple #[.slice none 0 0, .int .i64 k, .int .i64 0]) (by kernel_rfl) rfl ⟨⟨k, HK.out.1, rfl, HK.out.2⟩, HB_4.out⟩
set_option maxRecDepth 100000 in
set_option maxHeartbeats 8000000 in
theorem ptight_ok (l : List Sk) (ms : List Mt) (A B : Option Addr) (c d : Nat) (w : World) (hA : Kz w A l) (hz : l.length ≤ 9000000000000000000) (hB : Mz w B ms) (hy : ms.length ≤ 9000000000000000000) (hp : PrOk l ms) (hf : Feas l ms) :
    Calls Try.prog 54 #[.slice A l.length c, .slice B ms.length d] w fun e w' => (∃ (out : List Sk) (g : Nat), e = .returned (.tuple #[.slice (some ⟨g, 0, none⟩) out.length out.length, .int .i64 (-1), .int .i64 0]) ∧ IsTt l ms out ∧ Kz w' (some ⟨g, 0, none⟩) out) ∧ Below w.heap.size w w' := by
  have HPR := Lib.hid (fun W (hb : Below w.heap.size w W) => pproper_any l ms A B c d W (hA.below hb (Nat.le_refl _)) hz (hB.below hb (Nat.le_refl _)) hy)
  rw [decide_eq_true hp] at HPR
  have HBY := Lib.hid (fun W (hb : Below w.heap.size w W) => pbyperson_any l A c W (hA.below hb (Nat.le_refl _)) hp.1.prs)
  have HNA := Lib.hid (fun W (hb : Below w.heap.size w W) mb (hM : MapB W mb l.length (who l) (byP l)) => pnar_any l ms mb B d W hM hp.1 hp.2 (hB.below hb (Nat.le_refl _)))
  rw [decide_eq_true hf] at HNA
  have HFE := Lib.hid hf
  have HAB := Lib.hid (fun W (hb : Below w.heap.size w W) => hA.below hb (Nat.le_refl _))
  have HPS := Lib.hid (fun s (hs : s ∈ l) => (hp.1.mem hs).1)
  have hl40 := hp.1.few
  have hmk := fun w => run_make_skews l.length (by omega) w
  clear hA hz hB hy hp hf
  have K_0 : Hid (Blk ((w.alloc (.cells #[.slice A l.length c] 80)).alloc (.cells #[.slice B ms.length d] 82)) w.heap.size 80 #[.slice A l.length c]) := allocs_blk [(#[.slice A l.length c], 80), (#[.slice B ms.length d], 82)] w 0 _ rfl
  have M_0 : Hid (Blk ((w.alloc (.cells #[.slice A l.length c] 80)).alloc (.cells #[.slice B ms.length d] 82)) (w.heap.size + 1) 82 #[.slice B ms.length d]) := allocs_blk [(#[.slice A l.length c], 80), (#[.slice B ms.length d], 82)] w 1 _ rfl
  have HB_0 : Hid (Below w.heap.size w ((w.alloc (.cells #[.slice A l.length c] 80)).alloc (.cells #[.slice B ms.length d] 82))) := allocs_below [(#[.slice A l.length c], 80), (#[.slice B ms.length d], 82)] w (Below.refl w.heap.size w) (Nat.le_refl _)
  go_enter Try.func54, Try.ntmps54
  have yy0 := K_0.out.cell (i := 0) (v := .slice A l.length c) rfl
  have yy1 := M_0.out.cell (i := 0) (v := .slice B ms.length d) rfl
  go_wp2_with fail
  refine (HPR.out _ HB_0.out).mono ?_
  rintro e v0 ⟨rfl, hb⟩
  clear yy0 yy1
  have K_1 : Hid (Blk v0 w.heap.size 80 #[.slice A l.length c]) := Lib.hid (K_0.out.below hb K_0.out.lt)
  have M_1 : Hid (Blk v0 (w.heap.size + 1) 82 #[.slice B ms.length d]) := Lib.hid (M_0.out.below hb M_0.out.lt)
  have HB_1 : Hid (Below w.heap.size w v0) := Lib.hid (HB_0.out.trans (hb.mono HB_0.out.size))
  clear hb K_0 M_0 HB_0
  have yy0 := K_1.out.cell (i := 0) (v := .slice A l.length c) rfl
  have yy1 := M_1.out.cell (i := 0) (v := .slice B ms.length d) rfl
  go_wp2_with fail
  refine (HBY.out _ HB_1.out).mono ?_
  rintro e v1 ⟨rfl, hM1, hb⟩
  have HM1 := Lib.hid hM1; clear hM1
  have LV : Hid (w.heap.size + 1 < v0.heap.size) := Lib.hid M_1.out.lt
  clear yy0 yy1
  have K_2 : Hid (Blk v1 w.heap.size 80 #[.slice A l.length c]) := Lib.hid (K_1.out.below hb K_1.out.lt)
  have M_2 : Hid (Blk v1 (w.heap.size + 1) 82 #[.slice B ms.length d]) := Lib.hid (M_1.out.below hb M_1.out.lt)
  have HB_2 : Hid (Below w.heap.size w v1) := Lib.hid (HB_1.out.trans (hb.mono HB_1.out.size))
  clear hb K_1 M_1 HB_1
  have yy0 := K_2.out.cell (i := 0) (v := .slice A l.length c) rfl
  have yy1 := M_2.out.cell (i := 0) (v := .slice B ms.length d) rfl
  go_wp2_with fail
  refine (HNA.out _ HB_2.out _ HM1.out).mono ?_
  rintro e v2 ⟨F2, rfl, hM2, hG2, htt⟩
  clear yy0 yy1
  have HM2 := Lib.hid hM2; have HTT := Lib.hid htt
  have K_3 : Hid (Blk v2 w.heap.size 80 #[.slice A l.length c]) := Lib.hid (K_2.out.only hG2 (by have := LV.out; simp; omega))
  have M_3 : Hid (Blk v2 (w.heap.size + 1) 82 #[.slice B ms.length d]) := Lib.hid (M_2.out.only hG2 (by have := LV.out; simp; omega))
  have HB_3 : Hid (Below w.heap.size w v2) := Lib.hid (HB_2.out.grown hG2 HB_2.out.size (fun k e => by cases e; have := LV.out; omega))
  clear hM2 htt hG2 K_2 M_2 HB_2 HM1
  have yy0 := K_3.out.cell (i := 0) (v := .slice A l.length c) rfl
  have yy1 := M_3.out.cell (i := 0) (v := .slice B ms.length d) rfl
  have KA := Lib.hid (K_3.out.alloc (.cells (flatK (List.replicate l.length z0)).toArray 77)); have ka := KA.out.cell (i := 0) (v := .slice A l.length c) rfl
  go_wp2_with fail
  clear ka KA hmk
  clear yy0 yy1
  have HLV : Hid (v0.heap.size < v2.heap.size) := Lib.hid HM2.out.lt
  obtain ⟨L, hL⟩ : ∃ L, L = l.map (fun s => F2 s.p) := ⟨_, rfl⟩
  have HLL : Hid (L.length = l.length) := Lib.hid (by rw [hL, List.length_map])
  have HTL : Hid (IsTt l ms L) := Lib.hid (by rw [hL]; exact HTT.out HFE.out)
  have HLI : Hid (∀ i (hi : i < l.length), L[i]? = some (F2 l[i].p)) := Lib.hid (fun i hi => by rw [hL, List.getElem?_map, List.getElem?_eq_getElem hi]; rfl)
  clear hL HTT
  have RG : Hid (Blk (v2.alloc (.cells (flatK (List.replicate l.length z0)).toArray 77)) v2.heap.size 77 (flatK (curK L 0)).toArray) := Lib.hid (by rw [curK_zero, HLL.out]; exact Blk.new v2 _ _)
  have RM := Lib.hid (HM2.out.alloc (.cells (flatK (List.replicate l.length z0)).toArray 77))
  have RB := Lib.hid (HB_3.out.alloc HB_3.out.size (.cells (flatK (List.replicate l.length z0)).toArray 77))
  clear HM2 K_3 M_3 HB_3
  go_loopw [33] (fun ii wr => ∃ i : Nat, ii = .int .i64 i ∧ i ≤ l.length ∧ Blk wr v2.heap.size 77 (flatK (curK L i)).toArray ∧ MapB wr v0.heap.size l.length (who l) F2 ∧ Below w.heap.size w wr) (fun ii _ => l.length - (intOf ii).toNat)
  case atStart => exact ⟨0, rfl, Nat.zero_le _, RG.out, RM.out, RB.out⟩
  case round =>
    clear RG RM RB
    obtain ⟨i, rfl, hi, hG, hM, hB⟩ := hrel
    have G_7 := Lib.hid hG; have M_7 := Lib.hid hM; have HB_7 := Lib.hid hB; clear hG hM hB
    by_cases hlt : i < l.length
    case neg =>
      obtain rfl : i = l.length := by omega
      have hg : Blk wr v2.heap.size 77 (flatK L).toArray := by have h := G_7.out; rwa [← HLL.out, curK_all] at h
      have HKZ := Lib.hid (kz_of_blk hg)
      clear hlt hi hg
      go_wp2_with fail
      exact bodyPost_ret (v := .tuple #[.slice (some ⟨v2.heap.size, 0, none⟩) l.length l.length, .int .i64 (-1), .int .i64 0]) (by kernel_rfl) rfl ⟨⟨L, v2.heap.size, by rw [HLL.out], HTL.out, HKZ.out⟩, HB_7.out⟩
    case pos =>
      obtain ⟨b, o, rfl⟩ := (HAB.out wr HB_7.out).some (by omega)
      obtain ⟨k0, k1, k2⟩ := Kz.cell (HAB.out wr HB_7.out) (Below.refl wr.heap.size wr) (Nat.le_refl _) hlt
      have hps := HPS.out _ (List.getElem_mem hlt)
      have hli := HLI.out i hlt
      obtain ⟨s, hs⟩ : ∃ s, s = l[i] := ⟨_, rfl⟩
      rw [← hs] at k0 k1 k2 hps hli
      have hiL : i < L.length := by rw [HLL.out]; exact hlt
      have hcs := curK_succ hiL
      have HC0 := Lib.hid (flatK_z (l := curK L i) (by rw [curK_length (by rw [HLL.out]; exact hi)]; exact hiL) (curK_at hiL))
      rw [List.getElem?_eq_getElem hiL, Option.some.injEq] at hli
      rw [hli] at hcs
      have HCL : Hid (i < (curK L i).length) := Lib.hid (by rw [curK_length (by rw [HLL.out]; exact hi)]; exact hiL)
      obtain ⟨nw, hnw⟩ : ∃ x, x = F2 s.p := ⟨_, rfl⟩
      rw [← hnw] at hcs
      have HCS := Lib.hid hcs
      have hlk := (M_7.out.alloc (.cells #[.int .i64 s.p, .int .i64 s.lo, .int .i64 s.hi] 77)).look (q := s.p) ⟨by omega, by omega⟩
      rw [← hnw] at hlk
      have q1 : (0 : Int) ≤ (i : Int) := by omega
      have q2 : (i : Int) < (l.length : Int) := by omega
      have q5 : (i : Int) + 1 ≤ 9223372036854775807 := by omega
      have HI := Lib.hid hlt
      have HD := Lib.hid (Blk.new wr 77 #[.int .i64 s.p, .int .i64 s.lo, .int .i64 s.hi])
      have d0 := HD.out.cell (i := 0) (v := .int .i64 s.p) rfl; have d1 := HD.out.cell (i := 1) (v := .int .i64 s.lo) rfl; have d2 := HD.out.cell (i := 2) (v := .int .i64 s.hi) rfl
      have GA := Lib.hid (G_7.out.alloc (.cells #[.int .i64 s.p, .int .i64 s.lo, .int .i64 s.hi] 77))
      have g0 := GA.out.cell HC0.out.1; have g1 := GA.out.cell HC0.out.2.1; have g2 := GA.out.cell HC0.out.2.2
      have f0 := GA.out.frozen (i * 3); have f1 := GA.out.frozen (i * 3 + 1); have f2 := GA.out.frozen (i * 3 + 2)
      have HMA := Lib.hid (M_7.out.alloc (.cells #[.int .i64 s.p, .int .i64 s.lo, .int .i64 s.hi] 77))
      have HBA := Lib.hid (HB_7.out.alloc HB_7.out.size (.cells #[.int .i64 s.p, .int .i64 s.lo, .int .i64 s.hi] 77))
      clear hs hps hli hiL hcs hnw hlt hi hl40
      go_wp2_with fail
      clear k0 k1 k2 d0 d1 d2 g0 g1 g2 f0 f1 f2 hlk
      have hv := HLV.out; have hlv := LV.out
      go_roundw
      case rel =>
        refine ⟨i + 1, by go_num, HI.out, ?_, ?_, ?_⟩
        · have h := (((GA.out.set (i * 3) (.int .i64 nw.p)).set (i * 3 + 1) (.int .i64 nw.lo)).set (i * 3 + 2) (.int .i64 nw.hi))
          rw [flatK_setA _ i HCL.out nw, HCS.out] at h
          exact h
        · exact ((HMA.out.setCell (a := ⟨v2.heap.size, i * 3, none⟩) (by show v0.heap.size ≠ v2.heap.size; omega) _).setCell (a := ⟨v2.heap.size, i * 3 + 1, none⟩) (by show v0.heap.size ≠ v2.heap.size; omega) _).setCell (a := ⟨v2.heap.size, i * 3 + 2, none⟩) (by show v0.heap.size ≠ v2.heap.size; omega) _
        · exact ((HBA.out.setCell (p := ⟨v2.heap.size, i * 3, none⟩) (by show w.heap.size ≤ v2.heap.size; omega) _).setCell (p := ⟨v2.heap.size, i * 3 + 1, none⟩) (by show w.heap.size ≤ v2.heap.size; omega) _).setCell (p := ⟨v2.heap.size, i * 3 + 2, none⟩) (by show w.heap.size ≤ v2.heap.size; omega) _
      case measure => have := HI.out; simp [intOf]; omega
end Go.Proofs.Ytbcgfohacbapoaa
