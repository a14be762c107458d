
/- The walk of StrokeThin. Conditions: the slice reads. -/
import Derived.Test.YtamogfcedkjmcaaTh5
namespace Go.Proofs.Ytamogfcedkjmcaa
open Go.RowKit Go.Lib Go.Shelf

set_option maxRecDepth 100000 in
set_option maxHeartbeats 16000000 in
theorem thin_law (p0 q0 t bits : Int) (A0 : Option Addr) (n c : Nat) (w : World) (hA : Tz w A0 n) (hz : n ≤ 9223372036854775807) (hp0 : (-9223372036854775808 ≤ p0 ∧ p0 ≤ 9223372036854775807)) (hq0 : (-9223372036854775808 ≤ q0 ∧ q0 ≤ 9223372036854775807)) (ht : (-9223372036854775808 ≤ t ∧ t ≤ 9223372036854775807)) (hbits : (-9223372036854775808 ≤ bits ∧ bits ≤ 9223372036854775807)) :
    Calls Try.prog 4 #[.int .i64 p0, .int .i64 q0, .slice A0 n c, .int .i64 t, .int .i64 bits] w fun e w' => e = .returned (.bool true) ∧ Below w.heap.size w w' := by
  obtain ⟨z, hz_, Hz⟩ := lpick_one t 400 ht (by omega)
  obtain ⟨k, hk_⟩ : ∃ k, pk bits 16777216 = k := ⟨_, rfl⟩
  have hkb : 0 ≤ k ∧ k < 16777216 := by rw [← hk_]; exact pk_bd (by omega)
  have hk0 := Lib.hid (fun W => lpick_val bits 16777216 W hbits (by omega)); simp only [hk_] at hk0
  have HZ1 : Hid (0 ≤ z ∧ z ≤ 1000) := Lib.hid (by omega); have HKB := Lib.hid hkb
  have hz0 := Lib.hid Hz; clear hz_ hk_ hkb Hz ht hbits
  have HB_0 := Lib.hid (Below.refl w.heap.size w)
  have TZ_0 : Hid (Tz w A0 n) := Lib.hid hA
  clear hA
  go_enter Try.func4, Try.ntmps4
  go_wp2_with fail
  refine (sane_any _).mono ?_
  rintro e v0 ⟨rfl, hb⟩
  have TZ_1 : Hid (Tz v0 A0 n) := Lib.hid (TZ_0.out.below hb (Nat.le_refl _))
  clear TZ_0
  have HB_1 : Hid (Below w.heap.size w v0) := Lib.hid (HB_0.out.trans (hb.mono HB_0.out.size))
  clear hb HB_0
  go_wp2_with fail
  refine (lmade_any p0 q0 A0 n c _ TZ_1.out hz hp0 hq0).mono ?_
  rintro e v1 ⟨P, N, ds, A1, k1, rfl, hvd, hl24, hdz, hk1, -, hb⟩
  have HVD := Lib.hid hvd
  have hzl : ds.length ≤ 24 := by omega
  have HZL := Lib.hid hzl; have HK1 := Lib.hid hk1
  obtain ⟨b, o, rfl⟩ := hdz.some (by have := hvd.2.2.1; omega)
  obtain ⟨l, hl⟩ : ∃ l, ds.length = l + 1 := ⟨ds.length - 1, by have := hvd.2.2.1; omega⟩
  have HL := Lib.hid hl
  clear hvd hl24 hzl hk1 hl
  have DS_1 := Lib.hid hdz
  have TZ_2 : Hid (Tz (v1.alloc (.cells #[.int .i64 P, .int .i64 N, .slice (some ⟨b, o, none⟩) ds.length k1] 27)) A0 n) := Lib.hid (TZ_1.out.below (allocs_below [(#[.int .i64 P, .int .i64 N, .slice (some ⟨b, o, none⟩) ds.length k1], 27)] _ hb hb.size) (Nat.le_refl _))
  have DS_2 : Hid (Dz (v1.alloc (.cells #[.int .i64 P, .int .i64 N, .slice (some ⟨b, o, none⟩) ds.length k1] 27)) (some ⟨b, o, none⟩) ds) := Lib.hid (DS_1.out.below (allocs_below [(#[.int .i64 P, .int .i64 N, .slice (some ⟨b, o, none⟩) ds.length k1], 27)] _ (Below.refl _ _) (Nat.le_refl _)) (Nat.le_refl _))
  clear TZ_1 DS_1
  have HB_2 : Hid (Below w.heap.size w (v1.alloc (.cells #[.int .i64 P, .int .i64 N, .slice (some ⟨b, o, none⟩) ds.length k1] 27))) := Lib.hid (allocs_below [(#[.int .i64 P, .int .i64 N, .slice (some ⟨b, o, none⟩) ds.length k1], 27)] _ (HB_1.out.trans (hb.mono HB_1.out.size)) (HB_1.out.trans (hb.mono HB_1.out.size)).size)
  have S_2 : Hid (Blk (v1.alloc (.cells #[.int .i64 P, .int .i64 N, .slice (some ⟨b, o, none⟩) ds.length k1] 27)) v1.heap.size 27 #[.int .i64 P, .int .i64 N, .slice (some ⟨b, o, none⟩) ds.length k1]) := Lib.hid (allocs_blk [(#[.int .i64 P, .int .i64 N, .slice (some ⟨b, o, none⟩) ds.length k1], 27)] v1 0 _ rfl)
  clear hb HB_1
  go_wp2_with fail
  refine (hz0.out _).mono ?_
  rintro e v2 ⟨rfl, hb⟩
  have TZ_3 : Hid (Tz v2 A0 n) := Lib.hid (TZ_2.out.below hb (Nat.le_refl _))
  have DS_3 : Hid (Dz v2 (some ⟨b, o, none⟩) ds) := Lib.hid (DS_2.out.below hb (Nat.le_refl _))
  clear TZ_2 DS_2
  have S_3 : Hid (Blk v2 v1.heap.size 27 #[.int .i64 P, .int .i64 N, .slice (some ⟨b, o, none⟩) ds.length k1]) := Lib.hid (S_2.out.below hb S_2.out.lt)
  have HB_3 : Hid (Below w.heap.size w v2) := Lib.hid (HB_2.out.trans (hb.mono HB_2.out.size))
  clear hb S_2 HB_2
  have yy0 := S_3.out.cell (i := 0) (v := .int .i64 P) rfl; have yy1 := S_3.out.cell (i := 1) (v := .int .i64 N) rfl; have yy2 := S_3.out.cell (i := 2) (v := .slice (some ⟨b, o, none⟩) ds.length k1) rfl
  go_wp2_with fail
  refine (pthin_yes P N ds (some ⟨b, o, none⟩) k1 z _ DS_3.out (by have := HZL.out; omega) HK1.out HVD.out HZ1.out).mono ?_
  rintro e v3 ⟨Q, Ba, ca, rfl, hth, hiz, hb⟩
  have hcl := hth.1.len
  obtain ⟨bq, oq, rfl⟩ := hiz.some (by rw [List.length_map]; omega)
  have HTA := Lib.hid hth; clear hth hcl
  clear yy0 yy1 yy2
  have IA_3 := Lib.hid hiz
  have TZ_4 : Hid (Tz v3 A0 n) := Lib.hid (TZ_3.out.below hb (Nat.le_refl _))
  have DS_4 : Hid (Dz v3 (some ⟨b, o, none⟩) ds) := Lib.hid (DS_3.out.below hb (Nat.le_refl _))
  have IA_4 : Hid (Iz v3 (some ⟨bq, oq, none⟩) (Q.map Int.ofNat)) := Lib.hid IA_3.out
  clear TZ_3 DS_3 IA_3
  have S_4 : Hid (Blk v3 v1.heap.size 27 #[.int .i64 P, .int .i64 N, .slice (some ⟨b, o, none⟩) ds.length k1]) := Lib.hid (S_3.out.below hb S_3.out.lt)
  have HB_4 : Hid (Below w.heap.size w v3) := Lib.hid (HB_3.out.trans (hb.mono HB_3.out.size))
  clear hb S_3 HB_3
  have HLA : Hid (LsP ds.length Q) := Lib.hid (HTA.out.1.ls (by have := HL.out; omega))
  have HQL : Hid (1 ≤ Q.length ∧ Q.length ≤ 24) := Lib.hid (by have h1 := HTA.out.1.len; have h2 := HZL.out; have h3 := HL.out; omega)
  have n3 : ¬ (Q.length = 0) := by have := HQL.out; omega
  have n3b : ¬ (Q = []) := fun h => n3 (by rw [h]; rfl)
  have n3c : ((Q.length : Int) == 0) = false := beq_eq_false_iff_ne.2 (by omega)
  have q0_ : (0 : Int) < (Q.length : Int) := by omega
  have yq : v3.cell? ⟨bq, oq, none⟩ = some (.int .i64 0) := iz_nat IA_4.out HLA.out.2.2.1
  go_wp2_with fail
  clear n3 n3b n3c q0_ yq
  go_loopw [16, 17] (fun oo ii wr => ∃ (i : Nat) (M : List Nat) (A : Option Addr) (c2 : Nat), oo = .slice A M.length c2 ∧ ii = .int .i64 i ∧ i ≤ ds.length ∧ PkP ds.length i M ∧ wr.ownsRow v3.heap.size 3 1 (.slice A M.length c2) M.length (M.map nv) ∧ Below v3.heap.size v3 wr) (fun _ ii _ => ds.length - (intOf ii).toNat)
  case atStart => exact ⟨0, [], none, 0, rfl, rfl, Nat.zero_le _, PkP.zero (by have := HL.out; omega), owni_none _ _, Below.refl _ _⟩
  case round =>
    obtain ⟨i, M, A, c2, rfl, rfl, hi, hpk, ho, hB⟩ := hrel
    have HU := Lib.hid hB; have HPK := Lib.hid hpk; have HO := Lib.hid ho; clear hB hpk ho
    by_cases hlt : i < ds.length
    case pos =>
      have HLT := Lib.hid hlt
      have q1 : (0 : Int) ≤ (i : Int) := by omega
      have q2 : (i : Int) < (ds.length : Int) := by omega
      have w2_ : IntKind.i64.wrap ((ds.length : Int) - 1) = (l : Int) := by have := HZL.out; have := HL.out; rw [IntWalk.i64_in _ (by omega)]; omega
      have yS := (S_4.out.below HU.out S_4.out.lt).cell (i := 2) (v := .slice (some ⟨b, o, none⟩) ds.length k1) rfl
      go_upto_region 13 with fail
      go_cut [77] from 60 to 76 (fun v wx => ∃ bb : Bool, v = .bool bb ∧ (bb = false → 0 < i ∧ i + 1 < ds.length) ∧ wr = wx)
      case first =>
        by_cases h0 : i = 0
        case pos =>
          have h0b : ((i : Int) == 0) = true := by rw [h0]; rfl
          have h0c : (i : Int) = 0 := by omega
          clear h0 hlt hi
          go_wp2_with fail
          go_meet
          exact ⟨true, rfl, fun h => (by cases h), rfl⟩
        case neg =>
          have h0b : ((i : Int) == 0) = false := beq_eq_false_iff_ne.2 (by omega)
          by_cases h1 : i = l
          case pos =>
            have h1b : ((i : Int) == (l : Int)) = true := by rw [h1]; exact beq_self_eq_true _
            clear h1 hi hlt
            go_wp2_with fail
            go_meet
            exact ⟨true, rfl, fun h => (by cases h), rfl⟩
          case neg =>
            have h1b : ((i : Int) == (l : Int)) = false := beq_eq_false_iff_ne.2 (by omega)
            have hbo : 0 < i ∧ i + 1 < ds.length := by have := HL.out; omega
            have HBO := Lib.hid hbo; clear hbo h0 h1 hi hlt
            go_wp2_with fail
            refine (hk0.out _).mono ?_
            rintro e v9 ⟨rfl, rfl⟩
            go_wp2_with fail
            go_meet
            exact ⟨_, rfl, fun _ => HBO.out, rfl⟩
      case rest =>
        obtain ⟨bb, rfl, hbb, rfl⟩ := hcut
        have HBB := Lib.hid hbb; clear hbb yS w2_ q2 hlt hi
        have q5 : (i : Int) + 1 ≤ 9223372036854775807 := by have := HZL.out; have := HLT.out; omega
        cases bb with
        | false =>
          go_wp2_with fail
          go_roundw
          case rel => exact ⟨i + 1, M, A, c2, rfl, by go_num, by have := HLT.out; omega, HPK.out.skip (HBB.out (by simp)).1 (HBB.out (by simp)).2, HO.out, HU.out⟩
          case measure => have := HLT.out; simp [intOf]; omega
        | true =>
          have HOA : Hid ((wr.alloc (.cells #[.int .i64 (i : Nat)] 3)).ownsRow v3.heap.size 3 1 (.slice A M.length c2) M.length (M.map nv)) := Lib.hid (HO.out.alloc _)
          have HNB : Hid (Blk (wr.alloc (.cells #[.int .i64 (i : Nat)] 3)) wr.heap.size 3 #[.int .i64 (i : Nat)]) := Lib.hid (Blk.new _ _ _)
          have HUA : Hid (Below v3.heap.size v3 (wr.alloc (.cells #[.int .i64 (i : Nat)] 3))) := Lib.hid (HU.out.alloc HU.out.size _)
          have HML : Hid (M.length ≤ 1000000) := Lib.hid (by have h1 := HPK.out.2.2.2.2; have h2 := HLT.out; have h3 := HZL.out; omega)
          go_wp2_with (at_builtin; go_loud (refine wpList_append_nat rfl _ _ rfl v3.heap.size (.slice A M.length c2) M.length M rfl HOA.out wr.heap.size i rfl HNB.out HML.out HUA.out.size ?_; intro v2 w2 hown2 hgrow2; obtain ⟨-, A2, c3, rfl, -⟩ := Iz.of_own hown2; have HG2 : Hid (Below v3.heap.size v3 w2) := Lib.hid (HUA.out.grown hgrow2 HUA.out.size (fun g hg => own_base HOA.out g hg)); have HO2 := Lib.hid hown2; clear hown2 hgrow2; skip))
          go_roundw
          case rel => exact ⟨i + 1, M ++ [i], A2, c3, by simp, by go_num, by have := HLT.out; omega, HPK.out.add, (by have h := HO2.out; rwa [show M.length + 1 = (M ++ [i]).length by simp] at h), HG2.out⟩
          case measure => have := HLT.out; simp [intOf]; omega
    case neg =>
      obtain rfl : i = ds.length := by omega
      have hni : ¬ ((ds.length : Int) < (ds.length : Int)) := by omega
      have yS := (S_4.out.below HU.out S_4.out.lt).cell (i := 2) (v := .slice (some ⟨b, o, none⟩) ds.length k1) rfl
      have HLM : Hid (LsP ds.length M) := Lib.hid (HPK.out.all (by have := HL.out; omega))
      obtain ⟨-, A9, c9, hv9, him⟩ := Iz.of_own HO.out
      obtain ⟨rfl, -, rfl⟩ : A = A9 ∧ M.length = M.length ∧ c2 = c9 := by simpa using hv9
      have HML : Hid (M.length ≤ 24) := Lib.hid (by have h1 := HPK.out.2.2.2.2; have h3 := HZL.out; omega)
      have hb := HU.out; clear HU HPK HO hv9
      have IM_4 := Lib.hid him
      have TZ_5 : Hid (Tz wr A0 n) := Lib.hid (TZ_4.out.below hb (Nat.le_refl _))
      have DS_5 : Hid (Dz wr (some ⟨b, o, none⟩) ds) := Lib.hid (DS_4.out.below hb (Nat.le_refl _))
      have IA_5 : Hid (Iz wr (some ⟨bq, oq, none⟩) (Q.map Int.ofNat)) := Lib.hid (IA_4.out.below hb (Nat.le_refl _))
      have IM_5 : Hid (Iz wr A (M.map Int.ofNat)) := Lib.hid IM_4.out
      clear TZ_4 DS_4 IA_4 IM_4
      have S_5 : Hid (Blk wr v1.heap.size 27 #[.int .i64 P, .int .i64 N, .slice (some ⟨b, o, none⟩) ds.length k1]) := Lib.hid (S_4.out.below hb S_4.out.lt)
      have HB_5 : Hid (Below w.heap.size w wr) := Lib.hid (HB_4.out.trans (hb.mono HB_4.out.size))
      clear hb S_4 HB_4
      clear him
      go_wp2_with fail
      clear yS hni hlt hi
      rename World => um
      have HIA := Lib.hid IA_5.out; have HIM := Lib.hid IM_5.out
      go_loopw [18] (fun tt wr => ∃ tn : Nat, tt = .int .i64 tn ∧ tn ≤ 2 ∧ Below um.heap.size um wr) (fun tt _ => 2 - (intOf tt).toNat)
      case atStart => exact ⟨0, rfl, by omega, Below.refl _ _⟩
      case round =>
        obtain ⟨tn, rfl, htn, hB⟩ := hrel
        have HU := Lib.hid hB; clear hB
        by_cases hlt : tn < 2
        case neg =>
          obtain rfl : tn = 2 := by omega
          have hni : ¬ ((2 : Int) < 2) := by omega
          go_wp2_with fail
          go_ret
          exact ⟨rfl, HB_5.out.trans (HU.out.mono HB_5.out.size)⟩
        case pos =>
          have HTN := Lib.hid hlt
          have q2 : (tn : Int) < 2 := by omega
          go_upto_if 88 with fail
          clear q2 hlt htn
          go_cut [19] from 89 to 89 (fun v wx => ∃ (B : Option Addr) (LL : List Nat) (cl : Nat), v = .slice B LL.length cl ∧ LsP ds.length LL ∧ Iz um B (LL.map Int.ofNat) ∧ LL.length ≤ 24 ∧ (tn = 0 → LL = Q) ∧ (tn = 1 → LL = M) ∧ wr = wx)
          case first =>
            by_cases h1 : tn = 1
            case pos =>
              have h1b : ((tn : Int) == 1) = true := by rw [h1]; rfl
              have H1 := Lib.hid h1; clear h1
              go_wp2_with fail
              go_meet
              exact ⟨A, M, c2, rfl, HLM.out, HIM.out, HML.out, fun h => absurd (h.symm.trans H1.out) (by decide), fun _ => rfl, rfl⟩
            case neg =>
              have h1b : ((tn : Int) == 1) = false := beq_eq_false_iff_ne.2 (by omega)
              have H1 := Lib.hid h1; clear h1
              go_wp2_with fail
              go_meet
              exact ⟨_, Q, ca, rfl, HLA.out, HIA.out, HQL.out.2, fun _ => rfl, fun h => absurd h H1.out, rfl⟩
          case rest =>
            obtain ⟨B, LL, cl, rfl, hlp, hil, hll, hL0, hL1, rfl⟩ := hcut
            have hl1 := (List.getElem?_eq_some_iff.1 hlp.2.2.1).1
            obtain ⟨bl, ol, rfl⟩ := hil.some (by rw [List.length_map]; omega)
            obtain ⟨el, hel⟩ : ∃ el, LL.length = el + 1 := ⟨LL.length - 1, by omega⟩
            have hlast : LL[el]? = some l := by have h1 := hlp.2.2.2; have h2 := HL.out; rwa [show LL.length - 1 = el by omega, show ds.length - 1 = l by omega] at h1
            have w1_ : IntKind.i64.wrap ((LL.length : Int) - 1) = (el : Int) := by rw [IntWalk.i64_in _ (by omega)]; omega
            have w2_ : IntKind.i64.wrap ((ds.length : Int) - 1) = (l : Int) := by have := HZL.out; have := HL.out; rw [IntWalk.i64_in _ (by omega)]; omega
            have q1 : (0 : Int) ≤ (el : Int) := by omega
            have q2 : (el : Int) < (LL.length : Int) := by omega
            have HLP := Lib.hid hlp; have HIL := Lib.hid hil; have HLL := Lib.hid hll; have HL0 := Lib.hid hL0; have HL1 := Lib.hid hL1; have HLAST := Lib.hid hlast; have HL1L := Lib.hid hl1
            clear hlp hil hll hL0 hL1 hlast hl1 hel
            go_upto_region 21 with fail
            refine wp_region_grow (S := (fun w' => w'.cell? ⟨v1.heap.size, 2, none⟩ = some (.slice (some ⟨b, o, none⟩) ds.length k1) ∧ w'.cell? ⟨bl, ol + el, none⟩ = some (.int .i64 (l : Nat)))) ((fun w' => Below um.heap.size um w')) (by kernel_rfl) (⟨fun w2 h2 => ⟨((S_5.out.below h2 S_5.out.lt).cell (i := 2) rfl), (iz_nat (HIL.out.below h2 (Nat.le_refl _)) HLAST.out)⟩, fun w2 w3 h2 hb2 => h2.trans (hb2.mono h2.size)⟩) (HU.out.drew) (fun hCalm => ?_)
            refine grow_take 0 (some 90) ?_ rfl rfl (by kernel_rfl) (fun _ _ _ h => h) (by kernel_rfl) hCalm ?_ ?_
            rotate_left
            · intro wS hS; (try dsimp only at hS); go_simp <;> with_reducible rfl
            try simp only [Act.put, List.setIfInBounds_toArray, List.set_cons_zero, List.set_cons_succ]
            refine grow_take 1 (some 91) ?_ rfl rfl (by kernel_rfl) (fun _ _ _ h => h) (by kernel_rfl) hCalm ?_ ?_
            rotate_left
            · intro wS hS; (try dsimp only at hS); go_simp <;> with_reducible rfl
            try simp only [Act.put, List.setIfInBounds_toArray, List.set_cons_zero, List.set_cons_succ]
            refine grow_take 2 (some 92) ?_ rfl rfl (by kernel_rfl) (fun _ _ _ h => h) (by kernel_rfl) hCalm ?_ ?_
            rotate_left
            · intro wS hS; (try dsimp only at hS); go_simp <;> with_reducible rfl
            try simp only [Act.put, List.setIfInBounds_toArray, List.set_cons_zero, List.set_cons_succ]
            refine grow_take 3 (some 93) ?_ rfl rfl (by kernel_rfl) (fun _ _ _ h => h) (by kernel_rfl) hCalm ?_ ?_
            rotate_left
            · intro wS hS; (try dsimp only at hS); go_simp <;> with_reducible rfl
            try simp only [Act.put, List.setIfInBounds_toArray, List.set_cons_zero, List.set_cons_succ]
            refine grow_take 4 (some 94) ?_ rfl rfl (by kernel_rfl) (fun _ _ _ h => h) (by kernel_rfl) hCalm ?_ ?_
            rotate_left
            · intro wS hS; (try dsimp only at hS); go_simp <;> with_reducible rfl
            try simp only [Act.put, List.setIfInBounds_toArray, List.set_cons_zero, List.set_cons_succ]
            refine grow_take 5 (some 95) ?_ rfl rfl (by kernel_rfl) (fun _ _ _ h => h) (by kernel_rfl) hCalm ?_ ?_
            rotate_left
            · intro wS hS; (try dsimp only at hS); go_simp <;> with_reducible rfl
            try simp only [Act.put, List.setIfInBounds_toArray, List.set_cons_zero, List.set_cons_succ]
            refine grow_take 6 (some 96) ?_ rfl rfl (by kernel_rfl) (fun _ _ _ h => h) (by kernel_rfl) hCalm ?_ ?_
            rotate_left
            · intro wS hS; (try dsimp only at hS); go_simp <;> with_reducible rfl
            try simp only [Act.put, List.setIfInBounds_toArray, List.set_cons_zero, List.set_cons_succ]
            refine grow_take 7 (some 97) ?_ rfl rfl (by kernel_rfl) (fun _ _ _ h => h) (by kernel_rfl) hCalm ?_ ?_
            rotate_left
            · intro wS hS; (try dsimp only at hS); go_simp <;> with_reducible rfl
            try simp only [Act.put, List.setIfInBounds_toArray, List.set_cons_zero, List.set_cons_succ]
            refine grow_take 8 (some 98) ?_ rfl rfl (by kernel_rfl) (fun _ _ _ h => h) (by kernel_rfl) hCalm ?_ ?_
            rotate_left
            · intro wS hS; (try dsimp only at hS); go_simp <;> with_reducible rfl
            try simp only [Act.put, List.setIfInBounds_toArray, List.set_cons_zero, List.set_cons_succ]
            refine grow_take 9 (some 99) ?_ rfl rfl (by kernel_rfl) (fun _ _ _ h => h) (by kernel_rfl) hCalm ?_ ?_
            rotate_left
            · intro wS hS; (try dsimp only at hS); go_simp <;> with_reducible rfl
            try simp only [Act.put, List.setIfInBounds_toArray, List.set_cons_zero, List.set_cons_succ]
            refine grow_take 10 (some 100) (.bool true) rfl rfl (by kernel_rfl) (fun _ _ _ h => h) (by kernel_rfl) hCalm ?_ ?_
            · intro wS hS; (try dsimp only at hS); go_simp
            try simp only [Act.put, List.setIfInBounds_toArray, List.set_cons_zero, List.set_cons_succ]
            refine grow_take 11 (some 20) ?_ rfl rfl (by kernel_rfl) (fun _ _ _ h => h) (by kernel_rfl) hCalm ?_ ?_
            rotate_left
            · intro wS hS; (try dsimp only at hS); go_simp <;> with_reducible rfl
            try simp only [Act.put, List.setIfInBounds_toArray, List.set_cons_zero, List.set_cons_succ]
            refine grow_done (by kernel_rfl) (fun wA hA => ?_) _
            rename World => wb
            have HU2 := Lib.hid hA; clear hA hCalm HU w1_ w2_ q1 q2
            go_wp2_with fail
            go_loopw [20, 21] (fun ss ii wr => ∃ (i : Nat) (sb : Bool), ss = .bool sb ∧ ii = .int .i64 i ∧ 1 ≤ i ∧ i ≤ LL.length ∧ (sb = true ↔ ∀ (j x y : Nat), j + 1 < i → LL[j]? = some x → LL[j + 1]? = some y → BetwP ds z x y) ∧ Below um.heap.size um wr) (fun _ ii _ => LL.length - (intOf ii).toNat)
            case atStart => exact ⟨1, true, rfl, rfl, Nat.le_refl _, HL1L.out, ⟨fun _ j x y h => absurd h (by omega), fun _ => rfl⟩, HU2.out⟩
            case round =>
              clear HU2
              rename World => wr
              obtain ⟨i, sb, rfl, rfl, hi1, hi, hsb, hB⟩ := hrel
              have HU := Lib.hid hB; have HSB := Lib.hid hsb; have HI1 := Lib.hid hi1; clear hB hsb hi1
              by_cases hlt : i < LL.length
              case neg =>
                obtain rfl : i = LL.length := by omega
                have hni : ¬ ((LL.length : Int) < (LL.length : Int)) := by omega
                have q5 : (tn : Int) + 1 ≤ 9223372036854775807 := by have := HTN.out; omega
                have hall : sb = true → Wy (BetwP ds z) (ds.length - 1) LL := fun h => HLP.out.wy (fun j x y hx hy => HSB.out.1 h j x y (List.getElem?_eq_some_iff.1 hy).1 hx hy)
                by_cases h1 : tn = 1
                case pos =>
                  have h1b : ((tn : Int) == 1) = true := by rw [h1]; rfl
                  have h0b : ((tn : Int) == 0) = false := beq_eq_false_iff_ne.2 (by omega)
                  have hql : sb = true → Q.length ≤ M.length := fun h => (HTA.out.2 M (by have h2 := hall h; rwa [HL1.out h1] at h2)).len
                  have HQM := Lib.hid hql; clear hql hall h1 hi hlt
                  cases sb with
                  | false =>
                    go_wp2_with fail
                    go_roundw
                    case rel => exact ⟨tn + 1, by go_num, by have := HTN.out; omega, HU.out⟩
                    case measure => have := HTN.out; simp [intOf]; omega
                  | true =>
                    have hqm := HQM.out (by simp)
                    have hqn : ¬ ((M.length : Int) < (Q.length : Int)) := by omega
                    go_wp2_with fail
                    go_roundw
                    case rel => exact ⟨tn + 1, by go_num, by have := HTN.out; omega, HU.out⟩
                    case measure => have := HTN.out; simp [intOf]; omega
                case neg =>
                  have h0 : tn = 0 := by have := HTN.out; omega
                  have h1b : ((tn : Int) == 1) = false := beq_eq_false_iff_ne.2 (by omega)
                  have h0b : ((tn : Int) == 0) = true := by rw [h0]; rfl
                  have hst : sb = true := HSB.out.2 (fun j x y _ hx hy => by rw [HL0.out h0] at hx hy; exact (HTA.out.1.next j x y hx hy).2)
                  clear hall h1 h0 hi hlt
                  subst hst
                  go_wp2_with fail
                  go_roundw
                  case rel => exact ⟨tn + 1, by go_num, by have := HTN.out; omega, HU.out⟩
                  case measure => have := HTN.out; simp [intOf]; omega
              case pos =>
                have HLT := Lib.hid hlt
                obtain ⟨j, hj⟩ : ∃ j, i = j + 1 := ⟨i - 1, by have := HI1.out; omega⟩
                obtain ⟨x, hx⟩ : ∃ x, LL[j]? = some x := ⟨_, List.getElem?_eq_getElem (by omega)⟩
                obtain ⟨y, hy⟩ : ∃ y, LL[i]? = some y := ⟨_, List.getElem?_eq_getElem hlt⟩
                have hxy : x < y := HLP.out.1 j x y hx (by rw [← hj]; exact hy)
                have hyn : y < ds.length := HLP.out.2.1 y (List.mem_of_getElem? hy)
                have HJ := Lib.hid hj; have HX := Lib.hid hx; have HYY := Lib.hid hy; have HXY := Lib.hid hxy; have HYN := Lib.hid hyn
                have e5 : IntKind.i64.wrap ((i : Int) - 1) = (j : Int) := by have := HLL.out; rw [IntWalk.i64_in _ (by omega)]; omega
                have q1 : (0 : Int) ≤ (i : Int) := by omega
                have q2 : (i : Int) < (LL.length : Int) := by omega
                have q3 : (0 : Int) ≤ (j : Int) := by omega
                have q4 : (j : Int) < (LL.length : Int) := by omega
                have m1 : ¬ ((y : Int) ≤ (x : Int)) := by omega
                have m2 : ¬ ((ds.length : Int) ≤ (y : Int)) := by omega
                clear hlt hi hj hx hy
                go_upto_region 25 with fail
                refine wp_region_grow (S := (fun w' => w'.cell? ⟨v1.heap.size, 2, none⟩ = some (.slice (some ⟨b, o, none⟩) ds.length k1) ∧ w'.cell? ⟨bl, ol + j, none⟩ = some (.int .i64 (x : Nat)) ∧ w'.cell? ⟨bl, ol + i, none⟩ = some (.int .i64 (y : Nat)))) ((fun w' => Below um.heap.size um w')) (by kernel_rfl) (⟨fun w2 h2 => ⟨((S_5.out.below h2 S_5.out.lt).cell (i := 2) rfl), (iz_nat (HIL.out.below h2 (Nat.le_refl _)) HX.out), (iz_nat (HIL.out.below h2 (Nat.le_refl _)) HYY.out)⟩, fun w2 w3 h2 hb2 => h2.trans (hb2.mono h2.size)⟩) (HU.out.drew) (fun hCalm => ?_)
                refine grow_take 0 (some 107) ?_ rfl rfl (by kernel_rfl) (fun _ _ _ h => h) (by kernel_rfl) hCalm ?_ ?_
                rotate_left
                · intro wS hS; (try dsimp only at hS); go_simp <;> with_reducible rfl
                try simp only [Act.put, List.setIfInBounds_toArray, List.set_cons_zero, List.set_cons_succ]
                refine grow_take 1 (some 108) ?_ rfl rfl (by kernel_rfl) (fun _ _ _ h => h) (by kernel_rfl) hCalm ?_ ?_
                rotate_left
                · intro wS hS; (try dsimp only at hS); go_simp <;> with_reducible rfl
                try simp only [Act.put, List.setIfInBounds_toArray, List.set_cons_zero, List.set_cons_succ]
                refine grow_take 2 (some 109) ?_ rfl rfl (by kernel_rfl) (fun _ _ _ h => h) (by kernel_rfl) hCalm ?_ ?_
                rotate_left
                · intro wS hS; (try dsimp only at hS); go_simp <;> with_reducible rfl
                try simp only [Act.put, List.setIfInBounds_toArray, List.set_cons_zero, List.set_cons_succ]
                refine grow_take 3 (some 110) ?_ rfl rfl (by kernel_rfl) (fun _ _ _ h => h) (by kernel_rfl) hCalm ?_ ?_
                rotate_left
                · intro wS hS; (try dsimp only at hS); go_simp <;> with_reducible rfl
                try simp only [Act.put, List.setIfInBounds_toArray, List.set_cons_zero, List.set_cons_succ]
                refine grow_take 4 (some 111) ?_ rfl rfl (by kernel_rfl) (fun _ _ _ h => h) (by kernel_rfl) hCalm ?_ ?_
                rotate_left
                · intro wS hS; (try dsimp only at hS); go_simp <;> with_reducible rfl
                try simp only [Act.put, List.setIfInBounds_toArray, List.set_cons_zero, List.set_cons_succ]
                refine grow_take 5 (some 112) ?_ rfl rfl (by kernel_rfl) (fun _ _ _ h => h) (by kernel_rfl) hCalm ?_ ?_
                rotate_left
                · intro wS hS; (try dsimp only at hS); go_simp <;> with_reducible rfl
                try simp only [Act.put, List.setIfInBounds_toArray, List.set_cons_zero, List.set_cons_succ]
                refine grow_take 6 (some 113) ?_ rfl rfl (by kernel_rfl) (fun _ _ _ h => h) (by kernel_rfl) hCalm ?_ ?_
                rotate_left
                · intro wS hS; (try dsimp only at hS); go_simp <;> with_reducible rfl
                try simp only [Act.put, List.setIfInBounds_toArray, List.set_cons_zero, List.set_cons_succ]
                refine grow_take 7 (some 114) ?_ rfl rfl (by kernel_rfl) (fun _ _ _ h => h) (by kernel_rfl) hCalm ?_ ?_
                rotate_left
                · intro wS hS; (try dsimp only at hS); go_simp <;> with_reducible rfl
                try simp only [Act.put, List.setIfInBounds_toArray, List.set_cons_zero, List.set_cons_succ]
                refine grow_take 8 (some 115) ?_ rfl rfl (by kernel_rfl) (fun _ _ _ h => h) (by kernel_rfl) hCalm ?_ ?_
                rotate_left
                · intro wS hS; (try dsimp only at hS); go_simp <;> with_reducible rfl
                try simp only [Act.put, List.setIfInBounds_toArray, List.set_cons_zero, List.set_cons_succ]
                refine grow_take 9 (some 116) (.bool false) rfl rfl (by kernel_rfl) (fun _ _ _ h => h) (by kernel_rfl) hCalm ?_ ?_
                · intro wS hS; (try dsimp only at hS); go_simp
                try simp only [Act.put, List.setIfInBounds_toArray, List.set_cons_zero, List.set_cons_succ]
                refine grow_take 10 (some 117) ?_ rfl rfl (by kernel_rfl) (fun _ _ _ h => h) (by kernel_rfl) hCalm ?_ ?_
                rotate_left
                · intro wS hS; (try dsimp only at hS); go_simp <;> with_reducible rfl
                try simp only [Act.put, List.setIfInBounds_toArray, List.set_cons_zero, List.set_cons_succ]
                refine grow_take 11 (some 118) ?_ rfl rfl (by kernel_rfl) (fun _ _ _ h => h) (by kernel_rfl) hCalm ?_ ?_
                rotate_left
                · intro wS hS; (try dsimp only at hS); go_simp <;> with_reducible rfl
                try simp only [Act.put, List.setIfInBounds_toArray, List.set_cons_zero, List.set_cons_succ]
                refine grow_take 12 (some 119) ?_ rfl rfl (by kernel_rfl) (fun _ _ _ h => h) (by kernel_rfl) hCalm ?_ ?_
                rotate_left
                · intro wS hS; (try dsimp only at hS); go_simp <;> with_reducible rfl
                try simp only [Act.put, List.setIfInBounds_toArray, List.set_cons_zero, List.set_cons_succ]
                refine grow_take 13 (some 120) ?_ rfl rfl (by kernel_rfl) (fun _ _ _ h => h) (by kernel_rfl) hCalm ?_ ?_
                rotate_left
                · intro wS hS; (try dsimp only at hS); go_simp <;> with_reducible rfl
                try simp only [Act.put, List.setIfInBounds_toArray, List.set_cons_zero, List.set_cons_succ]
                refine grow_take 14 (some 121) ?_ rfl rfl (by kernel_rfl) (fun _ _ _ h => h) (by kernel_rfl) hCalm ?_ ?_
                rotate_left
                · intro wS hS; (try dsimp only at hS); go_simp <;> with_reducible rfl
                try simp only [Act.put, List.setIfInBounds_toArray, List.set_cons_zero, List.set_cons_succ]
                refine grow_take 15 (some 122) ?_ rfl rfl (by kernel_rfl) (fun _ _ _ h => h) (by kernel_rfl) hCalm ?_ ?_
                rotate_left
                · intro wS hS; (try dsimp only at hS); go_simp <;> with_reducible rfl
                try simp only [Act.put, List.setIfInBounds_toArray, List.set_cons_zero, List.set_cons_succ]
                refine grow_take 16 (some 123) ?_ rfl rfl (by kernel_rfl) (fun _ _ _ h => h) (by kernel_rfl) hCalm ?_ ?_
                rotate_left
                · intro wS hS; (try dsimp only at hS); go_simp <;> with_reducible rfl
                try simp only [Act.put, List.setIfInBounds_toArray, List.set_cons_zero, List.set_cons_succ]
                refine grow_take 17 (some 124) ?_ rfl rfl (by kernel_rfl) (fun _ _ _ h => h) (by kernel_rfl) hCalm ?_ ?_
                rotate_left
                · intro wS hS; (try dsimp only at hS); go_simp <;> with_reducible rfl
                try simp only [Act.put, List.setIfInBounds_toArray, List.set_cons_zero, List.set_cons_succ]
                refine grow_take 18 (some 125) (.bool false) rfl rfl (by kernel_rfl) (fun _ _ _ h => h) (by kernel_rfl) hCalm ?_ ?_
                · intro wS hS; (try dsimp only at hS); go_simp
                try simp only [Act.put, List.setIfInBounds_toArray, List.set_cons_zero, List.set_cons_succ]
                refine grow_take 19 (some 126) ?_ rfl rfl (by kernel_rfl) (fun _ _ _ h => h) (by kernel_rfl) hCalm ?_ ?_
                rotate_left
                · intro wS hS; (try dsimp only at hS); go_simp <;> with_reducible rfl
                try simp only [Act.put, List.setIfInBounds_toArray, List.set_cons_zero, List.set_cons_succ]
                refine grow_done (by kernel_rfl) (fun wA hA => ?_) _
                rename World => wc
                have HU2 := Lib.hid hA; clear hA hCalm HU m1 m2 hxy hyn
                obtain ⟨p, hp⟩ : ∃ d, d = ds[x]'(by have := HXY.out; have := HYN.out; omega) := ⟨_, rfl⟩
                have HGp : Hid (ds[x]? = some p) := Lib.hid (by rw [hp]; exact List.getElem?_eq_getElem _)
                have HDp : Hid (∀ W, Below um.heap.size um W → W.cell? ⟨b, o + x * 4, none⟩ = some (.int .i64 p.x) ∧ W.cell? ⟨b, o + x * 4 + 1, none⟩ = some (.int .i64 p.y)) := Lib.hid (fun W hb => by
                  have h9 := DS_5.out.at W hb x (by have := HXY.out; have := HYN.out; omega)
                  rw [← hp] at h9
                  exact ⟨h9.1, h9.2.1⟩)
                clear hp
                obtain ⟨q, hq⟩ : ∃ d, d = ds[y]'HYN.out := ⟨_, rfl⟩
                have HGq : Hid (ds[y]? = some q) := Lib.hid (by rw [hq]; exact List.getElem?_eq_getElem _)
                have HDq : Hid (∀ W, Below um.heap.size um W → W.cell? ⟨b, o + y * 4, none⟩ = some (.int .i64 q.x) ∧ W.cell? ⟨b, o + y * 4 + 1, none⟩ = some (.int .i64 q.y)) := Lib.hid (fun W hb => by
                  have h9 := DS_5.out.at W hb y HYN.out
                  rw [← hq] at h9
                  exact ⟨h9.1, h9.2.1⟩)
                clear hq
                have s1 : (0 : Int) ≤ (x : Int) := by omega
                have s2 : (x : Int) < (ds.length : Int) := by have := HXY.out; have := HYN.out; omega
                have s3 : (0 : Int) ≤ (y : Int) := by omega
                have s4 : (y : Int) < (ds.length : Int) := by have := HYN.out; omega
                go_upto_region 27 with fail
                refine wp_region_grow (S := (fun w' => w'.cell? ⟨v1.heap.size, 2, none⟩ = some (.slice (some ⟨b, o, none⟩) ds.length k1) ∧ w'.cell? ⟨bl, ol + j, none⟩ = some (.int .i64 (x : Nat)) ∧ w'.cell? ⟨b, o + x * 4, none⟩ = some (.int .i64 p.x) ∧ w'.cell? ⟨b, o + x * 4 + 1, none⟩ = some (.int .i64 p.y))) ((fun w' => Below um.heap.size um w')) (by kernel_rfl) (⟨fun w2 h2 => ⟨((S_5.out.below h2 S_5.out.lt).cell (i := 2) rfl), (iz_nat (HIL.out.below h2 (Nat.le_refl _)) HX.out), (HDp.out w2 h2).1, (HDp.out w2 h2).2⟩, fun w2 w3 h2 hb2 => h2.trans (hb2.mono h2.size)⟩) (HU2.out.drew) (fun hCalm => ?_)
                refine grow_take 0 (some 127) ?_ rfl rfl (by kernel_rfl) (fun _ _ _ h => h) (by kernel_rfl) hCalm ?_ ?_
                rotate_left
                · intro wS hS; (try dsimp only at hS); go_simp <;> with_reducible rfl
                try simp only [Act.put, List.setIfInBounds_toArray, List.set_cons_zero, List.set_cons_succ]
                refine grow_take 1 (some 128) ?_ rfl rfl (by kernel_rfl) (fun _ _ _ h => h) (by kernel_rfl) hCalm ?_ ?_
                rotate_left
                · intro wS hS; (try dsimp only at hS); go_simp <;> with_reducible rfl
                try simp only [Act.put, List.setIfInBounds_toArray, List.set_cons_zero, List.set_cons_succ]
                refine grow_take 2 (some 129) ?_ rfl rfl (by kernel_rfl) (fun _ _ _ h => h) (by kernel_rfl) hCalm ?_ ?_
                rotate_left
                · intro wS hS; (try dsimp only at hS); go_simp <;> with_reducible rfl
                try simp only [Act.put, List.setIfInBounds_toArray, List.set_cons_zero, List.set_cons_succ]
                refine grow_take 3 (some 130) ?_ rfl rfl (by kernel_rfl) (fun _ _ _ h => h) (by kernel_rfl) hCalm ?_ ?_
                rotate_left
                · intro wS hS; (try dsimp only at hS); go_simp <;> with_reducible rfl
                try simp only [Act.put, List.setIfInBounds_toArray, List.set_cons_zero, List.set_cons_succ]
                refine grow_take 4 (some 131) ?_ rfl rfl (by kernel_rfl) (fun _ _ _ h => h) (by kernel_rfl) hCalm ?_ ?_
                rotate_left
                · intro wS hS; (try dsimp only at hS); go_simp <;> with_reducible rfl
                try simp only [Act.put, List.setIfInBounds_toArray, List.set_cons_zero, List.set_cons_succ]
                refine grow_take 5 (some 132) ?_ rfl rfl (by kernel_rfl) (fun _ _ _ h => h) (by kernel_rfl) hCalm ?_ ?_
                rotate_left
                · intro wS hS; (try dsimp only at hS); go_simp <;> with_reducible rfl
                try simp only [Act.put, List.setIfInBounds_toArray, List.set_cons_zero, List.set_cons_succ]
                refine grow_take 6 (some 133) ?_ rfl rfl (by kernel_rfl) (fun _ _ _ h => h) (by kernel_rfl) hCalm ?_ ?_
                rotate_left
                · intro wS hS; (try dsimp only at hS); go_simp <;> with_reducible rfl
                try simp only [Act.put, List.setIfInBounds_toArray, List.set_cons_zero, List.set_cons_succ]
                refine grow_take 7 (some 134) ?_ rfl rfl (by kernel_rfl) (fun _ _ _ h => h) (by kernel_rfl) hCalm ?_ ?_
                rotate_left
                · intro wS hS; (try dsimp only at hS); go_simp <;> with_reducible rfl
                try simp only [Act.put, List.setIfInBounds_toArray, List.set_cons_zero, List.set_cons_succ]
                refine grow_take 8 (some 135) ?_ rfl rfl (by kernel_rfl) (fun _ _ _ h => h) (by kernel_rfl) hCalm ?_ ?_
                rotate_left
                · intro wS hS; (try dsimp only at hS); go_simp <;> with_reducible rfl
                try simp only [Act.put, List.setIfInBounds_toArray, List.set_cons_zero, List.set_cons_succ]
                refine grow_take 9 (some 136) ?_ rfl rfl (by kernel_rfl) (fun _ _ _ h => h) (by kernel_rfl) hCalm ?_ ?_
                rotate_left
                · intro wS hS; (try dsimp only at hS); go_simp <;> with_reducible rfl
                try simp only [Act.put, List.setIfInBounds_toArray, List.set_cons_zero, List.set_cons_succ]
                refine grow_take 10 (some 137) ?_ rfl rfl (by kernel_rfl) (fun _ _ _ h => h) (by kernel_rfl) hCalm ?_ ?_
                rotate_left
                · intro wS hS; (try dsimp only at hS); go_simp <;> with_reducible rfl
                try simp only [Act.put, List.setIfInBounds_toArray, List.set_cons_zero, List.set_cons_succ]
                refine grow_take 11 (some 138) ?_ rfl rfl (by kernel_rfl) (fun _ _ _ h => h) (by kernel_rfl) hCalm ?_ ?_
                rotate_left
                · intro wS hS; (try dsimp only at hS); go_simp <;> with_reducible rfl
                try simp only [Act.put, List.setIfInBounds_toArray, List.set_cons_zero, List.set_cons_succ]
                refine grow_take 12 (some 139) ?_ rfl rfl (by kernel_rfl) (fun _ _ _ h => h) (by kernel_rfl) hCalm ?_ ?_
                rotate_left
                · intro wS hS; (try dsimp only at hS); go_simp <;> with_reducible rfl
                try simp only [Act.put, List.setIfInBounds_toArray, List.set_cons_zero, List.set_cons_succ]
                refine grow_take 13 (some 140) ?_ rfl rfl (by kernel_rfl) (fun _ _ _ h => h) (by kernel_rfl) hCalm ?_ ?_
                rotate_left
                · intro wS hS; (try dsimp only at hS); go_simp <;> with_reducible rfl
                try simp only [Act.put, List.setIfInBounds_toArray, List.set_cons_zero, List.set_cons_succ]
                refine grow_take 14 (some 141) ?_ rfl rfl (by kernel_rfl) (fun _ _ _ h => h) (by kernel_rfl) hCalm ?_ ?_
                rotate_left
                · intro wS hS; (try dsimp only at hS); go_simp <;> with_reducible rfl
                try simp only [Act.put, List.setIfInBounds_toArray, List.set_cons_zero, List.set_cons_succ]
                refine grow_take 15 (some 142) ?_ rfl rfl (by kernel_rfl) (fun _ _ _ h => h) (by kernel_rfl) hCalm ?_ ?_
                rotate_left
                · intro wS hS; (try dsimp only at hS); go_simp <;> with_reducible rfl
                try simp only [Act.put, List.setIfInBounds_toArray, List.set_cons_zero, List.set_cons_succ]
                refine grow_take 16 (some 143) ?_ rfl rfl (by kernel_rfl) (fun _ _ _ h => h) (by kernel_rfl) hCalm ?_ ?_
                rotate_left
                · intro wS hS; (try dsimp only at hS); go_simp <;> with_reducible rfl
                try simp only [Act.put, List.setIfInBounds_toArray, List.set_cons_zero, List.set_cons_succ]
                refine grow_take 17 (some 144) ?_ rfl rfl (by kernel_rfl) (fun _ _ _ h => h) (by kernel_rfl) hCalm ?_ ?_
                rotate_left
                · intro wS hS; (try dsimp only at hS); go_simp <;> with_reducible rfl
                try simp only [Act.put, List.setIfInBounds_toArray, List.set_cons_zero, List.set_cons_succ]
                refine grow_take 18 (some 145) ?_ rfl rfl (by kernel_rfl) (fun _ _ _ h => h) (by kernel_rfl) hCalm ?_ ?_
                rotate_left
                · intro wS hS; (try dsimp only at hS); go_simp <;> with_reducible rfl
                try simp only [Act.put, List.setIfInBounds_toArray, List.set_cons_zero, List.set_cons_succ]
                refine grow_take 19 (some 146) ?_ rfl rfl (by kernel_rfl) (fun _ _ _ h => h) (by kernel_rfl) hCalm ?_ ?_
                rotate_left
                · intro wS hS; (try dsimp only at hS); go_simp <;> with_reducible rfl
                try simp only [Act.put, List.setIfInBounds_toArray, List.set_cons_zero, List.set_cons_succ]
                refine grow_take 20 (some 147) ?_ rfl rfl (by kernel_rfl) (fun _ _ _ h => h) (by kernel_rfl) hCalm ?_ ?_
                rotate_left
                · intro wS hS; (try dsimp only at hS); go_simp <;> with_reducible rfl
                try simp only [Act.put, List.setIfInBounds_toArray, List.set_cons_zero, List.set_cons_succ]
                refine grow_each [21] (by kernel_rfl) (by decide) ?_
                refine grow_cons 21 rfl (by kernel_rfl) (fun wA hA K hK => ?_) grow_nil
                obtain ⟨pPP, hpPP⟩ : ∃ b, b = wA.heap.size := ⟨_, rfl⟩
                have le_pPP : um.heap.size ≤ pPP := by rw [hpPP]; exact hA.size
                have hnew : Blk (wA.alloc (.cells #[.int .i64 0, .int .i64 0] 29)) pPP 29 #[.int .i64 0, .int .i64 0] := by rw [hpPP]; exact Blk.new wA _ _
                go_simp
                rw [← hpPP]
                refine hK.out _ _ (fun w' => Below um.heap.size um w' ∧ Blk w' pPP 29 #[.int .i64 0, .int .i64 0]) ⟨fun w2 h2 => ⟨((S_5.out.below h2.1 S_5.out.lt).cell (i := 2) rfl), (iz_nat (HIL.out.below h2.1 (Nat.le_refl _)) HX.out), (HDp.out w2 h2.1).1, (HDp.out w2 h2.1).2⟩, fun w2 w3 h2 hb2 => ⟨h2.1.trans (hb2.mono h2.1.size), h2.2.below hb2 h2.2.lt⟩⟩ ⟨hA.alloc hA.size _, hnew⟩ ?_
                clear hnew hpPP hK K hA wA hCalm
                have hCalm : Calm (fun w' => w'.cell? ⟨v1.heap.size, 2, none⟩ = some (.slice (some ⟨b, o, none⟩) ds.length k1) ∧ w'.cell? ⟨bl, ol + j, none⟩ = some (.int .i64 (x : Nat)) ∧ w'.cell? ⟨b, o + x * 4, none⟩ = some (.int .i64 p.x) ∧ w'.cell? ⟨b, o + x * 4 + 1, none⟩ = some (.int .i64 p.y)) (fun w' => Below um.heap.size um w' ∧ Blk w' pPP 29 #[.int .i64 0, .int .i64 0]) := ⟨fun w2 h2 => ⟨((S_5.out.below h2.1 S_5.out.lt).cell (i := 2) rfl), (iz_nat (HIL.out.below h2.1 (Nat.le_refl _)) HX.out), (HDp.out w2 h2.1).1, (HDp.out w2 h2.1).2⟩, fun w2 w3 h2 hb2 => ⟨h2.1.trans (hb2.mono h2.1.size), h2.2.below hb2 h2.2.lt⟩⟩
                try simp only [Act.put, List.setIfInBounds_toArray, List.set_cons_zero, List.set_cons_succ]
                refine grow_each [22] (by kernel_rfl) (by decide) ?_
                refine grow_cons 22 rfl (by kernel_rfl) (fun wA hA K hK => ?_) grow_nil
                have z0 := hA.2.cell (i := 0) (v := .int .i64 0) rfl; have f0 := hA.2.frozen 0
                have z1 := hA.2.cell (i := 1) (v := .int .i64 0) rfl; have f1 := hA.2.frozen 1
                go_simp
                refine hK.out _ _ (fun w' => Below um.heap.size um w' ∧ Blk w' pPP 29 #[.int .i64 p.x, .int .i64 p.y]) ⟨fun w2 h2 => ⟨((S_5.out.below h2.1 S_5.out.lt).cell (i := 2) rfl), (iz_nat (HIL.out.below h2.1 (Nat.le_refl _)) HX.out), (HDp.out w2 h2.1).1, (HDp.out w2 h2.1).2⟩, fun w2 w3 h2 hb2 => ⟨h2.1.trans (hb2.mono h2.1.size), h2.2.below hb2 h2.2.lt⟩⟩ ⟨((hA.1.setCell (p := ⟨pPP, 0, none⟩) (by show um.heap.size ≤ pPP; omega) _).setCell (p := ⟨pPP, 1, none⟩) (by show um.heap.size ≤ pPP; omega) _), ((hA.2.set 0 _).set 1 _)⟩ ?_
                clear z0 f0 z1 f1 hK K hA wA hCalm
                have hCalm : Calm (fun w' => w'.cell? ⟨v1.heap.size, 2, none⟩ = some (.slice (some ⟨b, o, none⟩) ds.length k1) ∧ w'.cell? ⟨bl, ol + j, none⟩ = some (.int .i64 (x : Nat)) ∧ w'.cell? ⟨b, o + x * 4, none⟩ = some (.int .i64 p.x) ∧ w'.cell? ⟨b, o + x * 4 + 1, none⟩ = some (.int .i64 p.y)) (fun w' => Below um.heap.size um w' ∧ Blk w' pPP 29 #[.int .i64 p.x, .int .i64 p.y]) := ⟨fun w2 h2 => ⟨((S_5.out.below h2.1 S_5.out.lt).cell (i := 2) rfl), (iz_nat (HIL.out.below h2.1 (Nat.le_refl _)) HX.out), (HDp.out w2 h2.1).1, (HDp.out w2 h2.1).2⟩, fun w2 w3 h2 hb2 => ⟨h2.1.trans (hb2.mono h2.1.size), h2.2.below hb2 h2.2.lt⟩⟩
                try simp only [Act.put]
                refine grow_done (by kernel_rfl) (fun wA hA => ?_) _
                rename World => wd
                have HU3 := Lib.hid hA.1; have HPP := Lib.hid hA.2; clear hA hCalm HU2
                go_upto_region 28 with fail
                refine wp_region_grow (S := (fun w' => w'.cell? ⟨v1.heap.size, 2, none⟩ = some (.slice (some ⟨b, o, none⟩) ds.length k1) ∧ w'.cell? ⟨bl, ol + i, none⟩ = some (.int .i64 (y : Nat)) ∧ w'.cell? ⟨b, o + y * 4, none⟩ = some (.int .i64 q.x) ∧ w'.cell? ⟨b, o + y * 4 + 1, none⟩ = some (.int .i64 q.y))) ((fun w' => Below um.heap.size um w' ∧ Blk w' pPP 29 #[.int .i64 p.x, .int .i64 p.y])) (by kernel_rfl) (⟨fun w2 h2 => ⟨((S_5.out.below h2.1 S_5.out.lt).cell (i := 2) rfl), (iz_nat (HIL.out.below h2.1 (Nat.le_refl _)) HYY.out), (HDq.out w2 h2.1).1, (HDq.out w2 h2.1).2⟩, fun w2 w3 h2 hb2 => ⟨h2.1.trans (hb2.mono h2.1.size), h2.2.below hb2 h2.2.lt⟩⟩) (⟨HU3.out.drew, HPP.out.drew⟩) (fun hCalm => ?_)
                refine grow_take 0 (some 148) ?_ rfl rfl (by kernel_rfl) (fun _ _ _ h => h) (by kernel_rfl) hCalm ?_ ?_
                rotate_left
                · intro wS hS; (try dsimp only at hS); go_simp <;> with_reducible rfl
                try simp only [Act.put, List.setIfInBounds_toArray, List.set_cons_zero, List.set_cons_succ]
                refine grow_take 1 (some 149) ?_ rfl rfl (by kernel_rfl) (fun _ _ _ h => h) (by kernel_rfl) hCalm ?_ ?_
                rotate_left
                · intro wS hS; (try dsimp only at hS); go_simp <;> with_reducible rfl
                try simp only [Act.put, List.setIfInBounds_toArray, List.set_cons_zero, List.set_cons_succ]
                refine grow_take 2 (some 150) ?_ rfl rfl (by kernel_rfl) (fun _ _ _ h => h) (by kernel_rfl) hCalm ?_ ?_
                rotate_left
                · intro wS hS; (try dsimp only at hS); go_simp <;> with_reducible rfl
                try simp only [Act.put, List.setIfInBounds_toArray, List.set_cons_zero, List.set_cons_succ]
                refine grow_take 3 (some 151) ?_ rfl rfl (by kernel_rfl) (fun _ _ _ h => h) (by kernel_rfl) hCalm ?_ ?_
                rotate_left
                · intro wS hS; (try dsimp only at hS); go_simp <;> with_reducible rfl
                try simp only [Act.put, List.setIfInBounds_toArray, List.set_cons_zero, List.set_cons_succ]
                refine grow_take 4 (some 152) ?_ rfl rfl (by kernel_rfl) (fun _ _ _ h => h) (by kernel_rfl) hCalm ?_ ?_
                rotate_left
                · intro wS hS; (try dsimp only at hS); go_simp <;> with_reducible rfl
                try simp only [Act.put, List.setIfInBounds_toArray, List.set_cons_zero, List.set_cons_succ]
                refine grow_take 5 (some 153) ?_ rfl rfl (by kernel_rfl) (fun _ _ _ h => h) (by kernel_rfl) hCalm ?_ ?_
                rotate_left
                · intro wS hS; (try dsimp only at hS); go_simp <;> with_reducible rfl
                try simp only [Act.put, List.setIfInBounds_toArray, List.set_cons_zero, List.set_cons_succ]
                refine grow_take 6 (some 154) ?_ rfl rfl (by kernel_rfl) (fun _ _ _ h => h) (by kernel_rfl) hCalm ?_ ?_
                rotate_left
                · intro wS hS; (try dsimp only at hS); go_simp <;> with_reducible rfl
                try simp only [Act.put, List.setIfInBounds_toArray, List.set_cons_zero, List.set_cons_succ]
                refine grow_take 7 (some 155) ?_ rfl rfl (by kernel_rfl) (fun _ _ _ h => h) (by kernel_rfl) hCalm ?_ ?_
                rotate_left
                · intro wS hS; (try dsimp only at hS); go_simp <;> with_reducible rfl
                try simp only [Act.put, List.setIfInBounds_toArray, List.set_cons_zero, List.set_cons_succ]
                refine grow_take 8 (some 156) ?_ rfl rfl (by kernel_rfl) (fun _ _ _ h => h) (by kernel_rfl) hCalm ?_ ?_
                rotate_left
                · intro wS hS; (try dsimp only at hS); go_simp <;> with_reducible rfl
                try simp only [Act.put, List.setIfInBounds_toArray, List.set_cons_zero, List.set_cons_succ]
                refine grow_take 9 (some 157) ?_ rfl rfl (by kernel_rfl) (fun _ _ _ h => h) (by kernel_rfl) hCalm ?_ ?_
                rotate_left
                · intro wS hS; (try dsimp only at hS); go_simp <;> with_reducible rfl
                try simp only [Act.put, List.setIfInBounds_toArray, List.set_cons_zero, List.set_cons_succ]
                refine grow_take 10 (some 158) ?_ rfl rfl (by kernel_rfl) (fun _ _ _ h => h) (by kernel_rfl) hCalm ?_ ?_
                rotate_left
                · intro wS hS; (try dsimp only at hS); go_simp <;> with_reducible rfl
                try simp only [Act.put, List.setIfInBounds_toArray, List.set_cons_zero, List.set_cons_succ]
                refine grow_take 11 (some 159) ?_ rfl rfl (by kernel_rfl) (fun _ _ _ h => h) (by kernel_rfl) hCalm ?_ ?_
                rotate_left
                · intro wS hS; (try dsimp only at hS); go_simp <;> with_reducible rfl
                try simp only [Act.put, List.setIfInBounds_toArray, List.set_cons_zero, List.set_cons_succ]
                refine grow_take 12 (some 160) ?_ rfl rfl (by kernel_rfl) (fun _ _ _ h => h) (by kernel_rfl) hCalm ?_ ?_
                rotate_left
                · intro wS hS; (try dsimp only at hS); go_simp <;> with_reducible rfl
                try simp only [Act.put, List.setIfInBounds_toArray, List.set_cons_zero, List.set_cons_succ]
                refine grow_take 13 (some 161) ?_ rfl rfl (by kernel_rfl) (fun _ _ _ h => h) (by kernel_rfl) hCalm ?_ ?_
                rotate_left
                · intro wS hS; (try dsimp only at hS); go_simp <;> with_reducible rfl
                try simp only [Act.put, List.setIfInBounds_toArray, List.set_cons_zero, List.set_cons_succ]
                refine grow_take 14 (some 162) ?_ rfl rfl (by kernel_rfl) (fun _ _ _ h => h) (by kernel_rfl) hCalm ?_ ?_
                rotate_left
                · intro wS hS; (try dsimp only at hS); go_simp <;> with_reducible rfl
                try simp only [Act.put, List.setIfInBounds_toArray, List.set_cons_zero, List.set_cons_succ]
                refine grow_take 15 (some 163) ?_ rfl rfl (by kernel_rfl) (fun _ _ _ h => h) (by kernel_rfl) hCalm ?_ ?_
                rotate_left
                · intro wS hS; (try dsimp only at hS); go_simp <;> with_reducible rfl
                try simp only [Act.put, List.setIfInBounds_toArray, List.set_cons_zero, List.set_cons_succ]
                refine grow_take 16 (some 164) ?_ rfl rfl (by kernel_rfl) (fun _ _ _ h => h) (by kernel_rfl) hCalm ?_ ?_
                rotate_left
                · intro wS hS; (try dsimp only at hS); go_simp <;> with_reducible rfl
                try simp only [Act.put, List.setIfInBounds_toArray, List.set_cons_zero, List.set_cons_succ]
                refine grow_take 17 (some 165) ?_ rfl rfl (by kernel_rfl) (fun _ _ _ h => h) (by kernel_rfl) hCalm ?_ ?_
                rotate_left
                · intro wS hS; (try dsimp only at hS); go_simp <;> with_reducible rfl
                try simp only [Act.put, List.setIfInBounds_toArray, List.set_cons_zero, List.set_cons_succ]
                refine grow_take 18 (some 166) ?_ rfl rfl (by kernel_rfl) (fun _ _ _ h => h) (by kernel_rfl) hCalm ?_ ?_
                rotate_left
                · intro wS hS; (try dsimp only at hS); go_simp <;> with_reducible rfl
                try simp only [Act.put, List.setIfInBounds_toArray, List.set_cons_zero, List.set_cons_succ]
                refine grow_each [19] (by kernel_rfl) (by decide) ?_
                refine grow_cons 19 rfl (by kernel_rfl) (fun wA hA K hK => ?_) grow_nil
                obtain ⟨pQQ, hpQQ⟩ : ∃ b, b = wA.heap.size := ⟨_, rfl⟩
                have le_pQQ : um.heap.size ≤ pQQ := by rw [hpQQ]; exact hA.1.size
                have lt_PP_pQQ : pPP < pQQ := by rw [hpQQ]; exact hA.2.lt
                have hnew : Blk (wA.alloc (.cells #[.int .i64 0, .int .i64 0] 29)) pQQ 29 #[.int .i64 0, .int .i64 0] := by rw [hpQQ]; exact Blk.new wA _ _
                go_simp
                rw [← hpQQ]
                refine hK.out _ _ (fun w' => Below um.heap.size um w' ∧ Blk w' pPP 29 #[.int .i64 p.x, .int .i64 p.y] ∧ Blk w' pQQ 29 #[.int .i64 0, .int .i64 0]) ⟨fun w2 h2 => ⟨((S_5.out.below h2.1 S_5.out.lt).cell (i := 2) rfl), (iz_nat (HIL.out.below h2.1 (Nat.le_refl _)) HYY.out), (HDq.out w2 h2.1).1, (HDq.out w2 h2.1).2⟩, fun w2 w3 h2 hb2 => ⟨h2.1.trans (hb2.mono h2.1.size), h2.2.1.below hb2 h2.2.1.lt, h2.2.2.below hb2 h2.2.2.lt⟩⟩ ⟨hA.1.alloc hA.1.size _, hA.2.alloc _, hnew⟩ ?_
                clear hnew hpQQ hK K hA wA hCalm
                have hCalm : Calm (fun w' => w'.cell? ⟨v1.heap.size, 2, none⟩ = some (.slice (some ⟨b, o, none⟩) ds.length k1) ∧ w'.cell? ⟨bl, ol + i, none⟩ = some (.int .i64 (y : Nat)) ∧ w'.cell? ⟨b, o + y * 4, none⟩ = some (.int .i64 q.x) ∧ w'.cell? ⟨b, o + y * 4 + 1, none⟩ = some (.int .i64 q.y)) (fun w' => Below um.heap.size um w' ∧ Blk w' pPP 29 #[.int .i64 p.x, .int .i64 p.y] ∧ Blk w' pQQ 29 #[.int .i64 0, .int .i64 0]) := ⟨fun w2 h2 => ⟨((S_5.out.below h2.1 S_5.out.lt).cell (i := 2) rfl), (iz_nat (HIL.out.below h2.1 (Nat.le_refl _)) HYY.out), (HDq.out w2 h2.1).1, (HDq.out w2 h2.1).2⟩, fun w2 w3 h2 hb2 => ⟨h2.1.trans (hb2.mono h2.1.size), h2.2.1.below hb2 h2.2.1.lt, h2.2.2.below hb2 h2.2.2.lt⟩⟩
                try simp only [Act.put, List.setIfInBounds_toArray, List.set_cons_zero, List.set_cons_succ]
                refine grow_each [20] (by kernel_rfl) (by decide) ?_
                refine grow_cons 20 rfl (by kernel_rfl) (fun wA hA K hK => ?_) grow_nil
                have z0 := hA.2.2.cell (i := 0) (v := .int .i64 0) rfl; have f0 := hA.2.2.frozen 0
                have z1 := hA.2.2.cell (i := 1) (v := .int .i64 0) rfl; have f1 := hA.2.2.frozen 1
                go_simp
                refine hK.out _ _ (fun w' => Below um.heap.size um w' ∧ Blk w' pPP 29 #[.int .i64 p.x, .int .i64 p.y] ∧ Blk w' pQQ 29 #[.int .i64 q.x, .int .i64 q.y]) ⟨fun w2 h2 => ⟨((S_5.out.below h2.1 S_5.out.lt).cell (i := 2) rfl), (iz_nat (HIL.out.below h2.1 (Nat.le_refl _)) HYY.out), (HDq.out w2 h2.1).1, (HDq.out w2 h2.1).2⟩, fun w2 w3 h2 hb2 => ⟨h2.1.trans (hb2.mono h2.1.size), h2.2.1.below hb2 h2.2.1.lt, h2.2.2.below hb2 h2.2.2.lt⟩⟩ ⟨((hA.1.setCell (p := ⟨pQQ, 0, none⟩) (by show um.heap.size ≤ pQQ; omega) _).setCell (p := ⟨pQQ, 1, none⟩) (by show um.heap.size ≤ pQQ; omega) _), ((hA.2.1.far (p := ⟨pQQ, 0, none⟩) (by show pPP ≠ pQQ; omega) _).far (p := ⟨pQQ, 1, none⟩) (by show pPP ≠ pQQ; omega) _), ((hA.2.2.set 0 _).set 1 _)⟩ ?_
                clear z0 f0 z1 f1 hK K hA wA hCalm
                have hCalm : Calm (fun w' => w'.cell? ⟨v1.heap.size, 2, none⟩ = some (.slice (some ⟨b, o, none⟩) ds.length k1) ∧ w'.cell? ⟨bl, ol + i, none⟩ = some (.int .i64 (y : Nat)) ∧ w'.cell? ⟨b, o + y * 4, none⟩ = some (.int .i64 q.x) ∧ w'.cell? ⟨b, o + y * 4 + 1, none⟩ = some (.int .i64 q.y)) (fun w' => Below um.heap.size um w' ∧ Blk w' pPP 29 #[.int .i64 p.x, .int .i64 p.y] ∧ Blk w' pQQ 29 #[.int .i64 q.x, .int .i64 q.y]) := ⟨fun w2 h2 => ⟨((S_5.out.below h2.1 S_5.out.lt).cell (i := 2) rfl), (iz_nat (HIL.out.below h2.1 (Nat.le_refl _)) HYY.out), (HDq.out w2 h2.1).1, (HDq.out w2 h2.1).2⟩, fun w2 w3 h2 hb2 => ⟨h2.1.trans (hb2.mono h2.1.size), h2.2.1.below hb2 h2.2.1.lt, h2.2.2.below hb2 h2.2.2.lt⟩⟩
                try simp only [Act.put]
                refine grow_done (by kernel_rfl) (fun wA hA => ?_) _
                rename World => we
                have HU4 := Lib.hid hA.1; have HP2 := Lib.hid hA.2.1; have HQ2 := Lib.hid hA.2.2; clear hA hCalm HU3 HPP
                obtain ⟨x1, hx1⟩ : ∃ x1, x1 = x + 1 := ⟨_, rfl⟩
                have e6 : IntKind.i64.wrap ((x : Int) + 1) = (x1 : Int) := by have := HXY.out; have := HYN.out; have := HZL.out; rw [IntWalk.i64_in _ (by omega)]; omega
                have HX1 := Lib.hid hx1; clear hx1 s1 s2 s3 s4
                have yc := iz_nat (HIL.out.below HU4.out (Nat.le_refl _)) HX.out
                go_wp2_with fail
                clear yc e6 e5 q3 q4
                go_loopw [20, 24] (fun ss kv wr => ∃ (kk : Nat) (sb2 : Bool), ss = .bool sb2 ∧ kv = .int .i64 kk ∧ x < kk ∧ kk ≤ y ∧ (sb2 = true ↔ sb = true ∧ ∀ (n : Nat) (f : Dt), x < n → n < kk → ds[n]? = some f → NearP p.x p.y q.x q.y f.x f.y z) ∧ Below we.heap.size we wr) (fun _ kv _ => y - (intOf kv).toNat)
                case atStart => exact ⟨x1, sb, rfl, rfl, by have := HX1.out; omega, by have := HX1.out; have := HXY.out; omega, ⟨fun h => ⟨h, fun n f h1 h2 => absurd h2 (by have := HX1.out; omega)⟩, fun h => h.1⟩, Below.refl _ _⟩
                case round =>
                  rename World => wf
                  obtain ⟨kk, sb2, rfl, rfl, hk1, hk2, hsb2, hB⟩ := hrel
                  have HW := Lib.hid hB; have HSB2 := Lib.hid hsb2; have HKX := Lib.hid hk1; clear hB hsb2
                  have HUF : Hid (Below um.heap.size um wf) := Lib.hid (HU4.out.trans (HW.out.mono HU4.out.size))
                  by_cases hlt : kk < y
                  case neg =>
                    obtain rfl : kk = y := by omega
                    have hni : ¬ ((kk : Int) < (kk : Int)) := by omega
                    have yc := iz_nat (HIL.out.below HUF.out (Nat.le_refl _)) HYY.out
                    have q5 : (i : Int) + 1 ≤ 9223372036854775807 := by have := HLT.out; have := HLL.out; omega
                    clear hlt hk1 hk2
                    go_wp2_with fail
                    go_roundw
                    case rel => exact ⟨i + 1, sb2, rfl, by go_num, by omega, by have := HLT.out; omega, by
                      rw [HSB2.out, HSB.out]
                      constructor
                      · rintro ⟨h1, h2⟩ a u v ha hu hv
                        by_cases haj : a = j
                        · subst haj
                          rw [HX.out, Option.some.injEq] at hu
                          rw [← HJ.out, HYY.out, Option.some.injEq] at hv
                          subst hu; subst hv
                          intro n h3 h4 d e f hd he hf
                          rw [HGp.out, Option.some.injEq] at hd
                          rw [HGq.out, Option.some.injEq] at he
                          subst hd; subst he
                          exact h2 n f h3 h4 hf
                        · exact h1 a u v (by have := HJ.out; omega) hu hv
                      · intro h
                        exact ⟨fun a u v ha hu hv => h a u v (by omega) hu hv, fun n f h3 h4 hf => h j x kk (by have := HJ.out; omega) HX.out (by rw [← HJ.out]; exact HYY.out) n h3 h4 p q f HGp.out HGq.out hf⟩, HUF.out⟩
                    case measure => have := HLT.out; simp [intOf]; omega
                  case pos =>
                    have HKY := Lib.hid hlt
                    have hkn : kk < ds.length := by have := HYN.out; omega
                    obtain ⟨f, hf⟩ : ∃ d, d = ds[kk] := ⟨_, rfl⟩
                    have HGf : Hid (ds[kk]? = some f) := Lib.hid (by rw [hf]; exact List.getElem?_eq_getElem _)
                    have HDf : Hid (∀ W, Below um.heap.size um W → W.cell? ⟨b, o + kk * 4, none⟩ = some (.int .i64 f.x) ∧ W.cell? ⟨b, o + kk * 4 + 1, none⟩ = some (.int .i64 f.y)) := Lib.hid (fun W hb => by
                      have h9 := DS_5.out.at W hb kk hkn
                      rw [← hf] at h9
                      exact ⟨h9.1, h9.2.1⟩)
                    have yc := iz_nat (HIL.out.below HUF.out (Nat.le_refl _)) HYY.out
                    have k1_ : (0 : Int) ≤ (kk : Int) := by omega
                    have k2_ : (kk : Int) < (ds.length : Int) := by omega
                    have k3_ : (kk : Int) < (y : Int) := by omega
                    have q5 : (kk : Int) + 1 ≤ 9223372036854775807 := by have := HZL.out; omega
                    clear hf hlt hk1 hk2 hkn
                    go_upto_region 32 with fail
                    clear yc k3_
                    obtain ⟨nb, hnb⟩ : ∃ v : Bool, decide (NearP p.x p.y q.x q.y f.x f.y z) = v := ⟨_, rfl⟩
                    have HNR := Lib.hid (fun W => pnear_any p.x p.y q.x q.y f.x f.y z W); simp only [hnb] at HNR
                    have HNB := Lib.hid hnb; clear hnb
                    cases sb2 with
                    | false =>
                      refine wp_region_grow (S := (fun w' => w'.cell? ⟨v1.heap.size, 2, none⟩ = some (.slice (some ⟨b, o, none⟩) ds.length k1) ∧ w'.cell? ⟨pPP, 0, none⟩ = some (.int .i64 p.x) ∧ w'.cell? ⟨pPP, 1, none⟩ = some (.int .i64 p.y) ∧ w'.cell? ⟨pQQ, 0, none⟩ = some (.int .i64 q.x) ∧ w'.cell? ⟨pQQ, 1, none⟩ = some (.int .i64 q.y) ∧ w'.cell? ⟨b, o + kk * 4, none⟩ = some (.int .i64 f.x) ∧ w'.cell? ⟨b, o + kk * 4 + 1, none⟩ = some (.int .i64 f.y))) ((fun w' => Below we.heap.size we w')) (by kernel_rfl) (⟨fun w2 h2 => ⟨((S_5.out.below (HU4.out.trans (h2.mono HU4.out.size)) S_5.out.lt).cell (i := 2) rfl), ((HP2.out.below h2 HP2.out.lt).cell (i := 0) rfl), ((HP2.out.below h2 HP2.out.lt).cell (i := 1) rfl), ((HQ2.out.below h2 HQ2.out.lt).cell (i := 0) rfl), ((HQ2.out.below h2 HQ2.out.lt).cell (i := 1) rfl), (HDf.out w2 (HU4.out.trans (h2.mono HU4.out.size))).1, (HDf.out w2 (HU4.out.trans (h2.mono HU4.out.size))).2⟩, fun w2 w3 h2 hb2 => h2.trans (hb2.mono h2.size)⟩) (HW.out.drew) (fun hCalm => ?_)
                      refine grow_take 0 (some 181) ?_ rfl rfl (by kernel_rfl) (fun _ _ _ h => h) (by kernel_rfl) hCalm ?_ ?_
                      rotate_left
                      · intro wS hS; (try dsimp only at hS); go_simp <;> with_reducible rfl
                      try simp only [Act.put, List.setIfInBounds_toArray, List.set_cons_zero, List.set_cons_succ]
                      refine grow_take 1 (some 182) ?_ rfl rfl (by kernel_rfl) (fun _ _ _ h => h) (by kernel_rfl) hCalm ?_ ?_
                      rotate_left
                      · intro wS hS; (try dsimp only at hS); go_simp <;> with_reducible rfl
                      try simp only [Act.put, List.setIfInBounds_toArray, List.set_cons_zero, List.set_cons_succ]
                      refine grow_skip 2 (some 183) rfl rfl (by kernel_rfl) (fun _ _ _ h => h) (by kernel_rfl) hCalm ?_
                      try simp only [Act.put, List.setIfInBounds_toArray, List.set_cons_zero, List.set_cons_succ]
                      refine grow_skip 3 (some 184) rfl rfl (by kernel_rfl) (fun _ _ _ h => h) (by kernel_rfl) hCalm ?_
                      try simp only [Act.put, List.setIfInBounds_toArray, List.set_cons_zero, List.set_cons_succ]
                      refine grow_skip 4 (some 185) rfl rfl (by kernel_rfl) (fun _ _ _ h => h) (by kernel_rfl) hCalm ?_
                      try simp only [Act.put, List.setIfInBounds_toArray, List.set_cons_zero, List.set_cons_succ]
                      refine grow_skip 5 (some 186) rfl rfl (by kernel_rfl) (fun _ _ _ h => h) (by kernel_rfl) hCalm ?_
                      try simp only [Act.put, List.setIfInBounds_toArray, List.set_cons_zero, List.set_cons_succ]
                      refine grow_skip 6 (some 187) rfl rfl (by kernel_rfl) (fun _ _ _ h => h) (by kernel_rfl) hCalm ?_
                      try simp only [Act.put, List.setIfInBounds_toArray, List.set_cons_zero, List.set_cons_succ]
                      refine grow_skip 7 (some 188) rfl rfl (by kernel_rfl) (fun _ _ _ h => h) (by kernel_rfl) hCalm ?_
                      try simp only [Act.put, List.setIfInBounds_toArray, List.set_cons_zero, List.set_cons_succ]
                      refine grow_skip 8 (some 189) rfl rfl (by kernel_rfl) (fun _ _ _ h => h) (by kernel_rfl) hCalm ?_
                      try simp only [Act.put, List.setIfInBounds_toArray, List.set_cons_zero, List.set_cons_succ]
                      refine grow_skip 9 (some 190) rfl rfl (by kernel_rfl) (fun _ _ _ h => h) (by kernel_rfl) hCalm ?_
                      try simp only [Act.put, List.setIfInBounds_toArray, List.set_cons_zero, List.set_cons_succ]
                      refine grow_skip 10 (some 191) rfl rfl (by kernel_rfl) (fun _ _ _ h => h) (by kernel_rfl) hCalm ?_
                      try simp only [Act.put, List.setIfInBounds_toArray, List.set_cons_zero, List.set_cons_succ]
                      refine grow_skip 11 (some 192) rfl rfl (by kernel_rfl) (fun _ _ _ h => h) (by kernel_rfl) hCalm ?_
                      try simp only [Act.put, List.setIfInBounds_toArray, List.set_cons_zero, List.set_cons_succ]
                      refine grow_skip 12 (some 193) rfl rfl (by kernel_rfl) (fun _ _ _ h => h) (by kernel_rfl) hCalm ?_
                      try simp only [Act.put, List.setIfInBounds_toArray, List.set_cons_zero, List.set_cons_succ]
                      refine grow_skip 13 (some 194) rfl rfl (by kernel_rfl) (fun _ _ _ h => h) (by kernel_rfl) hCalm ?_
                      try simp only [Act.put, List.setIfInBounds_toArray, List.set_cons_zero, List.set_cons_succ]
                      refine grow_skip 14 (some 195) rfl rfl (by kernel_rfl) (fun _ _ _ h => h) (by kernel_rfl) hCalm ?_
                      try simp only [Act.put, List.setIfInBounds_toArray, List.set_cons_zero, List.set_cons_succ]
                      refine grow_skip 15 (some 196) rfl rfl (by kernel_rfl) (fun _ _ _ h => h) (by kernel_rfl) hCalm ?_
                      try simp only [Act.put, List.setIfInBounds_toArray, List.set_cons_zero, List.set_cons_succ]
                      refine grow_skip 16 (some 197) rfl rfl (by kernel_rfl) (fun _ _ _ h => h) (by kernel_rfl) hCalm ?_
                      try simp only [Act.put, List.setIfInBounds_toArray, List.set_cons_zero, List.set_cons_succ]
                      refine grow_skip 17 (some 198) rfl rfl (by kernel_rfl) (fun _ _ _ h => h) (by kernel_rfl) hCalm ?_
                      try simp only [Act.put, List.setIfInBounds_toArray, List.set_cons_zero, List.set_cons_succ]
                      refine grow_skip 18 (some 199) rfl rfl (by kernel_rfl) (fun _ _ _ h => h) (by kernel_rfl) hCalm ?_
                      try simp only [Act.put, List.setIfInBounds_toArray, List.set_cons_zero, List.set_cons_succ]
                      refine grow_take 19 (some 200) ?_ rfl rfl (by kernel_rfl) (fun _ _ _ h => h) (by kernel_rfl) hCalm ?_ ?_
                      rotate_left
                      · intro wS hS; (try dsimp only at hS); go_simp <;> with_reducible rfl
                      try simp only [Act.put, List.setIfInBounds_toArray, List.set_cons_zero, List.set_cons_succ]
                      refine grow_take 20 (some 20) ?_ rfl rfl (by kernel_rfl) (fun _ _ _ h => h) (by kernel_rfl) hCalm ?_ ?_
                      rotate_left
                      · intro wS hS; (try dsimp only at hS); go_simp <;> with_reducible rfl
                      try simp only [Act.put, List.setIfInBounds_toArray, List.set_cons_zero, List.set_cons_succ]
                      refine grow_done (by kernel_rfl) (fun wA hA => ?_) _
                      have HW2 := Lib.hid hA; clear hA hCalm
                      go_wp2_with fail
                      go_roundw
                      case rel => exact ⟨kk + 1, false, rfl, by go_num, by have := HKX.out; omega, by have := HKY.out; omega, ⟨fun h => (by cases h), fun h => by
                        have h0 := HSB2.out.2 ⟨h.1, fun n g h3 h4 hg => h.2 n g h3 (by omega) hg⟩
                        cases h0⟩, HW2.out⟩
                      case measure => have := HKY.out; simp [intOf]; omega
                    | true =>
                      refine wp_region_grow (S := (fun w' => w'.cell? ⟨v1.heap.size, 2, none⟩ = some (.slice (some ⟨b, o, none⟩) ds.length k1) ∧ w'.cell? ⟨pPP, 0, none⟩ = some (.int .i64 p.x) ∧ w'.cell? ⟨pPP, 1, none⟩ = some (.int .i64 p.y) ∧ w'.cell? ⟨pQQ, 0, none⟩ = some (.int .i64 q.x) ∧ w'.cell? ⟨pQQ, 1, none⟩ = some (.int .i64 q.y) ∧ w'.cell? ⟨b, o + kk * 4, none⟩ = some (.int .i64 f.x) ∧ w'.cell? ⟨b, o + kk * 4 + 1, none⟩ = some (.int .i64 f.y))) ((fun w' => Below we.heap.size we w')) (by kernel_rfl) (⟨fun w2 h2 => ⟨((S_5.out.below (HU4.out.trans (h2.mono HU4.out.size)) S_5.out.lt).cell (i := 2) rfl), ((HP2.out.below h2 HP2.out.lt).cell (i := 0) rfl), ((HP2.out.below h2 HP2.out.lt).cell (i := 1) rfl), ((HQ2.out.below h2 HQ2.out.lt).cell (i := 0) rfl), ((HQ2.out.below h2 HQ2.out.lt).cell (i := 1) rfl), (HDf.out w2 (HU4.out.trans (h2.mono HU4.out.size))).1, (HDf.out w2 (HU4.out.trans (h2.mono HU4.out.size))).2⟩, fun w2 w3 h2 hb2 => h2.trans (hb2.mono h2.size)⟩) (HW.out.drew) (fun hCalm => ?_)
                      refine grow_take 0 (some 181) ?_ rfl rfl (by kernel_rfl) (fun _ _ _ h => h) (by kernel_rfl) hCalm ?_ ?_
                      rotate_left
                      · intro wS hS; (try dsimp only at hS); go_simp <;> with_reducible rfl
                      try simp only [Act.put, List.setIfInBounds_toArray, List.set_cons_zero, List.set_cons_succ]
                      refine grow_take 1 (some 182) ?_ rfl rfl (by kernel_rfl) (fun _ _ _ h => h) (by kernel_rfl) hCalm ?_ ?_
                      rotate_left
                      · intro wS hS; (try dsimp only at hS); go_simp <;> with_reducible rfl
                      try simp only [Act.put, List.setIfInBounds_toArray, List.set_cons_zero, List.set_cons_succ]
                      refine grow_take 2 (some 183) ?_ rfl rfl (by kernel_rfl) (fun _ _ _ h => h) (by kernel_rfl) hCalm ?_ ?_
                      rotate_left
                      · intro wS hS; (try dsimp only at hS); go_simp <;> with_reducible rfl
                      try simp only [Act.put, List.setIfInBounds_toArray, List.set_cons_zero, List.set_cons_succ]
                      refine grow_take 3 (some 184) ?_ rfl rfl (by kernel_rfl) (fun _ _ _ h => h) (by kernel_rfl) hCalm ?_ ?_
                      rotate_left
                      · intro wS hS; (try dsimp only at hS); go_simp <;> with_reducible rfl
                      try simp only [Act.put, List.setIfInBounds_toArray, List.set_cons_zero, List.set_cons_succ]
                      refine grow_take 4 (some 185) ?_ rfl rfl (by kernel_rfl) (fun _ _ _ h => h) (by kernel_rfl) hCalm ?_ ?_
                      rotate_left
                      · intro wS hS; (try dsimp only at hS); go_simp <;> with_reducible rfl
                      try simp only [Act.put, List.setIfInBounds_toArray, List.set_cons_zero, List.set_cons_succ]
                      refine grow_take 5 (some 186) ?_ rfl rfl (by kernel_rfl) (fun _ _ _ h => h) (by kernel_rfl) hCalm ?_ ?_
                      rotate_left
                      · intro wS hS; (try dsimp only at hS); go_simp <;> with_reducible rfl
                      try simp only [Act.put, List.setIfInBounds_toArray, List.set_cons_zero, List.set_cons_succ]
                      refine grow_take 6 (some 187) ?_ rfl rfl (by kernel_rfl) (fun _ _ _ h => h) (by kernel_rfl) hCalm ?_ ?_
                      rotate_left
                      · intro wS hS; (try dsimp only at hS); go_simp <;> with_reducible rfl
                      try simp only [Act.put, List.setIfInBounds_toArray, List.set_cons_zero, List.set_cons_succ]
                      refine grow_take 7 (some 188) ?_ rfl rfl (by kernel_rfl) (fun _ _ _ h => h) (by kernel_rfl) hCalm ?_ ?_
                      rotate_left
                      · intro wS hS; (try dsimp only at hS); go_simp <;> with_reducible rfl
                      try simp only [Act.put, List.setIfInBounds_toArray, List.set_cons_zero, List.set_cons_succ]
                      refine grow_take 8 (some 189) ?_ rfl rfl (by kernel_rfl) (fun _ _ _ h => h) (by kernel_rfl) hCalm ?_ ?_
                      rotate_left
                      · intro wS hS; (try dsimp only at hS); go_simp <;> with_reducible rfl
                      try simp only [Act.put, List.setIfInBounds_toArray, List.set_cons_zero, List.set_cons_succ]
                      refine grow_take 9 (some 190) ?_ rfl rfl (by kernel_rfl) (fun _ _ _ h => h) (by kernel_rfl) hCalm ?_ ?_
                      rotate_left
                      · intro wS hS; (try dsimp only at hS); go_simp <;> with_reducible rfl
                      try simp only [Act.put, List.setIfInBounds_toArray, List.set_cons_zero, List.set_cons_succ]
                      refine grow_take 10 (some 191) ?_ rfl rfl (by kernel_rfl) (fun _ _ _ h => h) (by kernel_rfl) hCalm ?_ ?_
                      rotate_left
                      · intro wS hS; (try dsimp only at hS); go_simp <;> with_reducible rfl
                      try simp only [Act.put, List.setIfInBounds_toArray, List.set_cons_zero, List.set_cons_succ]
                      refine grow_take 11 (some 192) ?_ rfl rfl (by kernel_rfl) (fun _ _ _ h => h) (by kernel_rfl) hCalm ?_ ?_
                      rotate_left
                      · intro wS hS; (try dsimp only at hS); go_simp <;> with_reducible rfl
                      try simp only [Act.put, List.setIfInBounds_toArray, List.set_cons_zero, List.set_cons_succ]
                      refine grow_take 12 (some 193) ?_ rfl rfl (by kernel_rfl) (fun _ _ _ h => h) (by kernel_rfl) hCalm ?_ ?_
                      rotate_left
                      · intro wS hS; (try dsimp only at hS); go_simp <;> with_reducible rfl
                      try simp only [Act.put, List.setIfInBounds_toArray, List.set_cons_zero, List.set_cons_succ]
                      refine grow_take 13 (some 194) ?_ rfl rfl (by kernel_rfl) (fun _ _ _ h => h) (by kernel_rfl) hCalm ?_ ?_
                      rotate_left
                      · intro wS hS; (try dsimp only at hS); go_simp <;> with_reducible rfl
                      try simp only [Act.put, List.setIfInBounds_toArray, List.set_cons_zero, List.set_cons_succ]
                      refine grow_take 14 (some 195) ?_ rfl rfl (by kernel_rfl) (fun _ _ _ h => h) (by kernel_rfl) hCalm ?_ ?_
                      rotate_left
                      · intro wS hS; (try dsimp only at hS); go_simp <;> with_reducible rfl
                      try simp only [Act.put, List.setIfInBounds_toArray, List.set_cons_zero, List.set_cons_succ]
                      refine grow_take 15 (some 196) ?_ rfl rfl (by kernel_rfl) (fun _ _ _ h => h) (by kernel_rfl) hCalm ?_ ?_
                      rotate_left
                      · intro wS hS; (try dsimp only at hS); go_simp <;> with_reducible rfl
                      try simp only [Act.put, List.setIfInBounds_toArray, List.set_cons_zero, List.set_cons_succ]
                      refine grow_take 16 (some 197) ?_ rfl rfl (by kernel_rfl) (fun _ _ _ h => h) (by kernel_rfl) hCalm ?_ ?_
                      rotate_left
                      · intro wS hS; (try dsimp only at hS); go_simp <;> with_reducible rfl
                      try simp only [Act.put, List.setIfInBounds_toArray, List.set_cons_zero, List.set_cons_succ]
                      refine grow_take 17 (some 198) ?_ rfl rfl (by kernel_rfl) (fun _ _ _ h => h) (by kernel_rfl) hCalm ?_ ?_
                      rotate_left
                      · intro wS hS; (try dsimp only at hS); go_simp <;> with_reducible rfl
                      try simp only [Act.put, List.setIfInBounds_toArray, List.set_cons_zero, List.set_cons_succ]
                      refine grow_call 18 (some 199) (.bool nb) 37 [.tmp 183, .tmp 184, .tmp 197, .tmp 198] #[29, 29, 29, 3] rfl rfl (by kernel_rfl) (fun _ _ _ h => h) (by kernel_rfl) hCalm rfl (enters_of Try.func37 (by kernel_rfl) rfl) (fun wz _ => HNR.out wz) (by kernel_rfl) ?_
                      try simp only [Act.put, List.setIfInBounds_toArray, List.set_cons_zero, List.set_cons_succ]
                      refine grow_take 19 (some 200) ?_ rfl rfl (by kernel_rfl) (fun _ _ _ h => h) (by kernel_rfl) hCalm ?_ ?_
                      rotate_left
                      · intro wS hS; (try dsimp only at hS); go_simp <;> with_reducible rfl
                      try simp only [Act.put, List.setIfInBounds_toArray, List.set_cons_zero, List.set_cons_succ]
                      refine grow_take 20 (some 20) ?_ rfl rfl (by kernel_rfl) (fun _ _ _ h => h) (by kernel_rfl) hCalm ?_ ?_
                      rotate_left
                      · intro wS hS; (try dsimp only at hS); go_simp <;> with_reducible rfl
                      try simp only [Act.put, List.setIfInBounds_toArray, List.set_cons_zero, List.set_cons_succ]
                      refine grow_done (by kernel_rfl) (fun wA hA => ?_) _
                      have HW2 := Lib.hid hA; clear hA hCalm
                      go_wp2_with fail
                      go_roundw
                      case rel => exact ⟨kk + 1, nb, rfl, by go_num, by have := HKX.out; omega, by have := HKY.out; omega, by
                        constructor
                        · intro h
                          have h0 := (HSB2.out.1 (by simp))
                          refine ⟨h0.1, fun n g h3 h4 hg => ?_⟩
                          by_cases hnk : n = kk
                          · subst hnk
                            rw [HGf.out, Option.some.injEq] at hg
                            subst hg
                            exact of_decide_eq_true (HNB.out.trans h)
                          · exact h0.2 n g h3 (by omega) hg
                        · intro h
                          rw [← HNB.out]
                          exact decide_eq_true (h.2 kk f HKX.out (by omega) HGf.out), HW2.out⟩
                      case measure => have := HKY.out; simp [intOf]; omega
end Go.Proofs.Ytamogfcedkjmcaa
