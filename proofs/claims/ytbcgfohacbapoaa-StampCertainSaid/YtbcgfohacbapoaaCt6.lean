
/- The contract of the statement StampCertain: it answers true. Conditions: ints; the rows read. -/
import Derived.Test.YtbcgfohacbapoaaSn6
import Derived.Test.YtbcgfohacbapoaaPos6
import Derived.Test.YtbcgfohacbapoaaCe6
namespace Go.Proofs.Ytbcgfohacbapoaa
open Go.RowKit Go.Lib

theorem three_of : ∀ {zs : List Int}, zs.length = 3 → ∃ a b c, zs = [a, b, c]
  | [a, b, c], _ => ⟨a, b, c, rfl⟩
theorem lorder_say {l : List Sk} {ms : List Mt} {a b : Sm} (hc : IsClk l) (hm : MtOk l ms) (hf : Feas l ms) (ha : Told l a) (hb : Told l b) {A B : Option Addr} {c d : Nat} {w : World} (hA : Kz w A l) (hB : Mz w B ms) (hd : ms.length ≤ d) :
    Calls Try.prog 61 #[.slice A l.length c, .slice B ms.length d, .agg #[.int .i64 a.t, .int .i64 a.p, .int .i64 a.n], .agg #[.int .i64 b.t, .int .i64 b.p, .int .i64 b.n]] w fun e w' => e = .returned (.tuple #[.int .i64 (orN l ms a b), .int .i64 0]) ∧ Below w.heap.size w w' := by
  have h := porder_any l ms a b A B c d w hA (by have := hc.1; omega) hB (by have := hm.1; omega) hd
  rw [orR_eq ⟨⟨hc.ok, hm⟩, hf, ha, hb⟩] at h
  exact h
set_option maxRecDepth 100000 in
set_option maxHeartbeats 16000000 in
theorem certain_law (A : Option Addr) (n c : Nat) (B : Option Addr) (m d : Nat) (a0 a1 a2 b0 b1 b2 : Int) (w : World) (hA : Xz 2 w A n) (hz : n ≤ 9223372036854775807) (hB : Xz 3 w B m) (hy : m ≤ 9223372036854775807) (ha0 : (-9223372036854775808 ≤ a0 ∧ a0 ≤ 9223372036854775807)) (ha1 : (-9223372036854775808 ≤ a1 ∧ a1 ≤ 9223372036854775807)) (hb0 : (-9223372036854775808 ≤ b0 ∧ b0 ≤ 9223372036854775807)) (hb1 : (-9223372036854775808 ≤ b1 ∧ b1 ≤ 9223372036854775807)) :
    Calls Try.prog 9 #[.slice A n c, .slice B m d, .agg #[.int .i64 a0, .int .i64 a1, .int .i64 a2], .agg #[.int .i64 b0, .int .i64 b1, .int .i64 b2]] w fun e w' => e = .returned (.bool true) ∧ Below w.heap.size w w' := by
  have HCK := Lib.hid (fun W (hb : Below w.heap.size w W) => rclocks_any A n c W (hA.below hb (Nat.le_refl _)) hz)
  have HMK := Lib.hid (fun W (hb : Below w.heap.size w W) l A2 c2 hc hk => rmeets_any l A2 c2 B m d W hc hk (hB.below hb (Nat.le_refl _)) hy)
  obtain ⟨ta, hta, hPA⟩ := lpick_one a0 120 ha0 (by omega)
  obtain ⟨tb, htb, hPB⟩ := lpick_one b0 120 hb0 (by omega)
  have HPA := Lib.hid hPA; have HPB := Lib.hid hPB; have HTA := Lib.hid hta; have HTB := Lib.hid htb
  have HA1 := Lib.hid ha1; have HB1 := Lib.hid hb1
  clear hA hz hB hy ha0 ha1 hb0 hb1 hPA hPB hta htb
  have P_0 : Hid (Blk ((w.alloc (.cells #[.int .i64 a0, .int .i64 a1, .int .i64 a2] 70)).alloc (.cells #[.int .i64 b0, .int .i64 b1, .int .i64 b2] 70)) w.heap.size 70 #[.int .i64 a0, .int .i64 a1, .int .i64 a2]) := allocs_blk [(#[.int .i64 a0, .int .i64 a1, .int .i64 a2], 70), (#[.int .i64 b0, .int .i64 b1, .int .i64 b2], 70)] w 0 _ rfl
  have Q_0 : Hid (Blk ((w.alloc (.cells #[.int .i64 a0, .int .i64 a1, .int .i64 a2] 70)).alloc (.cells #[.int .i64 b0, .int .i64 b1, .int .i64 b2] 70)) (w.heap.size + 1) 70 #[.int .i64 b0, .int .i64 b1, .int .i64 b2]) := allocs_blk [(#[.int .i64 a0, .int .i64 a1, .int .i64 a2], 70), (#[.int .i64 b0, .int .i64 b1, .int .i64 b2], 70)] w 1 _ rfl
  have HB_0 : Hid (Below w.heap.size w ((w.alloc (.cells #[.int .i64 a0, .int .i64 a1, .int .i64 a2] 70)).alloc (.cells #[.int .i64 b0, .int .i64 b1, .int .i64 b2] 70))) := allocs_below [(#[.int .i64 a0, .int .i64 a1, .int .i64 a2], 70), (#[.int .i64 b0, .int .i64 b1, .int .i64 b2], 70)] w (Below.refl w.heap.size w) (Nat.le_refl _)
  go_enter Try.func9, Try.ntmps9
  go_wp2_with fail
  refine (sane6_any _).mono ?_
  rintro e v0 ⟨rfl, hb⟩
  have P_1 : Hid (Blk v0 w.heap.size 70 #[.int .i64 a0, .int .i64 a1, .int .i64 a2]) := Lib.hid (P_0.out.below hb P_0.out.lt)
  have Q_1 : Hid (Blk v0 (w.heap.size + 1) 70 #[.int .i64 b0, .int .i64 b1, .int .i64 b2]) := Lib.hid (Q_0.out.below hb Q_0.out.lt)
  have HB_1 : Hid (Below w.heap.size w v0) := Lib.hid (HB_0.out.trans (hb.mono HB_0.out.size))
  clear hb P_0 Q_0 HB_0
  go_wp2_with fail
  refine (HCK.out _ HB_1.out).mono ?_
  rintro e v1 ⟨⟨l, A2, c2, rfl, hck, hkz, -, -, -, -⟩, hb⟩
  have HC := Lib.hid hck; clear hck
  have FK_1 := Lib.hid hkz
  have FK_2 : Hid (Kz v1 A2 l) := Lib.hid FK_1.out
  clear FK_1
  have P_2 : Hid (Blk v1 w.heap.size 70 #[.int .i64 a0, .int .i64 a1, .int .i64 a2]) := Lib.hid (P_1.out.below hb P_1.out.lt)
  have Q_2 : Hid (Blk v1 (w.heap.size + 1) 70 #[.int .i64 b0, .int .i64 b1, .int .i64 b2]) := Lib.hid (Q_1.out.below hb Q_1.out.lt)
  have HB_2 : Hid (Below w.heap.size w v1) := Lib.hid (HB_1.out.trans (hb.mono HB_1.out.size))
  clear hb P_1 Q_1 HB_1
  go_wp2_with fail
  refine (HMK.out _ HB_2.out l A2 c2 HC.out FK_2.out).mono ?_
  rintro e v2 ⟨⟨ms, B2, d2, rfl, hms, hmz, hmd, -, -⟩, hb⟩
  have HM := Lib.hid hms; have HMD := Lib.hid hmd; clear hms hmd
  have FM_2 := Lib.hid hmz
  have FK_3 : Hid (Kz v2 A2 l) := Lib.hid (FK_2.out.below hb (Nat.le_refl _))
  have FM_3 : Hid (Mz v2 B2 ms) := Lib.hid FM_2.out
  clear FK_2 FM_2
  have P_3 : Hid (Blk v2 w.heap.size 70 #[.int .i64 a0, .int .i64 a1, .int .i64 a2]) := Lib.hid (P_2.out.below hb P_2.out.lt)
  have Q_3 : Hid (Blk v2 (w.heap.size + 1) 70 #[.int .i64 b0, .int .i64 b1, .int .i64 b2]) := Lib.hid (Q_2.out.below hb Q_2.out.lt)
  have HB_3 : Hid (Below w.heap.size w v2) := Lib.hid (HB_2.out.trans (hb.mono HB_2.out.size))
  clear hb P_2 Q_2 HB_2
  by_cases hf : Feas l ms
  case neg =>
    have HT := Lib.hid (ptight_bad l ms A2 B2 c2 d2 _ FK_3.out (by have := HC.out.1; omega) FM_3.out (by have := HM.out.1; omega) HMD.out ⟨HC.out.ok, HM.out.ok⟩ hf); clear hf
    go_wp2_with fail
    refine (HT.out).mono ?_
    rintro e v3 ⟨⟨k, -, rfl, -, -⟩, hb⟩
    clear HT
    have FK_4 : Hid (Kz v3 A2 l) := Lib.hid (FK_3.out.below hb (Nat.le_refl _))
    have FM_4 : Hid (Mz v3 B2 ms) := Lib.hid (FM_3.out.below hb (Nat.le_refl _))
    clear FK_3 FM_3
    have P_4 : Hid (Blk v3 w.heap.size 70 #[.int .i64 a0, .int .i64 a1, .int .i64 a2]) := Lib.hid (P_3.out.below hb P_3.out.lt)
    have Q_4 : Hid (Blk v3 (w.heap.size + 1) 70 #[.int .i64 b0, .int .i64 b1, .int .i64 b2]) := Lib.hid (Q_3.out.below hb Q_3.out.lt)
    have HB_4 : Hid (Below w.heap.size w v3) := Lib.hid (HB_3.out.trans (hb.mono HB_3.out.size))
    clear hb P_3 Q_3 HB_3
    have q0 : (0 : Int) ≤ (k : Int) := by omega
    have hundef := un_none
    go_wp2_with fail
    go_ret
    exact ⟨rfl, HB_4.out⟩
  case pos =>
    have HT := Lib.hid (ptight_ok l ms A2 B2 c2 d2 _ FK_3.out (by have := HC.out.1; omega) FM_3.out (by have := HM.out.1; omega) ⟨HC.out.ok, HM.out.ok⟩ hf); have HFE := Lib.hid hf; clear hf
    go_wp2_with fail
    refine (HT.out).mono ?_
    rintro e v3 ⟨⟨out, g, rfl, htt, hkz⟩, hb⟩
    have HTT := Lib.hid htt; clear htt HT
    have FT_3 := Lib.hid hkz
    have FK_4 : Hid (Kz v3 A2 l) := Lib.hid (FK_3.out.below hb (Nat.le_refl _))
    have FM_4 : Hid (Mz v3 B2 ms) := Lib.hid (FM_3.out.below hb (Nat.le_refl _))
    have FT_4 : Hid (Kz v3 (some ⟨g, 0, none⟩) out) := Lib.hid FT_3.out
    clear FK_3 FM_3 FT_3
    have P_4 : Hid (Blk v3 w.heap.size 70 #[.int .i64 a0, .int .i64 a1, .int .i64 a2]) := Lib.hid (P_3.out.below hb P_3.out.lt)
    have Q_4 : Hid (Blk v3 (w.heap.size + 1) 70 #[.int .i64 b0, .int .i64 b1, .int .i64 b2]) := Lib.hid (Q_3.out.below hb Q_3.out.lt)
    have HB_4 : Hid (Below w.heap.size w v3) := Lib.hid (HB_3.out.trans (hb.mono HB_3.out.size))
    clear hb P_3 Q_3 HB_3
    have HOL := Lib.hid HTT.out.len
    obtain ⟨nl, hnl⟩ : ∃ n, n = l.length := ⟨_, rfl⟩
    have HNL := Lib.hid hnl
    rw [show out.length = nl from by rw [HOL.out, hnl], ← hnl]
    clear hnl
    by_cases h0 : nl = 0
    case pos =>
      subst h0
      have hundef := un_none
      go_wp2_with fail
      go_ret
      exact ⟨rfl, HB_4.out⟩
    case neg =>
      have d1 : ((nl : Int) == 0) = false := by rw [beq_eq_false_iff_ne]; omega
      have d2_ : (nl == 0) = false := by rw [beq_eq_false_iff_ne]; exact h0
      have HN0 : Hid (0 < nl ∧ nl ≤ 6) := Lib.hid (by have := HC.out.1; have := HNL.out; omega)
      obtain ⟨i, hi, hPI⟩ := lpick_one a1 (nl : Int) HA1.out (by have := HN0.out; omega)
      obtain ⟨i, rfl⟩ : ∃ kn : Nat, i = (kn : Int) := ⟨i.toNat, by omega⟩
      obtain ⟨k, hk, hPK⟩ := lpick_one b1 (nl : Int) HB1.out (by have := HN0.out; omega)
      obtain ⟨k, rfl⟩ : ∃ kn : Nat, k = (kn : Int) := ⟨k.toNat, by omega⟩
      have HPI := Lib.hid hPI; have HPK := Lib.hid hPK
      have hio : i < out.length := by have := HOL.out; have := HNL.out; omega
      have hko : k < out.length := by have := HOL.out; have := HNL.out; omega
      have HIK : Hid (i < nl ∧ k < nl) := Lib.hid (by omega)
      have HX := Lib.hid (fun W (ht : Kz W (some ⟨g, 0, none⟩) out) => by have h := Kz.cell ht (Below.refl W.heap.size W) (Nat.le_refl _) hio; rw [Nat.zero_add] at h; exact h)
      have HY := Lib.hid (fun W (ht : Kz W (some ⟨g, 0, none⟩) out) => by have h := Kz.cell ht (Below.refl W.heap.size W) (Nat.le_refl _) hko; rw [Nat.zero_add] at h; exact h)
      have hp1 := HTT.out.pers HC.out hio; have hp2 := HTT.out.pers HC.out hko
      have HSB := Lib.hid (fun V hV s ok h => sp_between HTT.out HC.out hio hko (V := V) hV (s := s) (ok := ok) h)
      have HBI := Lib.hid (fun A hA => HTT.out.2.2.2 A hA _ (List.getElem_mem hio)); have HBK := Lib.hid (fun A hA => HTT.out.2.2.2 A hA _ (List.getElem_mem hko))
      have hin1 := HTT.out.in_ HC.out hio (by have := HNL.out; omega); have hin2 := HTT.out.in_ HC.out hko (by have := HNL.out; omega)
      have hcb1 := HC.out.2 i (by have := HNL.out; omega); have hcb2 := HC.out.2 k (by have := HNL.out; omega)
      have hbi : (-30 ≤ out[i].lo ∧ out[i].hi ≤ 68) ∧ out[i].lo ≤ out[i].hi := by omega
      have hbk : (-30 ≤ out[k].lo ∧ out[k].hi ≤ 68) ∧ out[k].lo ≤ out[k].hi := by omega
      clear hin1 hin2 hcb1 hcb2
      rw [hp1] at HBI; rw [hp2] at HBK
      obtain ⟨x, hx⟩ : ∃ x, x = out[i] := ⟨_, rfl⟩
      obtain ⟨y, hy⟩ : ∃ x, x = out[k] := ⟨_, rfl⟩
      rw [← hx] at HX hp1 HSB HBI hbi; rw [← hy] at HY hp2 HSB HBK hbk
      clear hx hy
      obtain ⟨xp, xlo, xhi⟩ := x
      obtain ⟨yp, ylo, yhi⟩ := y
      dsimp only at HX HY hp1 hp2 HSB HBI HBK hbi hbk
      subst hp1; subst hp2
      have HIB := Lib.hid hbi; have HKB := Lib.hid hbk
      have HTS : Hid (Told l ⟨ta, i, 1⟩ ∧ Told l ⟨tb, k, 2⟩) := Lib.hid (by
        have key : ∀ j : Nat, j < l.length → (fnd l (j : Int)).isSome = true := fun j hj => fnd_isSome.2 (List.mem_map.2 ⟨l[j], List.getElem_mem hj, (HC.out.2 j hj).1⟩)
        have h1 := HTA.out; have h2 := HTB.out; have h3 := HN0.out; have h4 := HNL.out; have h5 := HIK.out
        exact ⟨⟨key i (by omega), by unfold Sm.ok; dsimp only; omega⟩, ⟨key k (by omega), by unfold Sm.ok; dsimp only; omega⟩⟩)
      have q1 : (0 : Int) ≤ (i : Int) := by omega
      have q2 : (i : Int) < (nl : Int) := by omega
      have q3 : (0 : Int) ≤ (k : Int) := by omega
      have q4 : (k : Int) < (nl : Int) := by omega
      clear h0 hi hk hPI hPK hio hko hbi hbk
      have yy0 := P_4.out.cell (i := 0) (v := .int .i64 a0) rfl; have yy1 := P_4.out.cell (i := 1) (v := .int .i64 a1) rfl; have yy2 := P_4.out.cell (i := 2) (v := .int .i64 a2) rfl
      go_wp2_with fail
      refine (HPI.out _).mono ?_
      rintro e v4 ⟨rfl, hb⟩
      clear d1 d2_ HPI
      clear yy0 yy1 yy2
      have FK_5 : Hid (Kz v4 A2 l) := Lib.hid (FK_4.out.below hb (Nat.le_refl _))
      have FM_5 : Hid (Mz v4 B2 ms) := Lib.hid (FM_4.out.below hb (Nat.le_refl _))
      have FT_5 : Hid (Kz v4 (some ⟨g, 0, none⟩) out) := Lib.hid (FT_4.out.below hb (Nat.le_refl _))
      clear FK_4 FM_4 FT_4
      have P_5 : Hid (Blk v4 w.heap.size 70 #[.int .i64 a0, .int .i64 a1, .int .i64 a2]) := Lib.hid (P_4.out.below hb P_4.out.lt)
      have Q_5 : Hid (Blk v4 (w.heap.size + 1) 70 #[.int .i64 b0, .int .i64 b1, .int .i64 b2]) := Lib.hid (Q_4.out.below hb Q_4.out.lt)
      have HB_5 : Hid (Below w.heap.size w v4) := Lib.hid (HB_4.out.trans (hb.mono HB_4.out.size))
      clear hb P_4 Q_4 HB_4
      have yy0 := Q_5.out.cell (i := 0) (v := .int .i64 b0) rfl; have yy1 := Q_5.out.cell (i := 1) (v := .int .i64 b1) rfl; have yy2 := Q_5.out.cell (i := 2) (v := .int .i64 b2) rfl
      go_wp2_with fail
      refine (HPK.out _).mono ?_
      rintro e v5 ⟨rfl, hb⟩
      clear HPK
      clear yy0 yy1 yy2
      have FK_6 : Hid (Kz v5 A2 l) := Lib.hid (FK_5.out.below hb (Nat.le_refl _))
      have FM_6 : Hid (Mz v5 B2 ms) := Lib.hid (FM_5.out.below hb (Nat.le_refl _))
      have FT_6 : Hid (Kz v5 (some ⟨g, 0, none⟩) out) := Lib.hid (FT_5.out.below hb (Nat.le_refl _))
      clear FK_5 FM_5 FT_5
      have P_6 : Hid (Blk v5 w.heap.size 70 #[.int .i64 a0, .int .i64 a1, .int .i64 a2]) := Lib.hid (P_5.out.below hb P_5.out.lt)
      have Q_6 : Hid (Blk v5 (w.heap.size + 1) 70 #[.int .i64 b0, .int .i64 b1, .int .i64 b2]) := Lib.hid (Q_5.out.below hb Q_5.out.lt)
      have HB_6 : Hid (Below w.heap.size w v5) := Lib.hid (HB_5.out.trans (hb.mono HB_5.out.size))
      clear hb P_5 Q_5 HB_5
      have h_ := trivial; clear h_
      go_wp2_with fail
      refine wp_region_grow (S := (fun w' => w'.cell? ⟨w.heap.size, 0, none⟩ = some (.int .i64 a0) ∧ w'.cell? ⟨g, i * 3, none⟩ = some (.int .i64 (i : Nat)) ∧ w'.cell? ⟨g, i * 3 + 1, none⟩ = some (.int .i64 xlo) ∧ w'.cell? ⟨g, i * 3 + 2, none⟩ = some (.int .i64 xhi))) ((fun w' => Below v5.heap.size v5 w')) (by kernel_rfl) (⟨fun w2 h2 => ⟨((P_6.out.below h2 P_6.out.lt).cell (i := 0) rfl), ((fun hq => HX.out _ (FT_6.out.below hq (Nat.le_refl _)) : Below v5.heap.size _ _ → _) h2).1, ((fun hq => HX.out _ (FT_6.out.below hq (Nat.le_refl _)) : Below v5.heap.size _ _ → _) h2).2.1, ((fun hq => HX.out _ (FT_6.out.below hq (Nat.le_refl _)) : Below v5.heap.size _ _ → _) h2).2.2⟩, fun w2 w3 h2 hb2 => h2.trans (hb2.mono h2.size)⟩) ((Below.refl v5.heap.size v5).drew) (fun hCalm => ?_)
      refine grow_take 0 (some 80) ?_ rfl rfl (by kernel_rfl) (fun _ _ _ h => h) (by kernel_rfl) hCalm ?_ ?_
      rotate_left
      · intro wS hS; (try dsimp only at hS); go_simp <;> with_reducible rfl
      try simp only [Act.put, List.setIfInBounds_toArray, List.set_cons_zero, List.set_cons_succ]
      refine grow_take 1 (some 81) ?_ rfl rfl (by kernel_rfl) (fun _ _ _ h => h) (by kernel_rfl) hCalm ?_ ?_
      rotate_left
      · intro wS hS; (try dsimp only at hS); go_simp <;> with_reducible rfl
      try simp only [Act.put, List.setIfInBounds_toArray, List.set_cons_zero, List.set_cons_succ]
      refine grow_call 2 (some 82) (.int .i64 ta) 45 [.tmp 81, .const (Go.Value.int Go.IntKind.i64 120)] #[3, 3] rfl rfl (by kernel_rfl) (fun _ _ _ h => h) (by kernel_rfl) hCalm rfl (enters_of Try.func45 (by kernel_rfl) rfl) (fun wz _ => HPA.out wz) (by kernel_rfl) ?_
      try simp only [Act.put, List.setIfInBounds_toArray, List.set_cons_zero, List.set_cons_succ]
      refine grow_take 3 (some 83) ?_ rfl rfl (by kernel_rfl) (fun _ _ _ h => h) (by kernel_rfl) hCalm ?_ ?_
      rotate_left
      · intro wS hS; (try dsimp only at hS); go_simp <;> with_reducible rfl
      try simp only [Act.put, List.setIfInBounds_toArray, List.set_cons_zero, List.set_cons_succ]
      refine grow_take 4 (some 84) ?_ rfl rfl (by kernel_rfl) (fun _ _ _ h => h) (by kernel_rfl) hCalm ?_ ?_
      rotate_left
      · intro wS hS; (try dsimp only at hS); go_simp <;> with_reducible rfl
      try simp only [Act.put, List.setIfInBounds_toArray, List.set_cons_zero, List.set_cons_succ]
      refine grow_take 5 (some 85) ?_ rfl rfl (by kernel_rfl) (fun _ _ _ h => h) (by kernel_rfl) hCalm ?_ ?_
      rotate_left
      · intro wS hS; (try dsimp only at hS); go_simp <;> with_reducible rfl
      try simp only [Act.put, List.setIfInBounds_toArray, List.set_cons_zero, List.set_cons_succ]
      refine grow_take 6 (some 86) ?_ rfl rfl (by kernel_rfl) (fun _ _ _ h => h) (by kernel_rfl) hCalm ?_ ?_
      rotate_left
      · intro wS hS; (try dsimp only at hS); go_simp <;> with_reducible rfl
      try simp only [Act.put, List.setIfInBounds_toArray, List.set_cons_zero, List.set_cons_succ]
      refine grow_take 7 (some 87) ?_ rfl rfl (by kernel_rfl) (fun _ _ _ h => h) (by kernel_rfl) hCalm ?_ ?_
      rotate_left
      · intro wS hS; (try dsimp only at hS); go_simp <;> with_reducible rfl
      try simp only [Act.put, List.setIfInBounds_toArray, List.set_cons_zero, List.set_cons_succ]
      refine grow_take 8 (some 88) ?_ rfl rfl (by kernel_rfl) (fun _ _ _ h => h) (by kernel_rfl) hCalm ?_ ?_
      rotate_left
      · intro wS hS; (try dsimp only at hS); go_simp <;> with_reducible rfl
      try simp only [Act.put, List.setIfInBounds_toArray, List.set_cons_zero, List.set_cons_succ]
      refine grow_each [9] (by kernel_rfl) (by decide) ?_
      refine grow_cons 9 rfl (by kernel_rfl) (fun wA hA K hK => ?_) grow_nil
      obtain ⟨pX, hpX⟩ : ∃ b, b = wA.heap.size := ⟨_, rfl⟩
      have le_pX : v5.heap.size ≤ pX := by rw [hpX]; exact hA.size
      have hnew : Blk (wA.alloc (.cells #[.int .i64 0, .int .i64 0, .int .i64 0] 64)) pX 64 #[.int .i64 0, .int .i64 0, .int .i64 0] := by rw [hpX]; exact Blk.new wA _ _
      go_simp
      rw [← hpX]
      refine hK.out _ _ (fun w' => Below v5.heap.size v5 w' ∧ Blk w' pX 64 #[.int .i64 0, .int .i64 0, .int .i64 0]) ⟨fun w2 h2 => ⟨((P_6.out.below h2.1 P_6.out.lt).cell (i := 0) rfl), ((fun hq => HX.out _ (FT_6.out.below hq (Nat.le_refl _)) : Below v5.heap.size _ _ → _) h2.1).1, ((fun hq => HX.out _ (FT_6.out.below hq (Nat.le_refl _)) : Below v5.heap.size _ _ → _) h2.1).2.1, ((fun hq => HX.out _ (FT_6.out.below hq (Nat.le_refl _)) : Below v5.heap.size _ _ → _) h2.1).2.2⟩, fun w2 w3 h2 hb2 => ⟨h2.1.trans (hb2.mono h2.1.size), h2.2.below hb2 h2.2.lt⟩⟩ ⟨hA.alloc hA.size _, hnew⟩ ?_
      clear hnew hpX hK K hA wA hCalm
      have hCalm : Calm (fun w' => w'.cell? ⟨w.heap.size, 0, none⟩ = some (.int .i64 a0) ∧ w'.cell? ⟨g, i * 3, none⟩ = some (.int .i64 (i : Nat)) ∧ w'.cell? ⟨g, i * 3 + 1, none⟩ = some (.int .i64 xlo) ∧ w'.cell? ⟨g, i * 3 + 2, none⟩ = some (.int .i64 xhi)) (fun w' => Below v5.heap.size v5 w' ∧ Blk w' pX 64 #[.int .i64 0, .int .i64 0, .int .i64 0]) := ⟨fun w2 h2 => ⟨((P_6.out.below h2.1 P_6.out.lt).cell (i := 0) rfl), ((fun hq => HX.out _ (FT_6.out.below hq (Nat.le_refl _)) : Below v5.heap.size _ _ → _) h2.1).1, ((fun hq => HX.out _ (FT_6.out.below hq (Nat.le_refl _)) : Below v5.heap.size _ _ → _) h2.1).2.1, ((fun hq => HX.out _ (FT_6.out.below hq (Nat.le_refl _)) : Below v5.heap.size _ _ → _) h2.1).2.2⟩, fun w2 w3 h2 hb2 => ⟨h2.1.trans (hb2.mono h2.1.size), h2.2.below hb2 h2.2.lt⟩⟩
      try simp only [Act.put, List.setIfInBounds_toArray, List.set_cons_zero, List.set_cons_succ]
      refine grow_each [10] (by kernel_rfl) (by decide) ?_
      refine grow_cons 10 rfl (by kernel_rfl) (fun wA hA K hK => ?_) grow_nil
      have z0 := hA.2.cell (i := 0) (v := .int .i64 0) rfl; have f0 := hA.2.frozen 0
      have z1 := hA.2.cell (i := 1) (v := .int .i64 0) rfl; have f1 := hA.2.frozen 1
      have z2 := hA.2.cell (i := 2) (v := .int .i64 0) rfl; have f2 := hA.2.frozen 2
      go_simp
      refine hK.out _ _ (fun w' => Below v5.heap.size v5 w' ∧ Blk w' pX 64 #[.int .i64 ta, .int .i64 (i : Nat), .int .i64 1]) ⟨fun w2 h2 => ⟨((P_6.out.below h2.1 P_6.out.lt).cell (i := 0) rfl), ((fun hq => HX.out _ (FT_6.out.below hq (Nat.le_refl _)) : Below v5.heap.size _ _ → _) h2.1).1, ((fun hq => HX.out _ (FT_6.out.below hq (Nat.le_refl _)) : Below v5.heap.size _ _ → _) h2.1).2.1, ((fun hq => HX.out _ (FT_6.out.below hq (Nat.le_refl _)) : Below v5.heap.size _ _ → _) h2.1).2.2⟩, fun w2 w3 h2 hb2 => ⟨h2.1.trans (hb2.mono h2.1.size), h2.2.below hb2 h2.2.lt⟩⟩ ⟨(((hA.1.setCell (p := ⟨pX, 0, none⟩) (by show v5.heap.size ≤ pX; omega) _).setCell (p := ⟨pX, 1, none⟩) (by show v5.heap.size ≤ pX; omega) _).setCell (p := ⟨pX, 2, none⟩) (by show v5.heap.size ≤ pX; omega) _), (((hA.2.set 0 _).set 1 _).set 2 _)⟩ ?_
      clear z0 f0 z1 f1 z2 f2 hK K hA wA hCalm
      have hCalm : Calm (fun w' => w'.cell? ⟨w.heap.size, 0, none⟩ = some (.int .i64 a0) ∧ w'.cell? ⟨g, i * 3, none⟩ = some (.int .i64 (i : Nat)) ∧ w'.cell? ⟨g, i * 3 + 1, none⟩ = some (.int .i64 xlo) ∧ w'.cell? ⟨g, i * 3 + 2, none⟩ = some (.int .i64 xhi)) (fun w' => Below v5.heap.size v5 w' ∧ Blk w' pX 64 #[.int .i64 ta, .int .i64 (i : Nat), .int .i64 1]) := ⟨fun w2 h2 => ⟨((P_6.out.below h2.1 P_6.out.lt).cell (i := 0) rfl), ((fun hq => HX.out _ (FT_6.out.below hq (Nat.le_refl _)) : Below v5.heap.size _ _ → _) h2.1).1, ((fun hq => HX.out _ (FT_6.out.below hq (Nat.le_refl _)) : Below v5.heap.size _ _ → _) h2.1).2.1, ((fun hq => HX.out _ (FT_6.out.below hq (Nat.le_refl _)) : Below v5.heap.size _ _ → _) h2.1).2.2⟩, fun w2 w3 h2 hb2 => ⟨h2.1.trans (hb2.mono h2.1.size), h2.2.below hb2 h2.2.lt⟩⟩
      try simp only [Act.put]
      refine grow_done (by kernel_rfl) (fun wA hA => ?_) _
      have hb := hA.1; have hbl := hA.2; clear hA
      rename World => v96
      have FK_7 : Hid (Kz v96 A2 l) := Lib.hid (FK_6.out.below hb (Nat.le_refl _))
      have FM_7 : Hid (Mz v96 B2 ms) := Lib.hid (FM_6.out.below hb (Nat.le_refl _))
      have FT_7 : Hid (Kz v96 (some ⟨g, 0, none⟩) out) := Lib.hid (FT_6.out.below hb (Nat.le_refl _))
      clear FK_6 FM_6 FT_6
      have P_7 : Hid (Blk v96 w.heap.size 70 #[.int .i64 a0, .int .i64 a1, .int .i64 a2]) := Lib.hid (P_6.out.below hb P_6.out.lt)
      have Q_7 : Hid (Blk v96 (w.heap.size + 1) 70 #[.int .i64 b0, .int .i64 b1, .int .i64 b2]) := Lib.hid (Q_6.out.below hb Q_6.out.lt)
      have HB_7 : Hid (Below w.heap.size w v96) := Lib.hid (HB_6.out.trans (hb.mono HB_6.out.size))
      clear hb P_6 Q_6 HB_6
      have X_7 : Hid (Blk v96 pX 64 #[.int .i64 ta, .int .i64 (i : Nat), .int .i64 1]) := Lib.hid hbl; clear hbl
      go_wp2_with fail
      refine wp_region_grow (S := (fun w' => w'.cell? ⟨w.heap.size + 1, 0, none⟩ = some (.int .i64 b0) ∧ w'.cell? ⟨g, k * 3, none⟩ = some (.int .i64 (k : Nat)) ∧ w'.cell? ⟨g, k * 3 + 1, none⟩ = some (.int .i64 ylo) ∧ w'.cell? ⟨g, k * 3 + 2, none⟩ = some (.int .i64 yhi))) ((fun w' => Below v96.heap.size v96 w')) (by kernel_rfl) (⟨fun w2 h2 => ⟨((Q_7.out.below h2 Q_7.out.lt).cell (i := 0) rfl), ((fun hq => HY.out _ (FT_7.out.below hq (Nat.le_refl _)) : Below v96.heap.size _ _ → _) h2).1, ((fun hq => HY.out _ (FT_7.out.below hq (Nat.le_refl _)) : Below v96.heap.size _ _ → _) h2).2.1, ((fun hq => HY.out _ (FT_7.out.below hq (Nat.le_refl _)) : Below v96.heap.size _ _ → _) h2).2.2⟩, fun w2 w3 h2 hb2 => h2.trans (hb2.mono h2.size)⟩) ((Below.refl v96.heap.size v96).drew) (fun hCalm => ?_)
      refine grow_take 0 (some 89) ?_ rfl rfl (by kernel_rfl) (fun _ _ _ h => h) (by kernel_rfl) hCalm ?_ ?_
      rotate_left
      · intro wS hS; (try dsimp only at hS); go_simp <;> with_reducible rfl
      try simp only [Act.put, List.setIfInBounds_toArray, List.set_cons_zero, List.set_cons_succ]
      refine grow_take 1 (some 90) ?_ rfl rfl (by kernel_rfl) (fun _ _ _ h => h) (by kernel_rfl) hCalm ?_ ?_
      rotate_left
      · intro wS hS; (try dsimp only at hS); go_simp <;> with_reducible rfl
      try simp only [Act.put, List.setIfInBounds_toArray, List.set_cons_zero, List.set_cons_succ]
      refine grow_call 2 (some 91) (.int .i64 tb) 45 [.tmp 90, .const (Go.Value.int Go.IntKind.i64 120)] #[3, 3] rfl rfl (by kernel_rfl) (fun _ _ _ h => h) (by kernel_rfl) hCalm rfl (enters_of Try.func45 (by kernel_rfl) rfl) (fun wz _ => HPB.out wz) (by kernel_rfl) ?_
      try simp only [Act.put, List.setIfInBounds_toArray, List.set_cons_zero, List.set_cons_succ]
      refine grow_take 3 (some 92) ?_ rfl rfl (by kernel_rfl) (fun _ _ _ h => h) (by kernel_rfl) hCalm ?_ ?_
      rotate_left
      · intro wS hS; (try dsimp only at hS); go_simp <;> with_reducible rfl
      try simp only [Act.put, List.setIfInBounds_toArray, List.set_cons_zero, List.set_cons_succ]
      refine grow_take 4 (some 93) ?_ rfl rfl (by kernel_rfl) (fun _ _ _ h => h) (by kernel_rfl) hCalm ?_ ?_
      rotate_left
      · intro wS hS; (try dsimp only at hS); go_simp <;> with_reducible rfl
      try simp only [Act.put, List.setIfInBounds_toArray, List.set_cons_zero, List.set_cons_succ]
      refine grow_take 5 (some 94) ?_ rfl rfl (by kernel_rfl) (fun _ _ _ h => h) (by kernel_rfl) hCalm ?_ ?_
      rotate_left
      · intro wS hS; (try dsimp only at hS); go_simp <;> with_reducible rfl
      try simp only [Act.put, List.setIfInBounds_toArray, List.set_cons_zero, List.set_cons_succ]
      refine grow_take 6 (some 95) ?_ rfl rfl (by kernel_rfl) (fun _ _ _ h => h) (by kernel_rfl) hCalm ?_ ?_
      rotate_left
      · intro wS hS; (try dsimp only at hS); go_simp <;> with_reducible rfl
      try simp only [Act.put, List.setIfInBounds_toArray, List.set_cons_zero, List.set_cons_succ]
      refine grow_take 7 (some 96) ?_ rfl rfl (by kernel_rfl) (fun _ _ _ h => h) (by kernel_rfl) hCalm ?_ ?_
      rotate_left
      · intro wS hS; (try dsimp only at hS); go_simp <;> with_reducible rfl
      try simp only [Act.put, List.setIfInBounds_toArray, List.set_cons_zero, List.set_cons_succ]
      refine grow_take 8 (some 97) ?_ rfl rfl (by kernel_rfl) (fun _ _ _ h => h) (by kernel_rfl) hCalm ?_ ?_
      rotate_left
      · intro wS hS; (try dsimp only at hS); go_simp <;> with_reducible rfl
      try simp only [Act.put, List.setIfInBounds_toArray, List.set_cons_zero, List.set_cons_succ]
      refine grow_each [9] (by kernel_rfl) (by decide) ?_
      refine grow_cons 9 rfl (by kernel_rfl) (fun wA hA K hK => ?_) grow_nil
      obtain ⟨pY, hpY⟩ : ∃ b, b = wA.heap.size := ⟨_, rfl⟩
      have le_pY : v96.heap.size ≤ pY := by rw [hpY]; exact hA.size
      have hnew : Blk (wA.alloc (.cells #[.int .i64 0, .int .i64 0, .int .i64 0] 64)) pY 64 #[.int .i64 0, .int .i64 0, .int .i64 0] := by rw [hpY]; exact Blk.new wA _ _
      go_simp
      rw [← hpY]
      refine hK.out _ _ (fun w' => Below v96.heap.size v96 w' ∧ Blk w' pY 64 #[.int .i64 0, .int .i64 0, .int .i64 0]) ⟨fun w2 h2 => ⟨((Q_7.out.below h2.1 Q_7.out.lt).cell (i := 0) rfl), ((fun hq => HY.out _ (FT_7.out.below hq (Nat.le_refl _)) : Below v96.heap.size _ _ → _) h2.1).1, ((fun hq => HY.out _ (FT_7.out.below hq (Nat.le_refl _)) : Below v96.heap.size _ _ → _) h2.1).2.1, ((fun hq => HY.out _ (FT_7.out.below hq (Nat.le_refl _)) : Below v96.heap.size _ _ → _) h2.1).2.2⟩, fun w2 w3 h2 hb2 => ⟨h2.1.trans (hb2.mono h2.1.size), h2.2.below hb2 h2.2.lt⟩⟩ ⟨hA.alloc hA.size _, hnew⟩ ?_
      clear hnew hpY hK K hA wA hCalm
      have hCalm : Calm (fun w' => w'.cell? ⟨w.heap.size + 1, 0, none⟩ = some (.int .i64 b0) ∧ w'.cell? ⟨g, k * 3, none⟩ = some (.int .i64 (k : Nat)) ∧ w'.cell? ⟨g, k * 3 + 1, none⟩ = some (.int .i64 ylo) ∧ w'.cell? ⟨g, k * 3 + 2, none⟩ = some (.int .i64 yhi)) (fun w' => Below v96.heap.size v96 w' ∧ Blk w' pY 64 #[.int .i64 0, .int .i64 0, .int .i64 0]) := ⟨fun w2 h2 => ⟨((Q_7.out.below h2.1 Q_7.out.lt).cell (i := 0) rfl), ((fun hq => HY.out _ (FT_7.out.below hq (Nat.le_refl _)) : Below v96.heap.size _ _ → _) h2.1).1, ((fun hq => HY.out _ (FT_7.out.below hq (Nat.le_refl _)) : Below v96.heap.size _ _ → _) h2.1).2.1, ((fun hq => HY.out _ (FT_7.out.below hq (Nat.le_refl _)) : Below v96.heap.size _ _ → _) h2.1).2.2⟩, fun w2 w3 h2 hb2 => ⟨h2.1.trans (hb2.mono h2.1.size), h2.2.below hb2 h2.2.lt⟩⟩
      try simp only [Act.put, List.setIfInBounds_toArray, List.set_cons_zero, List.set_cons_succ]
      refine grow_each [10] (by kernel_rfl) (by decide) ?_
      refine grow_cons 10 rfl (by kernel_rfl) (fun wA hA K hK => ?_) grow_nil
      have z0 := hA.2.cell (i := 0) (v := .int .i64 0) rfl; have f0 := hA.2.frozen 0
      have z1 := hA.2.cell (i := 1) (v := .int .i64 0) rfl; have f1 := hA.2.frozen 1
      have z2 := hA.2.cell (i := 2) (v := .int .i64 0) rfl; have f2 := hA.2.frozen 2
      go_simp
      refine hK.out _ _ (fun w' => Below v96.heap.size v96 w' ∧ Blk w' pY 64 #[.int .i64 tb, .int .i64 (k : Nat), .int .i64 2]) ⟨fun w2 h2 => ⟨((Q_7.out.below h2.1 Q_7.out.lt).cell (i := 0) rfl), ((fun hq => HY.out _ (FT_7.out.below hq (Nat.le_refl _)) : Below v96.heap.size _ _ → _) h2.1).1, ((fun hq => HY.out _ (FT_7.out.below hq (Nat.le_refl _)) : Below v96.heap.size _ _ → _) h2.1).2.1, ((fun hq => HY.out _ (FT_7.out.below hq (Nat.le_refl _)) : Below v96.heap.size _ _ → _) h2.1).2.2⟩, fun w2 w3 h2 hb2 => ⟨h2.1.trans (hb2.mono h2.1.size), h2.2.below hb2 h2.2.lt⟩⟩ ⟨(((hA.1.setCell (p := ⟨pY, 0, none⟩) (by show v96.heap.size ≤ pY; omega) _).setCell (p := ⟨pY, 1, none⟩) (by show v96.heap.size ≤ pY; omega) _).setCell (p := ⟨pY, 2, none⟩) (by show v96.heap.size ≤ pY; omega) _), (((hA.2.set 0 _).set 1 _).set 2 _)⟩ ?_
      clear z0 f0 z1 f1 z2 f2 hK K hA wA hCalm
      have hCalm : Calm (fun w' => w'.cell? ⟨w.heap.size + 1, 0, none⟩ = some (.int .i64 b0) ∧ w'.cell? ⟨g, k * 3, none⟩ = some (.int .i64 (k : Nat)) ∧ w'.cell? ⟨g, k * 3 + 1, none⟩ = some (.int .i64 ylo) ∧ w'.cell? ⟨g, k * 3 + 2, none⟩ = some (.int .i64 yhi)) (fun w' => Below v96.heap.size v96 w' ∧ Blk w' pY 64 #[.int .i64 tb, .int .i64 (k : Nat), .int .i64 2]) := ⟨fun w2 h2 => ⟨((Q_7.out.below h2.1 Q_7.out.lt).cell (i := 0) rfl), ((fun hq => HY.out _ (FT_7.out.below hq (Nat.le_refl _)) : Below v96.heap.size _ _ → _) h2.1).1, ((fun hq => HY.out _ (FT_7.out.below hq (Nat.le_refl _)) : Below v96.heap.size _ _ → _) h2.1).2.1, ((fun hq => HY.out _ (FT_7.out.below hq (Nat.le_refl _)) : Below v96.heap.size _ _ → _) h2.1).2.2⟩, fun w2 w3 h2 hb2 => ⟨h2.1.trans (hb2.mono h2.1.size), h2.2.below hb2 h2.2.lt⟩⟩
      try simp only [Act.put]
      refine grow_done (by kernel_rfl) (fun wA hA => ?_) _
      have hb := hA.1; have hbl := hA.2; clear hA
      rename World => v97
      have FK_8 : Hid (Kz v97 A2 l) := Lib.hid (FK_7.out.below hb (Nat.le_refl _))
      have FM_8 : Hid (Mz v97 B2 ms) := Lib.hid (FM_7.out.below hb (Nat.le_refl _))
      have FT_8 : Hid (Kz v97 (some ⟨g, 0, none⟩) out) := Lib.hid (FT_7.out.below hb (Nat.le_refl _))
      clear FK_7 FM_7 FT_7
      have P_8 : Hid (Blk v97 w.heap.size 70 #[.int .i64 a0, .int .i64 a1, .int .i64 a2]) := Lib.hid (P_7.out.below hb P_7.out.lt)
      have Q_8 : Hid (Blk v97 (w.heap.size + 1) 70 #[.int .i64 b0, .int .i64 b1, .int .i64 b2]) := Lib.hid (Q_7.out.below hb Q_7.out.lt)
      have X_8 : Hid (Blk v97 pX 64 #[.int .i64 ta, .int .i64 (i : Nat), .int .i64 1]) := Lib.hid (X_7.out.below hb X_7.out.lt)
      have HB_8 : Hid (Below w.heap.size w v97) := Lib.hid (HB_7.out.trans (hb.mono HB_7.out.size))
      clear hb P_7 Q_7 X_7 HB_7
      have Y_8 : Hid (Blk v97 pY 64 #[.int .i64 tb, .int .i64 (k : Nat), .int .i64 2]) := Lib.hid hbl; clear hbl
      obtain ⟨on, hon⟩ : ∃ x, x = orN l ms ⟨ta, i, 1⟩ ⟨tb, k, 2⟩ := ⟨_, rfl⟩
      have HON := Lib.hid hon
      have hbd := orN_bd l ms ⟨ta, i, 1⟩ ⟨tb, k, 2⟩
      rw [← hon] at hbd
      have HO1 := Lib.hid (fun W (hk : Kz W A2 l) (hm : Mz W B2 ms) => (by have h := lorder_say HC.out HM.out.ok HFE.out HTS.out.1 HTS.out.2 hk hm HMD.out (c := c2); rw [← HON.out, ← HNL.out] at h; exact h : Calls Try.prog 61 #[.slice A2 nl c2, .slice B2 ms.length d2, .agg #[.int .i64 ta, .int .i64 (i : Nat), .int .i64 1], .agg #[.int .i64 tb, .int .i64 (k : Nat), .int .i64 2]] W _))
      have HO2 := Lib.hid (fun W (hk : Kz W A2 l) (hm : Mz W B2 ms) => (by have h := lorder_say HC.out HM.out.ok HFE.out HTS.out.2 HTS.out.1 hk hm HMD.out (c := c2); rw [orN_neg HFE.out, ← HON.out, ← HNL.out] at h; exact h : Calls Try.prog 61 #[.slice A2 nl c2, .slice B2 ms.length d2, .agg #[.int .i64 tb, .int .i64 (k : Nat), .int .i64 2], .agg #[.int .i64 ta, .int .i64 (i : Nat), .int .i64 1]] W _))
      have HBD := Lib.hid hbd
      clear hon hbd
      have yy0 := X_8.out.cell (i := 0) (v := .int .i64 ta) rfl; have yy1 := X_8.out.cell (i := 1) (v := .int .i64 (i : Nat)) rfl; have yy2 := X_8.out.cell (i := 2) (v := .int .i64 1) rfl
      have yy3 := Y_8.out.cell (i := 0) (v := .int .i64 tb) rfl; have yy4 := Y_8.out.cell (i := 1) (v := .int .i64 (k : Nat)) rfl; have yy5 := Y_8.out.cell (i := 2) (v := .int .i64 2) rfl
      go_wp2_with fail
      refine (HO1.out _ FK_8.out FM_8.out).mono ?_
      rintro e v8 ⟨rfl, hb⟩
      clear HO1
      clear yy0 yy1 yy2 yy3 yy4 yy5
      have FK_9 : Hid (Kz v8 A2 l) := Lib.hid (FK_8.out.below hb (Nat.le_refl _))
      have FM_9 : Hid (Mz v8 B2 ms) := Lib.hid (FM_8.out.below hb (Nat.le_refl _))
      have FT_9 : Hid (Kz v8 (some ⟨g, 0, none⟩) out) := Lib.hid (FT_8.out.below hb (Nat.le_refl _))
      clear FK_8 FM_8 FT_8
      have P_9 : Hid (Blk v8 w.heap.size 70 #[.int .i64 a0, .int .i64 a1, .int .i64 a2]) := Lib.hid (P_8.out.below hb P_8.out.lt)
      have Q_9 : Hid (Blk v8 (w.heap.size + 1) 70 #[.int .i64 b0, .int .i64 b1, .int .i64 b2]) := Lib.hid (Q_8.out.below hb Q_8.out.lt)
      have X_9 : Hid (Blk v8 pX 64 #[.int .i64 ta, .int .i64 (i : Nat), .int .i64 1]) := Lib.hid (X_8.out.below hb X_8.out.lt)
      have Y_9 : Hid (Blk v8 pY 64 #[.int .i64 tb, .int .i64 (k : Nat), .int .i64 2]) := Lib.hid (Y_8.out.below hb Y_8.out.lt)
      have HB_9 : Hid (Below w.heap.size w v8) := Lib.hid (HB_8.out.trans (hb.mono HB_8.out.size))
      clear hb P_8 Q_8 X_8 Y_8 HB_8
      have yy0 := X_9.out.cell (i := 0) (v := .int .i64 ta) rfl; have yy1 := X_9.out.cell (i := 1) (v := .int .i64 (i : Nat)) rfl; have yy2 := X_9.out.cell (i := 2) (v := .int .i64 1) rfl
      have yy3 := Y_9.out.cell (i := 0) (v := .int .i64 tb) rfl; have yy4 := Y_9.out.cell (i := 1) (v := .int .i64 (k : Nat)) rfl; have yy5 := Y_9.out.cell (i := 2) (v := .int .i64 2) rfl
      go_wp2_with fail
      refine (HO2.out _ FK_9.out FM_9.out).mono ?_
      rintro e v9 ⟨rfl, hb⟩
      clear HO2
      clear yy0 yy1 yy2 yy3 yy4 yy5
      have FK_10 : Hid (Kz v9 A2 l) := Lib.hid (FK_9.out.below hb (Nat.le_refl _))
      have FM_10 : Hid (Mz v9 B2 ms) := Lib.hid (FM_9.out.below hb (Nat.le_refl _))
      have FT_10 : Hid (Kz v9 (some ⟨g, 0, none⟩) out) := Lib.hid (FT_9.out.below hb (Nat.le_refl _))
      clear FK_9 FM_9 FT_9
      have P_10 : Hid (Blk v9 w.heap.size 70 #[.int .i64 a0, .int .i64 a1, .int .i64 a2]) := Lib.hid (P_9.out.below hb P_9.out.lt)
      have Q_10 : Hid (Blk v9 (w.heap.size + 1) 70 #[.int .i64 b0, .int .i64 b1, .int .i64 b2]) := Lib.hid (Q_9.out.below hb Q_9.out.lt)
      have X_10 : Hid (Blk v9 pX 64 #[.int .i64 ta, .int .i64 (i : Nat), .int .i64 1]) := Lib.hid (X_9.out.below hb X_9.out.lt)
      have Y_10 : Hid (Blk v9 pY 64 #[.int .i64 tb, .int .i64 (k : Nat), .int .i64 2]) := Lib.hid (Y_9.out.below hb Y_9.out.lt)
      have HB_10 : Hid (Below w.heap.size w v9) := Lib.hid (HB_9.out.trans (hb.mono HB_9.out.size))
      clear hb P_9 Q_9 X_9 Y_9 HB_9
      have wn : IntKind.i64.wrap (- -on) = on := by rw [IntWalk.i64_in _ (by have := HBD.out; omega)]; omega
      have wn2 : IntKind.i64.wrap on = on := IntWalk.i64_in _ (by have := HBD.out; omega)
      have q5 : ¬ (on < -1) := by have := HBD.out; omega
      have q6 : ¬ (1 < on) := by have := HBD.out; omega
      obtain ⟨z0, z1, z2⟩ := HX.out _ FT_10.out
      go_wp2_with fail
      clear wn wn2 q5 q6 z0 z1 z2
      go_loopw [22, 23, 24] (fun le mo vv wr => ∃ (V x y : Int), le = .int .i64 x ∧ mo = .int .i64 y ∧ vv = .int .i64 V ∧ xlo ≤ V ∧ V ≤ xhi + 1 ∧ LM l ms ⟨ta, i, 1⟩ ⟨tb, k, 2⟩ xlo V x y ∧ Below v9.heap.size v9 wr) (fun _ _ vv _ => (xhi + 1 - intOf vv).toNat)
      case atStart => exact ⟨xlo, _, _, rfl, rfl, rfl, Int.le_refl _, by have := HIB.out; omega, LM.start (fun A hA => (HBI.out A hA).1), Below.refl _ _⟩
      case round =>
        rename World => wr
        obtain ⟨V, x, y, rfl, rfl, rfl, hV1, hV2, hLM, hB⟩ := hrel
        have HBR := Lib.hid hB; have HLM := Lib.hid hLM; clear hB hLM
        have FKR := Lib.hid (FK_10.out.below HBR.out (Nat.le_refl _)); have FMR := Lib.hid (FM_10.out.below HBR.out (Nat.le_refl _)); have FTR := Lib.hid (FT_10.out.below HBR.out (Nat.le_refl _)); have XR := Lib.hid (X_10.out.below HBR.out X_10.out.lt); have YR := Lib.hid (Y_10.out.below HBR.out Y_10.out.lt); have HBW := Lib.hid (HB_10.out.trans (HBR.out.mono HB_10.out.size))
        obtain ⟨z0, z1, z2⟩ := HX.out _ FTR.out
        by_cases hle : V ≤ xhi
        case pos =>
          have HV := Lib.hid (And.intro hV1 hle)
          have u0 : i < 40 := by have := HIK.out; have := HN0.out; omega
          have u1 : -1000000 ≤ V ∧ V ≤ 1000000 := by have := HIB.out; omega
          have HSP : Hid (Calls Try.prog 64 #[.slice A2 nl c2, .slice B2 ms.length d2, .int .i64 (i : Nat), .int .i64 V] wr fun e w' => SprP ms i V e w' ∧ Below wr.heap.size wr w') := Lib.hid (by rw [HNL.out]; exact lspread_any l ms A2 B2 c2 d2 i V wr FMR.out HM.out.ok HC.out.ok u0 u1)
          clear u0 u1
          have HKN : Hid (k < 40) := Lib.hid (by have := HIK.out; have := HN0.out; omega)
          clear hV1 hV2
          go_wp2_with fail
          refine HSP.out.mono ?_
          rintro e v50 ⟨⟨s, ok, gO, gK, rfl, hO, hK, hsp, -⟩, hb⟩
          have FT5 := Lib.hid (FTR.out.below hb (Nat.le_refl _)); have X5 := Lib.hid (XR.out.below hb XR.out.lt); have Y5 := Lib.hid (YR.out.below hb YR.out.lt); have HB5 := Lib.hid (HBR.out.trans (hb.mono HBR.out.size))
          clear hb HSP z0 z1 z2
          obtain ⟨hok, k1, k2, k3⟩ := HSB.out V HV.out s ok hsp
          subst hok
          obtain ⟨low, hlow⟩ : ∃ x, x = lowOf s (k : Int) ylo := ⟨_, rfl⟩
          obtain ⟨high, hhigh⟩ : ∃ x, x = lowOf s (k : Int) yhi := ⟨_, rfl⟩
          rw [← hlow] at k1 k2; rw [← hhigh] at k1 k3
          have hbl : -30 ≤ low ∧ low ≤ 68 := by
            obtain ⟨A3, h1, -, e⟩ := k2
            have := HBK.out A3 h1; have := HKB.out; omega
          have hbh : -30 ≤ high ∧ high ≤ 68 := by
            obtain ⟨A3, h1, -, e⟩ := k3
            have := HBK.out A3 h1; have := HKB.out; omega
          have hta := HTA.out; have htb := HTB.out; have hvv := HV.out; have hib := HIB.out
          obtain ⟨s1, hs1⟩ : ∃ x, x = ta - V := ⟨_, rfl⟩
          obtain ⟨s2, hs2⟩ : ∃ x, x = s1 - tb := ⟨_, rfl⟩
          obtain ⟨s3, hs3⟩ : ∃ x, x = s2 + low := ⟨_, rfl⟩
          obtain ⟨s4, hs4⟩ : ∃ x, x = s2 + high := ⟨_, rfl⟩
          have e1 : IntKind.i64.wrap (ta - V) = s1 := by rw [hs1]; exact IntWalk.i64_in _ (by omega)
          have e2 : IntKind.i64.wrap (s1 - tb) = s2 := by rw [hs2]; exact IntWalk.i64_in _ (by omega)
          have e3 : IntKind.i64.wrap (s2 + low) = s3 := by rw [hs3]; exact IntWalk.i64_in _ (by omega)
          have e4 : IntKind.i64.wrap (s2 + high) = s4 := by rw [hs4]; exact IntWalk.i64_in _ (by omega)
          have e5 : IntKind.i64.wrap (V + 1) = V + 1 := IntWalk.i64_in _ (by omega)
          have HLS := Lib.hid (HLM.out.step HV.out.1 k1 k2 k3 (x := s3) (y := s4) (by dsimp only; omega) (by dsimp only; omega) (by omega) (by omega))
          obtain ⟨x2, hx2⟩ : ∃ m2, m2 = min x s3 := ⟨_, rfl⟩
          obtain ⟨y2, hy2⟩ : ∃ m2, m2 = max y s4 := ⟨_, rfl⟩
          rw [← hx2, ← hy2] at HLS
          have hmn : ∀ (ts : Array TypeId) (t : TypeId) (w : World), (Builtin.min_ ts t #[.int .i64 x, .int .i64 s3]).run Try.prog w = .ok (.int .i64 x2) w := fun ts t w => by rw [run_min6, hx2]
          have hmx : ∀ (ts : Array TypeId) (t : TypeId) (w : World), (Builtin.max_ ts t #[.int .i64 y, .int .i64 s4]).run Try.prog w = .ok (.int .i64 y2) w := fun ts t w => by rw [run_max6, hy2]
          obtain ⟨y0, y1, y3⟩ := HY.out _ FT5.out
          have x0 := X5.out.cell (i := 0) (v := .int .i64 ta) rfl; have b0_ := Y5.out.cell (i := 0) (v := .int .i64 tb) rfl
          have ck := hK.cell (knC_at s.k HKN.out); have cv := hO.cell (outC_at s.v HKN.out)
          have q7 : (k : Int) < 40 := by have := HKN.out; omega
          have hst : high = low → s4 = s3 := fun h => by rw [hs4, hs3, h]
          clear k1 k2 k3 hbl hbh hta htb hvv hib hs1 hs2 hs3 hs4 hx2 hy2 hO hK hsp
          by_cases hq : s.k (k : Int) = true
          case pos =>
            unfold lowOf at hlow hhigh
            rw [if_pos hq] at hlow hhigh
            rw [hq] at ck
            rw [← hlow] at cv
            obtain rfl := hst (by rw [hlow, hhigh])
            obtain rfl : high = low := by rw [hlow, hhigh]
            clear hlow hhigh hq hst
            go_wp2_with fail
            go_roundw
            case rel => exact ⟨V + 1, x2, y2, rfl, rfl, rfl, by have := HV.out; omega, by have := HV.out; omega, HLS.out, HB5.out⟩
            case measure => have := HV.out; simp [intOf]; omega
          case neg =>
            unfold lowOf at hlow hhigh
            rw [if_neg hq] at hlow hhigh
            rw [show s.k (k : Int) = false from by simpa using hq] at ck
            subst hlow; subst hhigh
            clear hq cv hst
            go_wp2_with fail
            go_roundw
            case rel => exact ⟨V + 1, x2, y2, rfl, rfl, rfl, by have := HV.out; omega, by have := HV.out; omega, HLS.out, HB5.out⟩
            case measure => have := HV.out; simp [intOf]; omega
        case neg =>
          obtain rfl : V = xhi + 1 := by omega
          have hdn := HLM.out.done (by have := HIB.out; omega) (fun A hA => (HBI.out A hA).2)
          have HOC := Lib.hid (fun j => orN_take (a := ⟨ta, i, 1⟩) (b := ⟨tb, k, 2⟩) HFE.out j)
          rw [← HON.out] at HOC
          have f1 : (on = -1) ↔ y < 0 := by rw [HON.out, orN_lt]; exact hdn.1
          have f2 : (on = 1) ↔ 0 < x := by rw [HON.out, orN_gt HFE.out]; exact hdn.2
          have g1 : (on == -1) = decide (y < 0) := by by_cases h : y < 0 <;> simp [h, f1]
          have g2 : (on == 1) = decide (0 < x) := by by_cases h : 0 < x <;> simp [h, f2]
          have q7 : ¬ (xhi + 1 ≤ xhi) := by omega
          clear hdn hV1 hV2 hle
          go_wp2_with fail
          clear g1 g2 f1 f2 q7 z0 z1 z2
          go_loopw [30] (fun cc wq => ∃ j : Nat, cc = .int .i64 j ∧ j ≤ ms.length ∧ Below wr.heap.size wr wq) (fun cc _ => ms.length - (intOf cc).toNat)
          case atStart => exact ⟨0, rfl, Nat.zero_le _, Below.refl _ _⟩
          case round =>
            rename World => wq
            obtain ⟨j, rfl, hj, hB⟩ := hrel
            have HBQ := Lib.hid hB; clear hB
            have FK9 := Lib.hid (FKR.out.below HBQ.out (Nat.le_refl _)); have FM9 := Lib.hid (FMR.out.below HBQ.out (Nat.le_refl _)); have X9 := Lib.hid (XR.out.below HBQ.out XR.out.lt); have Y9 := Lib.hid (YR.out.below HBQ.out YR.out.lt); have HBZ := Lib.hid (HBW.out.trans (HBQ.out.mono HBW.out.size))
            by_cases hlt : j < ms.length
            case neg =>
              obtain rfl : j = ms.length := by omega
              have hundef := un_none
              clear hlt hj
              go_wp2_with fail
              go_ret
              exact ⟨rfl, HBZ.out⟩
            case pos =>
              obtain ⟨b, o, rfl⟩ := Rz.some FM9.out (by omega)
              have htl : (ms.take j).length = j := by simp; omega
              have hjd : (ms.take j).length ≤ d2 := by rw [htl]; have := HMD.out; omega
              obtain ⟨on2, hon2⟩ : ∃ x, x = orN l (ms.take j) ⟨ta, i, 1⟩ ⟨tb, k, 2⟩ := ⟨_, rfl⟩
              have hcase := HOC.out j
              rw [← hon2] at hcase
              have HPC : Hid (∀ W, Kz W A2 l → Mz W (some ⟨b, o, none⟩) ms → Calls Try.prog 61 #[.slice A2 nl c2, .slice (some ⟨b, o, none⟩) j d2, .agg #[.int .i64 ta, .int .i64 (i : Nat), .int .i64 1], .agg #[.int .i64 tb, .int .i64 (k : Nat), .int .i64 2]] W fun e w' => e = .returned (.tuple #[.int .i64 on2, .int .i64 0]) ∧ Below W.heap.size W w') := Lib.hid (fun W hk hm => by
                have h := lorder_say HC.out (HM.out.ok.take j) (HFE.out.take j) HTS.out.1 HTS.out.2 hk (hm.take j) hjd (c := c2)
                rw [htl] at h
                rw [hon2, HNL.out]
                exact h)
              have HCS := Lib.hid hcase
              have HJ := Lib.hid hlt
              have q1 : (0 : Int) ≤ (j : Int) := by omega
              have q2 : (j : Int) ≤ (d2 : Int) := by have := HMD.out; omega
              have q3 : (j : Int) < (ms.length : Int) := by omega
              have q4 : (j : Int) ≤ 9223372036854775806 := by have := HM.out.1; omega
              have hundef := un_none
              clear hcase hon2 htl hjd hlt hj
              go_wp2_with fail
              refine wp_region_grow (S := (fun w' => w'.cell? ⟨pX, 0, none⟩ = some (.int .i64 ta) ∧ w'.cell? ⟨pX, 1, none⟩ = some (.int .i64 (i : Nat)) ∧ w'.cell? ⟨pX, 2, none⟩ = some (.int .i64 1) ∧ w'.cell? ⟨pY, 0, none⟩ = some (.int .i64 tb) ∧ w'.cell? ⟨pY, 1, none⟩ = some (.int .i64 (k : Nat)) ∧ w'.cell? ⟨pY, 2, none⟩ = some (.int .i64 2) ∧ Kz w' A2 l ∧ Mz w' (some ⟨b, o, none⟩) ms)) ((fun w' => Below wq.heap.size wq w')) (by kernel_rfl) (⟨fun w2 h2 => ⟨((X9.out.below h2 X9.out.lt).cell (i := 0) (v := .int .i64 ta) rfl), ((X9.out.below h2 X9.out.lt).cell (i := 1) (v := .int .i64 (i : Nat)) rfl), ((X9.out.below h2 X9.out.lt).cell (i := 2) (v := .int .i64 1) rfl), ((Y9.out.below h2 Y9.out.lt).cell (i := 0) (v := .int .i64 tb) rfl), ((Y9.out.below h2 Y9.out.lt).cell (i := 1) (v := .int .i64 (k : Nat)) rfl), ((Y9.out.below h2 Y9.out.lt).cell (i := 2) (v := .int .i64 2) rfl), FK9.out.below h2 (Nat.le_refl _), FM9.out.below h2 (Nat.le_refl _)⟩, fun w2 w3 h2 hb2 => h2.trans (hb2.mono h2.size)⟩) ((Below.refl wq.heap.size wq).drew) (fun hCalm => ?_)
              refine grow_take 0 (some 231) ?_ rfl rfl (by kernel_rfl) (fun _ _ _ h => h) (by kernel_rfl) hCalm ?_ ?_
              rotate_left
              · intro wS hS; (try dsimp only at hS); go_simp <;> with_reducible rfl
              try simp only [Act.put, List.setIfInBounds_toArray, List.set_cons_zero, List.set_cons_succ]
              refine grow_take 1 (some 232) ?_ rfl rfl (by kernel_rfl) (fun _ _ _ h => h) (by kernel_rfl) hCalm ?_ ?_
              rotate_left
              · intro wS hS; (try dsimp only at hS); go_simp <;> with_reducible rfl
              try simp only [Act.put, List.setIfInBounds_toArray, List.set_cons_zero, List.set_cons_succ]
              refine grow_take 2 (some 233) ?_ rfl rfl (by kernel_rfl) (fun _ _ _ h => h) (by kernel_rfl) hCalm ?_ ?_
              rotate_left
              · intro wS hS; (try dsimp only at hS); go_simp <;> with_reducible rfl
              try simp only [Act.put, List.setIfInBounds_toArray, List.set_cons_zero, List.set_cons_succ]
              refine grow_take 3 (some 234) ?_ rfl rfl (by kernel_rfl) (fun _ _ _ h => h) (by kernel_rfl) hCalm ?_ ?_
              rotate_left
              · intro wS hS; (try dsimp only at hS); go_simp <;> with_reducible rfl
              try simp only [Act.put, List.setIfInBounds_toArray, List.set_cons_zero, List.set_cons_succ]
              refine grow_take 4 (some 235) ?_ rfl rfl (by kernel_rfl) (fun _ _ _ h => h) (by kernel_rfl) hCalm ?_ ?_
              rotate_left
              · intro wS hS; (try dsimp only at hS); go_simp <;> with_reducible rfl
              try simp only [Act.put, List.setIfInBounds_toArray, List.set_cons_zero, List.set_cons_succ]
              refine grow_take 5 (some 236) ?_ rfl rfl (by kernel_rfl) (fun _ _ _ h => h) (by kernel_rfl) hCalm ?_ ?_
              rotate_left
              · intro wS hS; (try dsimp only at hS); go_simp <;> with_reducible rfl
              try simp only [Act.put, List.setIfInBounds_toArray, List.set_cons_zero, List.set_cons_succ]
              refine grow_call 6 (some 237) (.tuple #[.int .i64 on2, .int .i64 0]) 61 [.tmp 231, .tmp 234, .tmp 235, .tmp 236] #[80, 82, 64, 64] rfl rfl (by kernel_rfl) (fun _ _ _ h => h) (by kernel_rfl) hCalm rfl (enters_of Try.func61 (by kernel_rfl) rfl) (fun wz hS => HPC.out wz hS.2.2.2.2.2.2.1 hS.2.2.2.2.2.2.2) (by kernel_rfl) ?_
              try simp only [Act.put, List.setIfInBounds_toArray, List.set_cons_zero, List.set_cons_succ]
              refine grow_take 7 (some 230) ?_ rfl rfl (by kernel_rfl) (fun _ _ _ h => h) (by kernel_rfl) hCalm ?_ ?_
              rotate_left
              · intro wS hS; (try dsimp only at hS); go_simp <;> with_reducible rfl
              try simp only [Act.put, List.setIfInBounds_toArray, List.set_cons_zero, List.set_cons_succ]
              refine grow_take 8 (some 238) ?_ rfl rfl (by kernel_rfl) (fun _ _ _ h => h) (by kernel_rfl) hCalm ?_ ?_
              rotate_left
              · intro wS hS; (try dsimp only at hS); go_simp <;> with_reducible rfl
              try simp only [Act.put, List.setIfInBounds_toArray, List.set_cons_zero, List.set_cons_succ]
              refine grow_take 9 (some 239) ?_ rfl rfl (by kernel_rfl) (fun _ _ _ h => h) (by kernel_rfl) hCalm ?_ ?_
              rotate_left
              · intro wS hS; (try dsimp only at hS); go_simp <;> with_reducible rfl
              try simp only [Act.put, List.setIfInBounds_toArray, List.set_cons_zero, List.set_cons_succ]
              refine grow_take 10 (some 31) ?_ rfl rfl (by kernel_rfl) (fun _ _ _ h => h) (by kernel_rfl) hCalm ?_ ?_
              rotate_left
              · intro wS hS; (try dsimp only at hS); go_simp <;> with_reducible rfl
              try simp only [Act.put, List.setIfInBounds_toArray, List.set_cons_zero, List.set_cons_succ]
              refine grow_take 11 (some 32) ?_ rfl rfl (by kernel_rfl) (fun _ _ _ h => h) (by kernel_rfl) hCalm ?_ ?_
              rotate_left
              · intro wS hS; (try dsimp only at hS); go_simp <;> with_reducible rfl
              try simp only [Act.put, List.setIfInBounds_toArray, List.set_cons_zero, List.set_cons_succ]
              refine grow_done (by kernel_rfl) (fun wA hA => ?_) _
              have HBY := Lib.hid (HBQ.out.trans (hA.mono HBQ.out.size)); clear hA
              by_cases z : on2 = 0
              case pos =>
                subst z
                go_wp2_with fail
                go_roundw
                case rel => exact ⟨j + 1, by go_num, HJ.out, HBY.out⟩
                case measure => have := HJ.out; simp [intOf]; omega
              case neg =>
                have h1 : on2 = on := HCS.out.resolve_left z
                subst h1
                have z2 : (on2 == 0) = false := by rw [beq_eq_false_iff_ne]; exact z
                go_wp2_with fail
                go_roundw
                case rel => exact ⟨j + 1, by go_num, HJ.out, HBY.out⟩
                case measure => have := HJ.out; simp [intOf]; omega
end Go.Proofs.Ytbcgfohacbapoaa
