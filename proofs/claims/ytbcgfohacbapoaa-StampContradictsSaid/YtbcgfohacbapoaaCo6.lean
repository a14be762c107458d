
/- The contract of the statement StampContradicts: it answers true. Conditions: ints; the rows read. -/
import Derived.Test.YtbcgfohacbapoaaSn6
import Derived.Test.YtbcgfohacbapoaaPos6
import Derived.Test.YtbcgfohacbapoaaTl6
namespace Go.Proofs.Ytbcgfohacbapoaa
open Go.RowKit Go.Lib

theorem Poss.mono {l : List Sk} {ms ms2 : List Mt} {A : Int → Int} (h : Poss l ms A) (hs : ∀ m ∈ ms2, m ∈ ms) : Poss l ms2 A := ⟨h.1, fun m hm => h.2 m (hs m hm)⟩
/-- The bounds so far: what was given, or the tight ones of the meetings before. -/
def Wid (l : List Sk) (ms : List Mt) (i : Nat) (out : List Sk) : Prop := (i = 0 → out = l) ∧ (0 < i → IsTt l (ms.take (i - 1)) out)
theorem Wid.next {l : List Sk} {ms : List Mt} {i : Nat} {out out2 : List Sk} (h : Wid l ms i out) (hc : IsClk l) (h2 : IsTt l (ms.take i) out2) {k : Nat} (hk : k < out.length) (hk2 : k < out2.length) : out[k].lo ≤ out2[k].lo ∧ out2[k].hi ≤ out[k].hi := by
  cases i with
  | zero =>
    have e := h.1 rfl
    subst e
    have := h2.in_ hc hk2 hk
    exact ⟨this.1, this.2.1⟩
  | succ i =>
    have h1 := h.2 (by omega)
    rw [Nat.add_sub_cancel] at h1
    have hsub : ∀ m ∈ ms.take i, m ∈ ms.take (i + 1) := fun m hm => by
      have e : ms.take i = (ms.take (i + 1)).take i := by rw [List.take_take, Nat.min_eq_left (by omega)]
      rw [e] at hm; exact List.mem_of_mem_take hm
    obtain ⟨L, hL, eL⟩ := h2.2.1
    obtain ⟨H, hH, eH⟩ := h2.2.2.1
    have e1 := eL _ (List.getElem_mem hk2); have e2 := eH _ (List.getElem_mem hk2)
    have b1 := h1.2.2.2 L (hL.mono hsub) _ (List.getElem_mem hk); have b2 := h1.2.2.2 H (hH.mono hsub) _ (List.getElem_mem hk)
    rw [h1.pers hc hk] at b1 b2; rw [h2.pers hc hk2] at e1 e2
    omega
/-- Behind the first meeting that contradicts, no advance of its first person is possible. -/
theorem lposs_bad {l : List Sk} {ms : List Mt} {A B : Option Addr} {c d : Nat} {k : Nat} (hk : k < ms.length) {p : Nat} {V : Int} {w : World} (hA : Kz w A l) (hB : Mz w B ms) (hm : MtOk l ms) (hs : SkOk l) (hp : p < 40) (hpa : ms[k].a = (p : Int)) (hV : -1000000 ≤ V ∧ V ≤ 1000000) (hf : Feas l (ms.take k)) (hn : ¬ Feas l (ms.take (k + 1))) :
    Calls Try.prog 63 #[.slice A l.length c, .slice B (k + 1) d, .int .i64 (p : Nat), .int .i64 V] w fun e w' => e = .returned (.bool false) ∧ Below w.heap.size w w' := by
  have h := lpossible_any l (ms.take (k + 1)) A B c d p V w hA (hB.take (k + 1)) (hm.take (k + 1)) hs hp hV
  rw [show (ms.take (k + 1)).length = k + 1 from by simp; omega] at h
  refine h.mono ?_
  rintro e w' ⟨⟨r, rfl, hr⟩, hb⟩
  cases r
  · exact ⟨rfl, hb⟩
  · exfalso
    obtain ⟨A0, hA0⟩ := hf
    have key : ∃ A, Poss l (ms.take (k + 1)) A ∧ A (p : Int) = V := hr.join hA0.1 (fun m hmm s ok hsp hok hka => by
      rw [take_snoc hk] at hmm
      rcases List.mem_append.1 hmm with hx | hx
      · exact hA0.2 m hx
      · rw [List.mem_singleton] at hx
        subst hx
        rw [hpa] at hka
        have h1 := (hsp.2 hok).1.1
        rw [hka] at h1; cases h1)
    obtain ⟨A1, h1, _⟩ := key
    exact hn ⟨A1, h1⟩
set_option maxRecDepth 100000 in
set_option maxHeartbeats 16000000 in
theorem contradicts_law (A : Option Addr) (n c : Nat) (B : Option Addr) (m d : Nat) (w : World) (hA : Xz 2 w A n) (hz : n ≤ 9223372036854775807) (hB : Xz 3 w B m) (hy : m ≤ 9223372036854775807) :
    Calls Try.prog 8 #[.slice A n c, .slice B m d] w fun e w' => e = .returned (.bool true) ∧ Below w.heap.size w w' := by
  have HCK := Lib.hid (fun W (hb : Below w.heap.size w W) => rclocks_any A n c W (hA.below hb (Nat.le_refl _)) hz)
  have HMK := Lib.hid (fun W (hb : Below w.heap.size w W) l A2 c2 hc hk => rmeets_any l A2 c2 B m d W hc hk (hB.below hb (Nat.le_refl _)) hy)
  clear hA hz hB hy
  have HB_0 : Hid (Below w.heap.size w w) := Below.refl _ _
  go_enter Try.func8, Try.ntmps8
  go_wp2_with fail
  refine (sane6_any _).mono ?_
  rintro e v0 ⟨rfl, hb⟩
  have HB_1 : Hid (Below w.heap.size w v0) := Lib.hid (HB_0.out.trans (hb.mono HB_0.out.size))
  clear hb HB_0
  go_wp2_with fail
  refine (HCK.out _ HB_1.out).mono ?_
  rintro e v1 ⟨⟨l, A2, c2, rfl, hck, hkz, -, -, -, -⟩, hb⟩
  have HC := Lib.hid hck; clear hck
  have FK_1 := Lib.hid hkz
  have FK_2 : Hid (Kz v1 A2 l) := Lib.hid FK_1.out
  clear FK_1
  have HB_2 : Hid (Below w.heap.size w v1) := Lib.hid (HB_1.out.trans (hb.mono HB_1.out.size))
  clear hb HB_1
  go_wp2_with fail
  refine (HMK.out _ HB_2.out l A2 c2 HC.out FK_2.out).mono ?_
  rintro e v2 ⟨⟨ms, B2, d2, rfl, hms, hmz, hmd, hbn, -⟩, hb⟩
  have HM := Lib.hid hms; have HMD := Lib.hid hmd; have HBN := Lib.hid hbn; clear hms hmd hbn
  have FM_2 := Lib.hid hmz
  have FK_3 : Hid (Kz v2 A2 l) := Lib.hid (FK_2.out.below hb (Nat.le_refl _))
  have FM_3 : Hid (Mz v2 B2 ms) := Lib.hid FM_2.out
  clear FK_2 FM_2
  have HB_3 : Hid (Below w.heap.size w v2) := Lib.hid (HB_2.out.trans (hb.mono HB_2.out.size))
  clear hb HB_2
  by_cases hf : Feas l ms
  case neg =>
    have HT := Lib.hid (ptight_bad l ms A2 B2 c2 d2 _ FK_3.out (by have := HC.out.1; omega) FM_3.out (by have := HM.out.1; omega) HMD.out ⟨HC.out.ok, HM.out.ok⟩ hf); clear hf
    go_wp2_with fail
    refine (HT.out).mono ?_
    rintro e v3 ⟨⟨k, hk, rfl, hnf, hfe⟩, hb⟩
    have HNF := Lib.hid hnf; have HFP := Lib.hid hfe; clear hnf hfe HT
    obtain ⟨b, o, rfl⟩ := Rz.some FM_3.out (by omega)
    obtain ⟨k0, k1, k2, k3⟩ := Mz.cell FM_3.out hb (Nat.le_refl _) hk
    have hok := HM.out.2 _ (List.getElem_mem hk)
    have hper : 0 ≤ ms[k].a ∧ ms[k].a ≤ 39 := by
      obtain ⟨s, hs2, e⟩ := List.mem_map.1 (fnd_isSome.1 hok.2.1)
      rw [← e]; exact (HC.out.ok.mem hs2).1
    obtain ⟨a, ha⟩ : ∃ a : Nat, ms[k].a = (a : Int) := ⟨ms[k].a.toNat, by omega⟩
    have ha40 : a < 40 := by omega
    have HPN := Lib.hid (fun W (hk1 : Kz W A2 l) (hm1 : Mz W (some ⟨b, o, none⟩) ms) V (hV : -300 ≤ V ∧ V ≤ 300) => (lposs_bad hk hk1 hm1 HM.out.ok HC.out.ok ha40 ha (by omega) (HFP.out k (Nat.le_refl _)) HNF.out : Calls Try.prog 63 #[.slice A2 l.length c2, .slice (some ⟨b, o, none⟩) (k + 1) d2, .int .i64 (a : Nat), .int .i64 V] W _))
    have HNM : Hid (k ≤ ms.length) := Lib.hid (by omega)
    obtain ⟨mm, hmm⟩ : ∃ x, x = ms[k] := ⟨_, rfl⟩
    rw [← hmm] at k0 k1 k2 k3 ha
    obtain ⟨ma, ta, mb, tb⟩ := mm
    dsimp only at k0 k1 k2 k3 ha
    subst ha
    have q1 : (0 : Int) ≤ (k : Int) := by omega
    have q2 : ¬ ((ms.length : Int) ≤ (k : Int)) := by omega
    have q2n : ¬ (ms.length ≤ k) := by omega
    have q3 : (k : Int) < (ms.length : Int) := by omega
    have q4 : ¬ ((k : Int) < -1) := by omega
    have hkd : k + 1 ≤ d2 := by have := HMD.out; omega
    clear hmm hok hper ha40 hk
    have FK_4 : Hid (Kz (v3.alloc (.cells #[.int .i64 (a : Nat), .int .i64 ta, .int .i64 mb, .int .i64 tb] 79)) A2 l) := Lib.hid (FK_3.out.below (allocs_below [(#[.int .i64 (a : Nat), .int .i64 ta, .int .i64 mb, .int .i64 tb], 79)] _ hb hb.size) (Nat.le_refl _))
    have FM_4 : Hid (Mz (v3.alloc (.cells #[.int .i64 (a : Nat), .int .i64 ta, .int .i64 mb, .int .i64 tb] 79)) (some ⟨b, o, none⟩) ms) := Lib.hid (FM_3.out.below (allocs_below [(#[.int .i64 (a : Nat), .int .i64 ta, .int .i64 mb, .int .i64 tb], 79)] _ hb hb.size) (Nat.le_refl _))
    clear FK_3 FM_3
    have HB_4 : Hid (Below w.heap.size w (v3.alloc (.cells #[.int .i64 (a : Nat), .int .i64 ta, .int .i64 mb, .int .i64 tb] 79))) := Lib.hid (allocs_below [(#[.int .i64 (a : Nat), .int .i64 ta, .int .i64 mb, .int .i64 tb], 79)] _ (HB_3.out.trans (hb.mono HB_3.out.size)) (HB_3.out.trans (hb.mono HB_3.out.size)).size)
    have X_4 : Hid (Blk (v3.alloc (.cells #[.int .i64 (a : Nat), .int .i64 ta, .int .i64 mb, .int .i64 tb] 79)) v3.heap.size 79 #[.int .i64 (a : Nat), .int .i64 ta, .int .i64 mb, .int .i64 tb]) := Lib.hid (allocs_blk [(#[.int .i64 (a : Nat), .int .i64 ta, .int .i64 mb, .int .i64 tb], 79)] v3 0 _ rfl)
    clear hb HB_3
    have hundef := un_none
    go_wp2_with fail
    clear k0 k1 k2 k3 q1 q2 q2n q3 q4
    go_loopw [12] (fun ii wr => ∃ i : Nat, ii = .int .i64 i ∧ i ≤ l.length ∧ Below (v3.alloc (.cells #[.int .i64 (a : Nat), .int .i64 ta, .int .i64 mb, .int .i64 tb] 79)).heap.size (v3.alloc (.cells #[.int .i64 (a : Nat), .int .i64 ta, .int .i64 mb, .int .i64 tb] 79)) wr) (fun ii _ => l.length - (intOf ii).toNat)
    case atStart => exact ⟨0, rfl, Nat.zero_le _, Below.refl _ _⟩
    case round =>
      obtain ⟨i, rfl, hi, hB⟩ := hrel
      have HBR := Lib.hid hB; clear hB
      have FKR := Lib.hid (FK_4.out.below HBR.out (Nat.le_refl _)); have FMR := Lib.hid (FM_4.out.below HBR.out (Nat.le_refl _)); have XR := Lib.hid (X_4.out.below HBR.out X_4.out.lt); have HBW := Lib.hid (HB_4.out.trans (HBR.out.mono HB_4.out.size))
      by_cases hlt : i < l.length
      case neg =>
        obtain rfl : i = l.length := by omega
        clear hlt hi hkd
        have hundef := un_none
        go_wp2_with fail
        try clear q1
        go_loopw [14, 15] (fun la ii wq => ∃ (i : Nat) (out : List Sk) (A3 : Option Addr) (c3 : Nat), la = .slice A3 out.length c3 ∧ ii = .int .i64 i ∧ i ≤ k + 1 ∧ out.length = l.length ∧ Kz wq A3 out ∧ Wid l ms i out ∧ Below wr.heap.size wr wq) (fun _ ii _ => k + 1 - (intOf ii).toNat)
        case atStart => exact ⟨0, l, _, _, rfl, rfl, Nat.zero_le _, rfl, FKR.out, ⟨fun _ => rfl, fun h => absurd h (by omega)⟩, Below.refl _ _⟩
        case round =>
          rename World => wq
          obtain ⟨i, out, A3, c3, rfl, rfl, hi, hlen, hkz, hwid, hB⟩ := hrel
          have HLN3 := Lib.hid hlen; have FL := Lib.hid hkz; have HWI := Lib.hid hwid; have HBQ := Lib.hid hB; clear hlen hkz hwid hB
          have FKQ := Lib.hid (FKR.out.below HBQ.out (Nat.le_refl _)); have FMQ := Lib.hid (FMR.out.below HBQ.out (Nat.le_refl _)); have HBW := Lib.hid (HBW.out.trans (HBQ.out.mono HBW.out.size))
          rw [HLN3.out]
          by_cases hle : i ≤ k
          case neg =>
            obtain rfl : i = k + 1 := by omega
            have q3 : ¬ ((k : Int) + 1 ≤ (k : Int)) := by omega
            have q4 : ¬ (k + 1 ≤ k) := by omega
            clear hle hi
            go_wp2_with fail
            go_ret
            exact ⟨rfl, HBW.out⟩
          case pos =>
            have him : i ≤ ms.length := by have := HNM.out; omega
            have htl : (ms.take i).length = i := by simp; omega
            have HT := Lib.hid (by have h := ptight_ok l (ms.take i) A2 (some ⟨b, o, none⟩) c2 d2 wq FKQ.out (by have := HC.out.1; omega) (FMQ.out.take i) (by rw [htl]; have := HM.out.1; omega) ⟨HC.out.ok, HM.out.ok.take i⟩ (HFP.out i hle); rw [htl] at h; exact h)
            have q1 : (i : Int) ≤ (k : Int) := by omega
            have q2 : (0 : Int) ≤ (i : Int) := by omega
            have q3 : (i : Int) ≤ (d2 : Int) := by have := HMD.out; omega
            have q4 : (i : Int) + 1 ≤ 9223372036854775807 := by have := HM.out.1; omega
            have HI := Lib.hid hle
            clear hle hi him htl
            go_wp2_with fail
            refine HT.out.mono ?_
            rintro e v9 ⟨⟨out2, g2, rfl, htt, hk2⟩, hb⟩
            have HTT := Lib.hid htt; have FT := Lib.hid hk2; have FL9 := Lib.hid (FL.out.below hb (Nat.le_refl _)); have HB9 := Lib.hid (HBQ.out.trans (hb.mono HBQ.out.size)); clear htt hk2 hb HT FL FKQ FMQ HBQ HBW q1 q2 q3 q4
            have HOL := Lib.hid HTT.out.len
            rw [HOL.out]
            go_wp2_with fail
            go_loopw [19] (fun kk wr => ∃ u : Nat, kk = .int .i64 u ∧ u ≤ l.length ∧ Below v9.heap.size v9 wr) (fun kk _ => l.length - (intOf kk).toNat)
            case atStart => exact ⟨0, rfl, Nat.zero_le _, Below.refl _ _⟩
            case round =>
              rename World => wr2
              obtain ⟨u, rfl, hu, hB⟩ := hrel
              have HBR := Lib.hid hB; clear hB
              by_cases hlt : u < l.length
              case neg =>
                obtain rfl : u = l.length := by omega
                have q4 : (i : Int) + 1 ≤ 9223372036854775807 := by have := HI.out; have := HNM.out; have := HM.out.1; omega
                clear hlt hu
                go_wp2_with fail
                go_roundw
                case rel => exact ⟨i + 1, out2, _, _, by rw [HOL.out], by go_num, by have := HI.out; omega, HOL.out, FT.out.below HBR.out (Nat.le_refl _), ⟨fun h => absurd h (by omega), fun _ => HTT.out⟩, HB9.out.trans (HBR.out.mono HB9.out.size)⟩
                case measure => have := HI.out; simp [intOf]; omega
              case pos =>
                have hu1 : u < out.length := by rw [HLN3.out]; exact hlt
                have hu2 : u < out2.length := by rw [HOL.out]; exact hlt
                obtain ⟨b3, o3, rfl⟩ := Rz.some FL9.out (by omega)
                have HX := Lib.hid (fun W (hb : Below wr2.heap.size wr2 W) => by have h := Kz.cell (FT.out.below HBR.out (Nat.le_refl _)) hb (Nat.le_refl _) hu2; rw [Nat.zero_add] at h; exact h); have HY := Lib.hid (fun W (hb : Below wr2.heap.size wr2 W) => Kz.cell (FL9.out.below HBR.out (Nat.le_refl _)) hb (Nat.le_refl _) hu1)
                have hin := HWI.out.next HC.out HTT.out hu1 hu2
                obtain ⟨x, hx⟩ : ∃ x, x = out2[u] := ⟨_, rfl⟩
                obtain ⟨y, hy⟩ : ∃ y, y = out[u] := ⟨_, rfl⟩
                rw [← hx] at HX hin; rw [← hy] at HY hin
                obtain ⟨xp, xlo, xhi⟩ := x
                obtain ⟨yp, ylo, yhi⟩ := y
                dsimp only at HX HY hin
                have t1 : decide (xlo < ylo) = false := decide_eq_false (by omega)
                have q5 : (0 : Int) ≤ (u : Int) := by omega
                have q6 : (u : Int) < (l.length : Int) := by omega
                have q7 : (u : Int) + 1 ≤ 9223372036854775807 := by have := HC.out.1; omega
                have HI2 := Lib.hid hlt
                have HIN := Lib.hid hin
                clear hx hy hlt hu hu1 hu2 hin
                go_wp2_with fail
                refine wp_region_grow (S := (fun w' => w'.cell? ⟨g2, u * 3, none⟩ = some (.int .i64 xp) ∧ w'.cell? ⟨g2, u * 3 + 1, none⟩ = some (.int .i64 xlo) ∧ w'.cell? ⟨g2, u * 3 + 2, none⟩ = some (.int .i64 xhi) ∧ w'.cell? ⟨b3, o3 + u * 3, none⟩ = some (.int .i64 yp) ∧ w'.cell? ⟨b3, o3 + u * 3 + 1, none⟩ = some (.int .i64 ylo) ∧ w'.cell? ⟨b3, o3 + u * 3 + 2, none⟩ = some (.int .i64 yhi))) ((fun w' => Below wr2.heap.size wr2 w')) (by kernel_rfl) (⟨fun w2 h2 => ⟨(HX.out _ h2).1, (HX.out _ h2).2.1, (HX.out _ h2).2.2, (HY.out _ h2).1, (HY.out _ h2).2.1, (HY.out _ h2).2.2⟩, fun w2 w3 h2 hb2 => h2.trans (hb2.mono h2.size)⟩) ((Below.refl wr2.heap.size wr2).drew) (fun hCalm => ?_)
                refine grow_take 0 (some 128) ?_ rfl rfl (by kernel_rfl) (fun _ _ _ h => h) (by kernel_rfl) hCalm ?_ ?_
                rotate_left
                · intro wS hS; (try dsimp only at hS); go_simp <;> with_reducible rfl
                try simp only [Act.put, List.setIfInBounds_toArray, List.set_cons_zero, List.set_cons_succ]
                refine grow_take 1 (some 129) ?_ rfl rfl (by kernel_rfl) (fun _ _ _ h => h) (by kernel_rfl) hCalm ?_ ?_
                rotate_left
                · intro wS hS; (try dsimp only at hS); go_simp <;> with_reducible rfl
                try simp only [Act.put, List.setIfInBounds_toArray, List.set_cons_zero, List.set_cons_succ]
                refine grow_take 2 (some 130) ?_ rfl rfl (by kernel_rfl) (fun _ _ _ h => h) (by kernel_rfl) hCalm ?_ ?_
                rotate_left
                · intro wS hS; (try dsimp only at hS); go_simp <;> with_reducible rfl
                try simp only [Act.put, List.setIfInBounds_toArray, List.set_cons_zero, List.set_cons_succ]
                refine grow_take 3 (some 131) ?_ rfl rfl (by kernel_rfl) (fun _ _ _ h => h) (by kernel_rfl) hCalm ?_ ?_
                rotate_left
                · intro wS hS; (try dsimp only at hS); go_simp <;> with_reducible rfl
                try simp only [Act.put, List.setIfInBounds_toArray, List.set_cons_zero, List.set_cons_succ]
                refine grow_take 4 (some 132) ?_ rfl rfl (by kernel_rfl) (fun _ _ _ h => h) (by kernel_rfl) hCalm ?_ ?_
                rotate_left
                · intro wS hS; (try dsimp only at hS); go_simp <;> with_reducible rfl
                try simp only [Act.put, List.setIfInBounds_toArray, List.set_cons_zero, List.set_cons_succ]
                refine grow_take 5 (some 133) ?_ rfl rfl (by kernel_rfl) (fun _ _ _ h => h) (by kernel_rfl) hCalm ?_ ?_
                rotate_left
                · intro wS hS; (try dsimp only at hS); go_simp <;> with_reducible rfl
                try simp only [Act.put, List.setIfInBounds_toArray, List.set_cons_zero, List.set_cons_succ]
                refine grow_take 6 (some 134) ?_ rfl rfl (by kernel_rfl) (fun _ _ _ h => h) (by kernel_rfl) hCalm ?_ ?_
                rotate_left
                · intro wS hS; (try dsimp only at hS); go_simp <;> with_reducible rfl
                try simp only [Act.put, List.setIfInBounds_toArray, List.set_cons_zero, List.set_cons_succ]
                refine grow_take 7 (some 135) ?_ rfl rfl (by kernel_rfl) (fun _ _ _ h => h) (by kernel_rfl) hCalm ?_ ?_
                rotate_left
                · intro wS hS; (try dsimp only at hS); go_simp <;> with_reducible rfl
                try simp only [Act.put, List.setIfInBounds_toArray, List.set_cons_zero, List.set_cons_succ]
                refine grow_take 8 (some 136) ?_ rfl rfl (by kernel_rfl) (fun _ _ _ h => h) (by kernel_rfl) hCalm ?_ ?_
                rotate_left
                · intro wS hS; (try dsimp only at hS); go_simp <;> with_reducible rfl
                try simp only [Act.put, List.setIfInBounds_toArray, List.set_cons_zero, List.set_cons_succ]
                refine grow_take 9 (some 137) ?_ rfl rfl (by kernel_rfl) (fun _ _ _ h => h) (by kernel_rfl) hCalm ?_ ?_
                rotate_left
                · intro wS hS; (try dsimp only at hS); go_simp <;> with_reducible rfl
                try simp only [Act.put, List.setIfInBounds_toArray, List.set_cons_zero, List.set_cons_succ]
                refine grow_take 10 (some 138) (.bool false) rfl rfl (by kernel_rfl) (fun _ _ _ h => h) (by kernel_rfl) hCalm ?_ ?_
                · intro wS hS; (try dsimp only at hS); go_simp
                try simp only [Act.put, List.setIfInBounds_toArray, List.set_cons_zero, List.set_cons_succ]
                refine grow_take 11 (some 139) ?_ rfl rfl (by kernel_rfl) (fun _ _ _ h => h) (by kernel_rfl) hCalm ?_ ?_
                rotate_left
                · intro wS hS; (try dsimp only at hS); go_simp <;> with_reducible rfl
                try simp only [Act.put, List.setIfInBounds_toArray, List.set_cons_zero, List.set_cons_succ]
                refine grow_take 12 (some 140) ?_ rfl rfl (by kernel_rfl) (fun _ _ _ h => h) (by kernel_rfl) hCalm ?_ ?_
                rotate_left
                · intro wS hS; (try dsimp only at hS); go_simp <;> with_reducible rfl
                try simp only [Act.put, List.setIfInBounds_toArray, List.set_cons_zero, List.set_cons_succ]
                refine grow_take 13 (some 141) ?_ rfl rfl (by kernel_rfl) (fun _ _ _ h => h) (by kernel_rfl) hCalm ?_ ?_
                rotate_left
                · intro wS hS; (try dsimp only at hS); go_simp <;> with_reducible rfl
                try simp only [Act.put, List.setIfInBounds_toArray, List.set_cons_zero, List.set_cons_succ]
                refine grow_take 14 (some 142) ?_ rfl rfl (by kernel_rfl) (fun _ _ _ h => h) (by kernel_rfl) hCalm ?_ ?_
                rotate_left
                · intro wS hS; (try dsimp only at hS); go_simp <;> with_reducible rfl
                try simp only [Act.put, List.setIfInBounds_toArray, List.set_cons_zero, List.set_cons_succ]
                refine grow_take 15 (some 143) ?_ rfl rfl (by kernel_rfl) (fun _ _ _ h => h) (by kernel_rfl) hCalm ?_ ?_
                rotate_left
                · intro wS hS; (try dsimp only at hS); go_simp <;> with_reducible rfl
                try simp only [Act.put, List.setIfInBounds_toArray, List.set_cons_zero, List.set_cons_succ]
                refine grow_take 16 (some 144) ?_ rfl rfl (by kernel_rfl) (fun _ _ _ h => h) (by kernel_rfl) hCalm ?_ ?_
                rotate_left
                · intro wS hS; (try dsimp only at hS); go_simp <;> with_reducible rfl
                try simp only [Act.put, List.setIfInBounds_toArray, List.set_cons_zero, List.set_cons_succ]
                refine grow_take 17 (some 145) ?_ rfl rfl (by kernel_rfl) (fun _ _ _ h => h) (by kernel_rfl) hCalm ?_ ?_
                rotate_left
                · intro wS hS; (try dsimp only at hS); go_simp <;> with_reducible rfl
                try simp only [Act.put, List.setIfInBounds_toArray, List.set_cons_zero, List.set_cons_succ]
                refine grow_take 18 (some 146) ?_ rfl rfl (by kernel_rfl) (fun _ _ _ h => h) (by kernel_rfl) hCalm ?_ ?_
                rotate_left
                · intro wS hS; (try dsimp only at hS); go_simp <;> with_reducible rfl
                try simp only [Act.put, List.setIfInBounds_toArray, List.set_cons_zero, List.set_cons_succ]
                refine grow_take 19 (some 147) ?_ rfl rfl (by kernel_rfl) (fun _ _ _ h => h) (by kernel_rfl) hCalm ?_ ?_
                rotate_left
                · intro wS hS; (try dsimp only at hS); go_simp <;> with_reducible rfl
                try simp only [Act.put, List.setIfInBounds_toArray, List.set_cons_zero, List.set_cons_succ]
                refine grow_take 20 (some 148) ?_ rfl rfl (by kernel_rfl) (fun _ _ _ h => h) (by kernel_rfl) hCalm ?_ ?_
                rotate_left
                · intro wS hS; (try dsimp only at hS); go_simp <;> with_reducible rfl
                try simp only [Act.put, List.setIfInBounds_toArray, List.set_cons_zero, List.set_cons_succ]
                refine grow_take 21 (some 149) ?_ rfl rfl (by kernel_rfl) (fun _ _ _ h => h) (by kernel_rfl) hCalm ?_ ?_
                rotate_left
                · intro wS hS; (try dsimp only at hS); go_simp <;> with_reducible rfl
                try simp only [Act.put, List.setIfInBounds_toArray, List.set_cons_zero, List.set_cons_succ]
                refine grow_take 22 (some 150) (.bool false) rfl rfl (by kernel_rfl) (fun _ _ _ h => h) (by kernel_rfl) hCalm ?_ ?_
                · intro wS hS; (try dsimp only at hS); go_simp
                  have := HIN.out; omega
                try simp only [Act.put, List.setIfInBounds_toArray, List.set_cons_zero, List.set_cons_succ]
                refine grow_take 23 (some 151) ?_ rfl rfl (by kernel_rfl) (fun _ _ _ h => h) (by kernel_rfl) hCalm ?_ ?_
                rotate_left
                · intro wS hS; (try dsimp only at hS); go_simp <;> with_reducible rfl
                try simp only [Act.put, List.setIfInBounds_toArray, List.set_cons_zero, List.set_cons_succ]
                refine grow_done (by kernel_rfl) (fun wA hA => ?_) _
                have HBZ := Lib.hid (HBR.out.trans (hA.mono HBR.out.size)); clear hA
                go_wp2_with fail
                go_roundw
                case rel => exact ⟨u + 1, by go_num, HI2.out, HBZ.out⟩
                case measure => have := HI2.out; simp [intOf]; omega
      case pos =>
        obtain ⟨b2, o2, rfl⟩ := Rz.some FKR.out (by omega)
        obtain ⟨y0, y1, y2⟩ := Kz.cell FKR.out (Below.refl _ _) (Nat.le_refl _) hlt
        have hcb := HC.out.2 i hlt
        have HY := Lib.hid (fun W (hb : Below wr.heap.size wr W) => Kz.cell FKR.out hb (Nat.le_refl _) hlt)
        obtain ⟨y, hy⟩ : ∃ y, y = l[i] := ⟨_, rfl⟩
        rw [← hy] at y0 y1 y2 hcb HY
        obtain ⟨yp, ylo, yhi⟩ := y
        dsimp only at y0 y1 y2 hcb HY
        obtain ⟨hp2, hcb⟩ := hcb
        subst hp2
        have HYB := Lib.hid hcb
        have HI := Lib.hid hlt
        have q1 : (0 : Int) ≤ (i : Int) := by omega
        have q2 : (i : Int) < (l.length : Int) := by omega
        have q5 : (i : Int) + 1 ≤ 9223372036854775807 := by have := HC.out.1; omega
        clear hy hlt hi hcb
        go_wp2_with fail
        clear y0 y1 y2
        go_loopw [13] (fun vv wr2 => ∃ V : Int, vv = .int .i64 V ∧ ylo ≤ V ∧ V ≤ yhi + 1 ∧ Below wr.heap.size wr wr2) (fun vv _ => (yhi + 1 - intOf vv).toNat)
        case atStart => exact ⟨ylo, rfl, Int.le_refl _, by have := HYB.out; omega, Below.refl _ _⟩
        case round =>
          rename World => wr2
          obtain ⟨V, rfl, hV1, hV2, hB2⟩ := hrel
          have HBR2 := Lib.hid hB2; clear hB2
          have FK8 := Lib.hid (FKR.out.below HBR2.out (Nat.le_refl _)); have FM8 := Lib.hid (FMR.out.below HBR2.out (Nat.le_refl _)); have X8 := Lib.hid (XR.out.below HBR2.out XR.out.lt); have HB8 := Lib.hid (HBR.out.trans (HBR2.out.mono HBR.out.size))
          have HY8 := Lib.hid (fun W (hb : Below wr2.heap.size wr2 W) => HY.out W (HBR2.out.trans (hb.mono HBR2.out.size)))
          by_cases hle : V ≤ yhi
          case neg =>
            have t1 : decide (V ≤ yhi) = false := decide_eq_false hle
            clear hV1 hV2 hle
            go_wp2_with fail
            refine wp_region_grow (S := (fun w' => w'.cell? ⟨b2, o2 + i * 3, none⟩ = some (.int .i64 (i : Nat)) ∧ w'.cell? ⟨b2, o2 + i * 3 + 1, none⟩ = some (.int .i64 ylo) ∧ w'.cell? ⟨b2, o2 + i * 3 + 2, none⟩ = some (.int .i64 yhi) ∧ w'.cell? ⟨v3.heap.size, 0, none⟩ = some (.int .i64 (a : Nat)))) ((fun w' => Below wr2.heap.size wr2 w')) (by kernel_rfl) (⟨fun w2 h2 => ⟨(HY8.out _ h2).1, (HY8.out _ h2).2.1, (HY8.out _ h2).2.2, ((X8.out.below h2 X8.out.lt).cell (i := 0) (v := .int .i64 (a : Nat)) rfl)⟩, fun w2 w3 h2 hb2 => h2.trans (hb2.mono h2.size)⟩) ((Below.refl wr2.heap.size wr2).drew) (fun hCalm => ?_)
            refine grow_take 0 (some 66) ?_ rfl rfl (by kernel_rfl) (fun _ _ _ h => h) (by kernel_rfl) hCalm ?_ ?_
            rotate_left
            · intro wS hS; (try dsimp only at hS); go_simp <;> with_reducible rfl
            try simp only [Act.put, List.setIfInBounds_toArray, List.set_cons_zero, List.set_cons_succ]
            refine grow_take 1 (some 67) ?_ rfl rfl (by kernel_rfl) (fun _ _ _ h => h) (by kernel_rfl) hCalm ?_ ?_
            rotate_left
            · intro wS hS; (try dsimp only at hS); go_simp <;> with_reducible rfl
            try simp only [Act.put, List.setIfInBounds_toArray, List.set_cons_zero, List.set_cons_succ]
            refine grow_take 2 (some 68) ?_ rfl rfl (by kernel_rfl) (fun _ _ _ h => h) (by kernel_rfl) hCalm ?_ ?_
            rotate_left
            · intro wS hS; (try dsimp only at hS); go_simp <;> with_reducible rfl
            try simp only [Act.put, List.setIfInBounds_toArray, List.set_cons_zero, List.set_cons_succ]
            refine grow_take 3 (some 69) ?_ rfl rfl (by kernel_rfl) (fun _ _ _ h => h) (by kernel_rfl) hCalm ?_ ?_
            rotate_left
            · intro wS hS; (try dsimp only at hS); go_simp <;> with_reducible rfl
            try simp only [Act.put, List.setIfInBounds_toArray, List.set_cons_zero, List.set_cons_succ]
            refine grow_take 4 (some 70) ?_ rfl rfl (by kernel_rfl) (fun _ _ _ h => h) (by kernel_rfl) hCalm ?_ ?_
            rotate_left
            · intro wS hS; (try dsimp only at hS); go_simp <;> with_reducible rfl
            try simp only [Act.put, List.setIfInBounds_toArray, List.set_cons_zero, List.set_cons_succ]
            refine grow_take 5 (some 71) ?_ rfl rfl (by kernel_rfl) (fun _ _ _ h => h) (by kernel_rfl) hCalm ?_ ?_
            rotate_left
            · intro wS hS; (try dsimp only at hS); go_simp <;> with_reducible rfl
            try simp only [Act.put, List.setIfInBounds_toArray, List.set_cons_zero, List.set_cons_succ]
            refine grow_take 6 (some 72) (.bool false) rfl rfl (by kernel_rfl) (fun _ _ _ h => h) (by kernel_rfl) hCalm ?_ ?_
            · intro wS hS; (try dsimp only at hS); go_simp
            try simp only [Act.put, List.setIfInBounds_toArray, List.set_cons_zero, List.set_cons_succ]
            refine grow_take 7 (some 73) ?_ rfl rfl (by kernel_rfl) (fun _ _ _ h => h) (by kernel_rfl) hCalm ?_ ?_
            rotate_left
            · intro wS hS; (try dsimp only at hS); go_simp <;> with_reducible rfl
            try simp only [Act.put, List.setIfInBounds_toArray, List.set_cons_zero, List.set_cons_succ]
            refine grow_skip 8 (some 74) rfl rfl (by kernel_rfl) (fun _ _ _ h => h) (by kernel_rfl) hCalm ?_
            try simp only [Act.put, List.setIfInBounds_toArray, List.set_cons_zero, List.set_cons_succ]
            refine grow_skip 9 (some 75) rfl rfl (by kernel_rfl) (fun _ _ _ h => h) (by kernel_rfl) hCalm ?_
            try simp only [Act.put, List.setIfInBounds_toArray, List.set_cons_zero, List.set_cons_succ]
            refine grow_skip 10 (some 76) rfl rfl (by kernel_rfl) (fun _ _ _ h => h) (by kernel_rfl) hCalm ?_
            try simp only [Act.put, List.setIfInBounds_toArray, List.set_cons_zero, List.set_cons_succ]
            refine grow_skip 11 (some 77) rfl rfl (by kernel_rfl) (fun _ _ _ h => h) (by kernel_rfl) hCalm ?_
            try simp only [Act.put, List.setIfInBounds_toArray, List.set_cons_zero, List.set_cons_succ]
            refine grow_skip 12 (some 78) rfl rfl (by kernel_rfl) (fun _ _ _ h => h) (by kernel_rfl) hCalm ?_
            try simp only [Act.put, List.setIfInBounds_toArray, List.set_cons_zero, List.set_cons_succ]
            refine grow_skip 13 (some 79) rfl rfl (by kernel_rfl) (fun _ _ _ h => h) (by kernel_rfl) hCalm ?_
            try simp only [Act.put, List.setIfInBounds_toArray, List.set_cons_zero, List.set_cons_succ]
            refine grow_skip 14 (some 80) rfl rfl (by kernel_rfl) (fun _ _ _ h => h) (by kernel_rfl) hCalm ?_
            try simp only [Act.put, List.setIfInBounds_toArray, List.set_cons_zero, List.set_cons_succ]
            refine grow_skip 15 (some 81) rfl rfl (by kernel_rfl) (fun _ _ _ h => h) (by kernel_rfl) hCalm ?_
            try simp only [Act.put, List.setIfInBounds_toArray, List.set_cons_zero, List.set_cons_succ]
            refine grow_take 16 (some 82) ?_ rfl rfl (by kernel_rfl) (fun _ _ _ h => h) (by kernel_rfl) hCalm ?_ ?_
            rotate_left
            · intro wS hS; (try dsimp only at hS); go_simp <;> with_reducible rfl
            try simp only [Act.put, List.setIfInBounds_toArray, List.set_cons_zero, List.set_cons_succ]
            refine grow_done (by kernel_rfl) (fun wA hA => ?_) _
            have HB9 := Lib.hid (HB8.out.trans (hA.mono HB8.out.size)); clear hA
            go_wp2_with fail
            go_roundw
            case rel => exact ⟨i + 1, by go_num, HI.out, HB9.out⟩
            case measure => have := HI.out; simp [intOf]; omega
          case pos =>
            have t1 : decide (V ≤ yhi) = true := decide_eq_true hle
            by_cases hpa : i = a
            case neg =>
              have t2 : ((i : Int) == (a : Int)) = false := by rw [beq_eq_false_iff_ne]; omega
              have t3 : (i == a) = false := by rw [beq_eq_false_iff_ne]; exact hpa
              clear hV1 hV2 hle hpa
              go_wp2_with fail
              refine wp_region_grow (S := (fun w' => w'.cell? ⟨b2, o2 + i * 3, none⟩ = some (.int .i64 (i : Nat)) ∧ w'.cell? ⟨b2, o2 + i * 3 + 1, none⟩ = some (.int .i64 ylo) ∧ w'.cell? ⟨b2, o2 + i * 3 + 2, none⟩ = some (.int .i64 yhi) ∧ w'.cell? ⟨v3.heap.size, 0, none⟩ = some (.int .i64 (a : Nat)))) ((fun w' => Below wr2.heap.size wr2 w')) (by kernel_rfl) (⟨fun w2 h2 => ⟨(HY8.out _ h2).1, (HY8.out _ h2).2.1, (HY8.out _ h2).2.2, ((X8.out.below h2 X8.out.lt).cell (i := 0) (v := .int .i64 (a : Nat)) rfl)⟩, fun w2 w3 h2 hb2 => h2.trans (hb2.mono h2.size)⟩) ((Below.refl wr2.heap.size wr2).drew) (fun hCalm => ?_)
              refine grow_take 0 (some 66) ?_ rfl rfl (by kernel_rfl) (fun _ _ _ h => h) (by kernel_rfl) hCalm ?_ ?_
              rotate_left
              · intro wS hS; (try dsimp only at hS); go_simp <;> with_reducible rfl
              try simp only [Act.put, List.setIfInBounds_toArray, List.set_cons_zero, List.set_cons_succ]
              refine grow_take 1 (some 67) ?_ rfl rfl (by kernel_rfl) (fun _ _ _ h => h) (by kernel_rfl) hCalm ?_ ?_
              rotate_left
              · intro wS hS; (try dsimp only at hS); go_simp <;> with_reducible rfl
              try simp only [Act.put, List.setIfInBounds_toArray, List.set_cons_zero, List.set_cons_succ]
              refine grow_take 2 (some 68) ?_ rfl rfl (by kernel_rfl) (fun _ _ _ h => h) (by kernel_rfl) hCalm ?_ ?_
              rotate_left
              · intro wS hS; (try dsimp only at hS); go_simp <;> with_reducible rfl
              try simp only [Act.put, List.setIfInBounds_toArray, List.set_cons_zero, List.set_cons_succ]
              refine grow_take 3 (some 69) ?_ rfl rfl (by kernel_rfl) (fun _ _ _ h => h) (by kernel_rfl) hCalm ?_ ?_
              rotate_left
              · intro wS hS; (try dsimp only at hS); go_simp <;> with_reducible rfl
              try simp only [Act.put, List.setIfInBounds_toArray, List.set_cons_zero, List.set_cons_succ]
              refine grow_take 4 (some 70) ?_ rfl rfl (by kernel_rfl) (fun _ _ _ h => h) (by kernel_rfl) hCalm ?_ ?_
              rotate_left
              · intro wS hS; (try dsimp only at hS); go_simp <;> with_reducible rfl
              try simp only [Act.put, List.setIfInBounds_toArray, List.set_cons_zero, List.set_cons_succ]
              refine grow_take 5 (some 71) ?_ rfl rfl (by kernel_rfl) (fun _ _ _ h => h) (by kernel_rfl) hCalm ?_ ?_
              rotate_left
              · intro wS hS; (try dsimp only at hS); go_simp <;> with_reducible rfl
              try simp only [Act.put, List.setIfInBounds_toArray, List.set_cons_zero, List.set_cons_succ]
              refine grow_take 6 (some 72) (.bool true) rfl rfl (by kernel_rfl) (fun _ _ _ h => h) (by kernel_rfl) hCalm ?_ ?_
              · intro wS hS; (try dsimp only at hS); go_simp
              try simp only [Act.put, List.setIfInBounds_toArray, List.set_cons_zero, List.set_cons_succ]
              refine grow_take 7 (some 73) ?_ rfl rfl (by kernel_rfl) (fun _ _ _ h => h) (by kernel_rfl) hCalm ?_ ?_
              rotate_left
              · intro wS hS; (try dsimp only at hS); go_simp <;> with_reducible rfl
              try simp only [Act.put, List.setIfInBounds_toArray, List.set_cons_zero, List.set_cons_succ]
              refine grow_take 8 (some 74) ?_ rfl rfl (by kernel_rfl) (fun _ _ _ h => h) (by kernel_rfl) hCalm ?_ ?_
              rotate_left
              · intro wS hS; (try dsimp only at hS); go_simp <;> with_reducible rfl
              try simp only [Act.put, List.setIfInBounds_toArray, List.set_cons_zero, List.set_cons_succ]
              refine grow_take 9 (some 75) ?_ rfl rfl (by kernel_rfl) (fun _ _ _ h => h) (by kernel_rfl) hCalm ?_ ?_
              rotate_left
              · intro wS hS; (try dsimp only at hS); go_simp <;> with_reducible rfl
              try simp only [Act.put, List.setIfInBounds_toArray, List.set_cons_zero, List.set_cons_succ]
              refine grow_take 10 (some 76) ?_ rfl rfl (by kernel_rfl) (fun _ _ _ h => h) (by kernel_rfl) hCalm ?_ ?_
              rotate_left
              · intro wS hS; (try dsimp only at hS); go_simp <;> with_reducible rfl
              try simp only [Act.put, List.setIfInBounds_toArray, List.set_cons_zero, List.set_cons_succ]
              refine grow_take 11 (some 77) ?_ rfl rfl (by kernel_rfl) (fun _ _ _ h => h) (by kernel_rfl) hCalm ?_ ?_
              rotate_left
              · intro wS hS; (try dsimp only at hS); go_simp <;> with_reducible rfl
              try simp only [Act.put, List.setIfInBounds_toArray, List.set_cons_zero, List.set_cons_succ]
              refine grow_take 12 (some 78) ?_ rfl rfl (by kernel_rfl) (fun _ _ _ h => h) (by kernel_rfl) hCalm ?_ ?_
              rotate_left
              · intro wS hS; (try dsimp only at hS); go_simp <;> with_reducible rfl
              try simp only [Act.put, List.setIfInBounds_toArray, List.set_cons_zero, List.set_cons_succ]
              refine grow_take 13 (some 79) ?_ rfl rfl (by kernel_rfl) (fun _ _ _ h => h) (by kernel_rfl) hCalm ?_ ?_
              rotate_left
              · intro wS hS; (try dsimp only at hS); go_simp <;> with_reducible rfl
              try simp only [Act.put, List.setIfInBounds_toArray, List.set_cons_zero, List.set_cons_succ]
              refine grow_take 14 (some 80) ?_ rfl rfl (by kernel_rfl) (fun _ _ _ h => h) (by kernel_rfl) hCalm ?_ ?_
              rotate_left
              · intro wS hS; (try dsimp only at hS); go_simp <;> with_reducible rfl
              try simp only [Act.put, List.setIfInBounds_toArray, List.set_cons_zero, List.set_cons_succ]
              refine grow_take 15 (some 81) (.bool false) rfl rfl (by kernel_rfl) (fun _ _ _ h => h) (by kernel_rfl) hCalm ?_ ?_
              · intro wS hS; (try dsimp only at hS); go_simp
              try simp only [Act.put, List.setIfInBounds_toArray, List.set_cons_zero, List.set_cons_succ]
              refine grow_take 16 (some 82) ?_ rfl rfl (by kernel_rfl) (fun _ _ _ h => h) (by kernel_rfl) hCalm ?_ ?_
              rotate_left
              · intro wS hS; (try dsimp only at hS); go_simp <;> with_reducible rfl
              try simp only [Act.put, List.setIfInBounds_toArray, List.set_cons_zero, List.set_cons_succ]
              refine grow_done (by kernel_rfl) (fun wA hA => ?_) _
              have HB9 := Lib.hid (HB8.out.trans (hA.mono HB8.out.size)); clear hA
              go_wp2_with fail
              go_roundw
              case rel => exact ⟨i + 1, by go_num, HI.out, HB9.out⟩
              case measure => have := HI.out; simp [intOf]; omega
            case pos =>
              subst hpa
              have HV := Lib.hid (And.intro hV1 hle)
              have HP9 := Lib.hid (fun W hk1 hm1 => HPN.out W hk1 hm1 V (by have := HYB.out; omega))
              have e1 : IntKind.i64.wrap ((k : Int) + 1) = ((k + 1 : Nat) : Int) := by rw [IntWalk.i64_in _ (by have := HNM.out; have := HM.out.1; omega)]; omega
              obtain ⟨kk, hkk⟩ : ∃ kk, kk = k + 1 := ⟨_, rfl⟩
              rw [← hkk] at e1 HP9 hkd
              have q6 : (0 : Int) ≤ (kk : Int) := by omega
              have q7 : (kk : Int) ≤ (d2 : Int) := by omega
              clear hkk
              have q8 : IntKind.i64.wrap (V + 1) = V + 1 := IntWalk.i64_in _ (by have := HYB.out; omega)
              clear hV1 hV2 hle
              go_wp2_with fail
              refine wp_region_grow (S := (fun w' => w'.cell? ⟨b2, o2 + i * 3, none⟩ = some (.int .i64 (i : Nat)) ∧ w'.cell? ⟨b2, o2 + i * 3 + 1, none⟩ = some (.int .i64 ylo) ∧ w'.cell? ⟨b2, o2 + i * 3 + 2, none⟩ = some (.int .i64 yhi) ∧ w'.cell? ⟨v3.heap.size, 0, none⟩ = some (.int .i64 (i : Nat)))) ((fun w' => Below wr2.heap.size wr2 w')) (by kernel_rfl) (⟨fun w2 h2 => ⟨(HY8.out _ h2).1, (HY8.out _ h2).2.1, (HY8.out _ h2).2.2, ((X8.out.below h2 X8.out.lt).cell (i := 0) (v := .int .i64 (i : Nat)) rfl)⟩, fun w2 w3 h2 hb2 => h2.trans (hb2.mono h2.size)⟩) ((Below.refl wr2.heap.size wr2).drew) (fun hCalm => ?_)
              refine grow_take 0 (some 66) ?_ rfl rfl (by kernel_rfl) (fun _ _ _ h => h) (by kernel_rfl) hCalm ?_ ?_
              rotate_left
              · intro wS hS; (try dsimp only at hS); go_simp <;> with_reducible rfl
              try simp only [Act.put, List.setIfInBounds_toArray, List.set_cons_zero, List.set_cons_succ]
              refine grow_take 1 (some 67) ?_ rfl rfl (by kernel_rfl) (fun _ _ _ h => h) (by kernel_rfl) hCalm ?_ ?_
              rotate_left
              · intro wS hS; (try dsimp only at hS); go_simp <;> with_reducible rfl
              try simp only [Act.put, List.setIfInBounds_toArray, List.set_cons_zero, List.set_cons_succ]
              refine grow_take 2 (some 68) ?_ rfl rfl (by kernel_rfl) (fun _ _ _ h => h) (by kernel_rfl) hCalm ?_ ?_
              rotate_left
              · intro wS hS; (try dsimp only at hS); go_simp <;> with_reducible rfl
              try simp only [Act.put, List.setIfInBounds_toArray, List.set_cons_zero, List.set_cons_succ]
              refine grow_take 3 (some 69) ?_ rfl rfl (by kernel_rfl) (fun _ _ _ h => h) (by kernel_rfl) hCalm ?_ ?_
              rotate_left
              · intro wS hS; (try dsimp only at hS); go_simp <;> with_reducible rfl
              try simp only [Act.put, List.setIfInBounds_toArray, List.set_cons_zero, List.set_cons_succ]
              refine grow_take 4 (some 70) ?_ rfl rfl (by kernel_rfl) (fun _ _ _ h => h) (by kernel_rfl) hCalm ?_ ?_
              rotate_left
              · intro wS hS; (try dsimp only at hS); go_simp <;> with_reducible rfl
              try simp only [Act.put, List.setIfInBounds_toArray, List.set_cons_zero, List.set_cons_succ]
              refine grow_take 5 (some 71) ?_ rfl rfl (by kernel_rfl) (fun _ _ _ h => h) (by kernel_rfl) hCalm ?_ ?_
              rotate_left
              · intro wS hS; (try dsimp only at hS); go_simp <;> with_reducible rfl
              try simp only [Act.put, List.setIfInBounds_toArray, List.set_cons_zero, List.set_cons_succ]
              refine grow_take 6 (some 72) (.bool true) rfl rfl (by kernel_rfl) (fun _ _ _ h => h) (by kernel_rfl) hCalm ?_ ?_
              · intro wS hS; (try dsimp only at hS); go_simp
              try simp only [Act.put, List.setIfInBounds_toArray, List.set_cons_zero, List.set_cons_succ]
              refine grow_take 7 (some 73) ?_ rfl rfl (by kernel_rfl) (fun _ _ _ h => h) (by kernel_rfl) hCalm ?_ ?_
              rotate_left
              · intro wS hS; (try dsimp only at hS); go_simp <;> with_reducible rfl
              try simp only [Act.put, List.setIfInBounds_toArray, List.set_cons_zero, List.set_cons_succ]
              refine grow_take 8 (some 74) ?_ rfl rfl (by kernel_rfl) (fun _ _ _ h => h) (by kernel_rfl) hCalm ?_ ?_
              rotate_left
              · intro wS hS; (try dsimp only at hS); go_simp <;> with_reducible rfl
              try simp only [Act.put, List.setIfInBounds_toArray, List.set_cons_zero, List.set_cons_succ]
              refine grow_take 9 (some 75) ?_ rfl rfl (by kernel_rfl) (fun _ _ _ h => h) (by kernel_rfl) hCalm ?_ ?_
              rotate_left
              · intro wS hS; (try dsimp only at hS); go_simp <;> with_reducible rfl
              try simp only [Act.put, List.setIfInBounds_toArray, List.set_cons_zero, List.set_cons_succ]
              refine grow_take 10 (some 76) ?_ rfl rfl (by kernel_rfl) (fun _ _ _ h => h) (by kernel_rfl) hCalm ?_ ?_
              rotate_left
              · intro wS hS; (try dsimp only at hS); go_simp <;> with_reducible rfl
              try simp only [Act.put, List.setIfInBounds_toArray, List.set_cons_zero, List.set_cons_succ]
              refine grow_take 11 (some 77) ?_ rfl rfl (by kernel_rfl) (fun _ _ _ h => h) (by kernel_rfl) hCalm ?_ ?_
              rotate_left
              · intro wS hS; (try dsimp only at hS); go_simp <;> with_reducible rfl
              try simp only [Act.put, List.setIfInBounds_toArray, List.set_cons_zero, List.set_cons_succ]
              refine grow_take 12 (some 78) ?_ rfl rfl (by kernel_rfl) (fun _ _ _ h => h) (by kernel_rfl) hCalm ?_ ?_
              rotate_left
              · intro wS hS; (try dsimp only at hS); go_simp <;> with_reducible rfl
              try simp only [Act.put, List.setIfInBounds_toArray, List.set_cons_zero, List.set_cons_succ]
              refine grow_take 13 (some 79) ?_ rfl rfl (by kernel_rfl) (fun _ _ _ h => h) (by kernel_rfl) hCalm ?_ ?_
              rotate_left
              · intro wS hS; (try dsimp only at hS); go_simp <;> with_reducible rfl
              try simp only [Act.put, List.setIfInBounds_toArray, List.set_cons_zero, List.set_cons_succ]
              refine grow_take 14 (some 80) ?_ rfl rfl (by kernel_rfl) (fun _ _ _ h => h) (by kernel_rfl) hCalm ?_ ?_
              rotate_left
              · intro wS hS; (try dsimp only at hS); go_simp <;> with_reducible rfl
              try simp only [Act.put, List.setIfInBounds_toArray, List.set_cons_zero, List.set_cons_succ]
              refine grow_take 15 (some 81) (.bool true) rfl rfl (by kernel_rfl) (fun _ _ _ h => h) (by kernel_rfl) hCalm ?_ ?_
              · intro wS hS; (try dsimp only at hS); go_simp
              try simp only [Act.put, List.setIfInBounds_toArray, List.set_cons_zero, List.set_cons_succ]
              refine grow_take 16 (some 82) ?_ rfl rfl (by kernel_rfl) (fun _ _ _ h => h) (by kernel_rfl) hCalm ?_ ?_
              rotate_left
              · intro wS hS; (try dsimp only at hS); go_simp <;> with_reducible rfl
              try simp only [Act.put, List.setIfInBounds_toArray, List.set_cons_zero, List.set_cons_succ]
              refine grow_done (by kernel_rfl) (fun wA hA => ?_) _
              have HB7 := Lib.hid hA; clear hA
              have t4 := trivial
              clear t4
              go_wp2_with fail
              refine wp_region_grow (S := (fun w' => w'.cell? ⟨v3.heap.size, 0, none⟩ = some (.int .i64 (i : Nat)) ∧ Kz w' (some ⟨b2, o2, none⟩) l ∧ Mz w' (some ⟨b, o, none⟩) ms)) ((fun w' => Below wr2.heap.size wr2 w')) (by kernel_rfl) (⟨fun w2 h2 => ⟨((X8.out.below h2 X8.out.lt).cell (i := 0) (v := .int .i64 (i : Nat)) rfl), FK8.out.below h2 (Nat.le_refl _), FM8.out.below h2 (Nat.le_refl _)⟩, fun w2 w3 h2 hb2 => h2.trans (hb2.mono h2.size)⟩) (HB7.out.drew) (fun hCalm => ?_)
              refine grow_take 0 (some 85) ?_ rfl rfl (by kernel_rfl) (fun _ _ _ h => h) (by kernel_rfl) hCalm ?_ ?_
              rotate_left
              · intro wS hS; (try dsimp only at hS); go_simp <;> with_reducible rfl
              try simp only [Act.put, List.setIfInBounds_toArray, List.set_cons_zero, List.set_cons_succ]
              refine grow_take 1 (some 86) ?_ rfl rfl (by kernel_rfl) (fun _ _ _ h => h) (by kernel_rfl) hCalm ?_ ?_
              rotate_left
              · intro wS hS; (try dsimp only at hS); go_simp <;> with_reducible rfl
              try simp only [Act.put, List.setIfInBounds_toArray, List.set_cons_zero, List.set_cons_succ]
              refine grow_take 2 (some 87) ?_ rfl rfl (by kernel_rfl) (fun _ _ _ h => h) (by kernel_rfl) hCalm ?_ ?_
              rotate_left
              · intro wS hS; (try dsimp only at hS); go_simp <;> with_reducible rfl
              try simp only [Act.put, List.setIfInBounds_toArray, List.set_cons_zero, List.set_cons_succ]
              refine grow_take 3 (some 88) ?_ rfl rfl (by kernel_rfl) (fun _ _ _ h => h) (by kernel_rfl) hCalm ?_ ?_
              rotate_left
              · intro wS hS; (try dsimp only at hS); go_simp <;> with_reducible rfl
              try simp only [Act.put, List.setIfInBounds_toArray, List.set_cons_zero, List.set_cons_succ]
              refine grow_take 4 (some 89) ?_ rfl rfl (by kernel_rfl) (fun _ _ _ h => h) (by kernel_rfl) hCalm ?_ ?_
              rotate_left
              · intro wS hS; (try dsimp only at hS); go_simp <;> with_reducible rfl
              try simp only [Act.put, List.setIfInBounds_toArray, List.set_cons_zero, List.set_cons_succ]
              refine grow_take 5 (some 90) ?_ rfl rfl (by kernel_rfl) (fun _ _ _ h => h) (by kernel_rfl) hCalm ?_ ?_
              rotate_left
              · intro wS hS; (try dsimp only at hS); go_simp <;> with_reducible rfl
              try simp only [Act.put, List.setIfInBounds_toArray, List.set_cons_zero, List.set_cons_succ]
              refine grow_take 6 (some 91) ?_ rfl rfl (by kernel_rfl) (fun _ _ _ h => h) (by kernel_rfl) hCalm ?_ ?_
              rotate_left
              · intro wS hS; (try dsimp only at hS); go_simp <;> with_reducible rfl
              try simp only [Act.put, List.setIfInBounds_toArray, List.set_cons_zero, List.set_cons_succ]
              refine grow_take 7 (some 92) ?_ rfl rfl (by kernel_rfl) (fun _ _ _ h => h) (by kernel_rfl) hCalm ?_ ?_
              rotate_left
              · intro wS hS; (try dsimp only at hS); go_simp <;> with_reducible rfl
              try simp only [Act.put, List.setIfInBounds_toArray, List.set_cons_zero, List.set_cons_succ]
              refine grow_call 8 (some 93) (.bool false) 63 [.tmp 85, .tmp 89, .tmp 91, .tmp 92] #[80, 82, 3, 3] rfl rfl (by kernel_rfl) (fun _ _ _ h => h) (by kernel_rfl) hCalm rfl (enters_of Try.func63 (by kernel_rfl) rfl) (fun wz hS => HP9.out wz hS.2.1 hS.2.2) (by kernel_rfl) ?_
              try simp only [Act.put, List.setIfInBounds_toArray, List.set_cons_zero, List.set_cons_succ]
              refine grow_done (by kernel_rfl) (fun wA hA => ?_) _
              have HBZ := Lib.hid (HBR2.out.trans (hA.mono HBR2.out.size)); clear hA
              go_wp2_with fail
              go_roundw
              case rel => exact ⟨V + 1, rfl, by have := HV.out; omega, by have := HV.out; omega, HBZ.out⟩
              case measure => have := HV.out; simp [intOf]; omega
  case pos =>
    have HT := Lib.hid (ptight_ok l ms A2 B2 c2 d2 _ FK_3.out (by have := HC.out.1; omega) FM_3.out (by have := HM.out.1; omega) ⟨HC.out.ok, HM.out.ok⟩ hf); have HFP := Lib.hid (fun j (_ : j ≤ ms.length) => hf.take j); have HNM : Hid (ms.length ≤ ms.length) := Lib.hid (Nat.le_refl _); clear hf
    go_wp2_with fail
    refine (HT.out).mono ?_
    rintro e v3 ⟨⟨_, _, rfl, -, -⟩, hb⟩
    clear HT
    have FK_4 : Hid (Kz v3 A2 l) := Lib.hid (FK_3.out.below hb (Nat.le_refl _))
    have FM_4 : Hid (Mz v3 B2 ms) := Lib.hid (FM_3.out.below hb (Nat.le_refl _))
    clear FK_3 FM_3
    have HB_4 : Hid (Below w.heap.size w v3) := Lib.hid (HB_3.out.trans (hb.mono HB_3.out.size))
    clear hb HB_3
    have q1 : ¬ ((ms.length : Int) ≤ -1) := by omega
    rcases B2 with _ | ⟨b, o, pp⟩
    case none =>
      clear HBN
      have hundef := un_none
      go_wp2_with fail
      try clear q1
      go_loopw [14, 15] (fun la ii wq => ∃ (i : Nat) (out : List Sk) (A3 : Option Addr) (c3 : Nat), la = .slice A3 out.length c3 ∧ ii = .int .i64 i ∧ i ≤ ms.length + 1 ∧ out.length = l.length ∧ Kz wq A3 out ∧ Wid l ms i out ∧ Below v3.heap.size v3 wq) (fun _ ii _ => ms.length + 1 - (intOf ii).toNat)
      case atStart => exact ⟨0, l, _, _, rfl, rfl, Nat.zero_le _, rfl, FK_4.out, ⟨fun _ => rfl, fun h => absurd h (by omega)⟩, Below.refl _ _⟩
      case round =>
        rename World => wq
        obtain ⟨i, out, A3, c3, rfl, rfl, hi, hlen, hkz, hwid, hB⟩ := hrel
        have HLN3 := Lib.hid hlen; have FL := Lib.hid hkz; have HWI := Lib.hid hwid; have HBQ := Lib.hid hB; clear hlen hkz hwid hB
        have FKQ := Lib.hid (FK_4.out.below HBQ.out (Nat.le_refl _)); have FMQ := Lib.hid (FM_4.out.below HBQ.out (Nat.le_refl _)); have HBW := Lib.hid (HB_4.out.trans (HBQ.out.mono HB_4.out.size))
        rw [HLN3.out]
        by_cases hle : i ≤ ms.length
        case neg =>
          obtain rfl : i = ms.length + 1 := by omega
          have q3 : ¬ ((ms.length : Int) + 1 ≤ (ms.length : Int)) := by omega
          have q4 : ¬ (ms.length + 1 ≤ ms.length) := by omega
          clear hle hi
          go_wp2_with fail
          go_ret
          exact ⟨rfl, HBW.out⟩
        case pos =>
          have him : i ≤ ms.length := by have := HNM.out; omega
          have htl : (ms.take i).length = i := by simp; omega
          have HT := Lib.hid (by have h := ptight_ok l (ms.take i) A2 none c2 d2 wq FKQ.out (by have := HC.out.1; omega) (FMQ.out.take i) (by rw [htl]; have := HM.out.1; omega) ⟨HC.out.ok, HM.out.ok.take i⟩ (HFP.out i hle); rw [htl] at h; exact h)
          have q1 : (i : Int) ≤ (ms.length : Int) := by omega
          have q2 : (0 : Int) ≤ (i : Int) := by omega
          have q3 : (i : Int) ≤ (d2 : Int) := by have := HMD.out; omega
          have q4 : (i : Int) + 1 ≤ 9223372036854775807 := by have := HM.out.1; omega
          have HI := Lib.hid hle
          clear hle hi him htl
          go_wp2_with fail
          refine HT.out.mono ?_
          rintro e v9 ⟨⟨out2, g2, rfl, htt, hk2⟩, hb⟩
          have HTT := Lib.hid htt; have FT := Lib.hid hk2; have FL9 := Lib.hid (FL.out.below hb (Nat.le_refl _)); have HB9 := Lib.hid (HBQ.out.trans (hb.mono HBQ.out.size)); clear htt hk2 hb HT FL FKQ FMQ HBQ HBW q1 q2 q3 q4
          have HOL := Lib.hid HTT.out.len
          rw [HOL.out]
          go_wp2_with fail
          go_loopw [19] (fun kk wr => ∃ u : Nat, kk = .int .i64 u ∧ u ≤ l.length ∧ Below v9.heap.size v9 wr) (fun kk _ => l.length - (intOf kk).toNat)
          case atStart => exact ⟨0, rfl, Nat.zero_le _, Below.refl _ _⟩
          case round =>
            rename World => wr2
            obtain ⟨u, rfl, hu, hB⟩ := hrel
            have HBR := Lib.hid hB; clear hB
            by_cases hlt : u < l.length
            case neg =>
              obtain rfl : u = l.length := by omega
              have q4 : (i : Int) + 1 ≤ 9223372036854775807 := by have := HI.out; have := HNM.out; have := HM.out.1; omega
              clear hlt hu
              go_wp2_with fail
              go_roundw
              case rel => exact ⟨i + 1, out2, _, _, by rw [HOL.out], by go_num, by have := HI.out; omega, HOL.out, FT.out.below HBR.out (Nat.le_refl _), ⟨fun h => absurd h (by omega), fun _ => HTT.out⟩, HB9.out.trans (HBR.out.mono HB9.out.size)⟩
              case measure => have := HI.out; simp [intOf]; omega
            case pos =>
              have hu1 : u < out.length := by rw [HLN3.out]; exact hlt
              have hu2 : u < out2.length := by rw [HOL.out]; exact hlt
              obtain ⟨b3, o3, rfl⟩ := Rz.some FL9.out (by omega)
              have HX := Lib.hid (fun W (hb : Below wr2.heap.size wr2 W) => by have h := Kz.cell (FT.out.below HBR.out (Nat.le_refl _)) hb (Nat.le_refl _) hu2; rw [Nat.zero_add] at h; exact h); have HY := Lib.hid (fun W (hb : Below wr2.heap.size wr2 W) => Kz.cell (FL9.out.below HBR.out (Nat.le_refl _)) hb (Nat.le_refl _) hu1)
              have hin := HWI.out.next HC.out HTT.out hu1 hu2
              obtain ⟨x, hx⟩ : ∃ x, x = out2[u] := ⟨_, rfl⟩
              obtain ⟨y, hy⟩ : ∃ y, y = out[u] := ⟨_, rfl⟩
              rw [← hx] at HX hin; rw [← hy] at HY hin
              obtain ⟨xp, xlo, xhi⟩ := x
              obtain ⟨yp, ylo, yhi⟩ := y
              dsimp only at HX HY hin
              have t1 : decide (xlo < ylo) = false := decide_eq_false (by omega)
              have q5 : (0 : Int) ≤ (u : Int) := by omega
              have q6 : (u : Int) < (l.length : Int) := by omega
              have q7 : (u : Int) + 1 ≤ 9223372036854775807 := by have := HC.out.1; omega
              have HI2 := Lib.hid hlt
              have HIN := Lib.hid hin
              clear hx hy hlt hu hu1 hu2 hin
              go_wp2_with fail
              refine wp_region_grow (S := (fun w' => w'.cell? ⟨g2, u * 3, none⟩ = some (.int .i64 xp) ∧ w'.cell? ⟨g2, u * 3 + 1, none⟩ = some (.int .i64 xlo) ∧ w'.cell? ⟨g2, u * 3 + 2, none⟩ = some (.int .i64 xhi) ∧ w'.cell? ⟨b3, o3 + u * 3, none⟩ = some (.int .i64 yp) ∧ w'.cell? ⟨b3, o3 + u * 3 + 1, none⟩ = some (.int .i64 ylo) ∧ w'.cell? ⟨b3, o3 + u * 3 + 2, none⟩ = some (.int .i64 yhi))) ((fun w' => Below wr2.heap.size wr2 w')) (by kernel_rfl) (⟨fun w2 h2 => ⟨(HX.out _ h2).1, (HX.out _ h2).2.1, (HX.out _ h2).2.2, (HY.out _ h2).1, (HY.out _ h2).2.1, (HY.out _ h2).2.2⟩, fun w2 w3 h2 hb2 => h2.trans (hb2.mono h2.size)⟩) ((Below.refl wr2.heap.size wr2).drew) (fun hCalm => ?_)
              refine grow_take 0 (some 128) ?_ rfl rfl (by kernel_rfl) (fun _ _ _ h => h) (by kernel_rfl) hCalm ?_ ?_
              rotate_left
              · intro wS hS; (try dsimp only at hS); go_simp <;> with_reducible rfl
              try simp only [Act.put, List.setIfInBounds_toArray, List.set_cons_zero, List.set_cons_succ]
              refine grow_take 1 (some 129) ?_ rfl rfl (by kernel_rfl) (fun _ _ _ h => h) (by kernel_rfl) hCalm ?_ ?_
              rotate_left
              · intro wS hS; (try dsimp only at hS); go_simp <;> with_reducible rfl
              try simp only [Act.put, List.setIfInBounds_toArray, List.set_cons_zero, List.set_cons_succ]
              refine grow_take 2 (some 130) ?_ rfl rfl (by kernel_rfl) (fun _ _ _ h => h) (by kernel_rfl) hCalm ?_ ?_
              rotate_left
              · intro wS hS; (try dsimp only at hS); go_simp <;> with_reducible rfl
              try simp only [Act.put, List.setIfInBounds_toArray, List.set_cons_zero, List.set_cons_succ]
              refine grow_take 3 (some 131) ?_ rfl rfl (by kernel_rfl) (fun _ _ _ h => h) (by kernel_rfl) hCalm ?_ ?_
              rotate_left
              · intro wS hS; (try dsimp only at hS); go_simp <;> with_reducible rfl
              try simp only [Act.put, List.setIfInBounds_toArray, List.set_cons_zero, List.set_cons_succ]
              refine grow_take 4 (some 132) ?_ rfl rfl (by kernel_rfl) (fun _ _ _ h => h) (by kernel_rfl) hCalm ?_ ?_
              rotate_left
              · intro wS hS; (try dsimp only at hS); go_simp <;> with_reducible rfl
              try simp only [Act.put, List.setIfInBounds_toArray, List.set_cons_zero, List.set_cons_succ]
              refine grow_take 5 (some 133) ?_ rfl rfl (by kernel_rfl) (fun _ _ _ h => h) (by kernel_rfl) hCalm ?_ ?_
              rotate_left
              · intro wS hS; (try dsimp only at hS); go_simp <;> with_reducible rfl
              try simp only [Act.put, List.setIfInBounds_toArray, List.set_cons_zero, List.set_cons_succ]
              refine grow_take 6 (some 134) ?_ rfl rfl (by kernel_rfl) (fun _ _ _ h => h) (by kernel_rfl) hCalm ?_ ?_
              rotate_left
              · intro wS hS; (try dsimp only at hS); go_simp <;> with_reducible rfl
              try simp only [Act.put, List.setIfInBounds_toArray, List.set_cons_zero, List.set_cons_succ]
              refine grow_take 7 (some 135) ?_ rfl rfl (by kernel_rfl) (fun _ _ _ h => h) (by kernel_rfl) hCalm ?_ ?_
              rotate_left
              · intro wS hS; (try dsimp only at hS); go_simp <;> with_reducible rfl
              try simp only [Act.put, List.setIfInBounds_toArray, List.set_cons_zero, List.set_cons_succ]
              refine grow_take 8 (some 136) ?_ rfl rfl (by kernel_rfl) (fun _ _ _ h => h) (by kernel_rfl) hCalm ?_ ?_
              rotate_left
              · intro wS hS; (try dsimp only at hS); go_simp <;> with_reducible rfl
              try simp only [Act.put, List.setIfInBounds_toArray, List.set_cons_zero, List.set_cons_succ]
              refine grow_take 9 (some 137) ?_ rfl rfl (by kernel_rfl) (fun _ _ _ h => h) (by kernel_rfl) hCalm ?_ ?_
              rotate_left
              · intro wS hS; (try dsimp only at hS); go_simp <;> with_reducible rfl
              try simp only [Act.put, List.setIfInBounds_toArray, List.set_cons_zero, List.set_cons_succ]
              refine grow_take 10 (some 138) (.bool false) rfl rfl (by kernel_rfl) (fun _ _ _ h => h) (by kernel_rfl) hCalm ?_ ?_
              · intro wS hS; (try dsimp only at hS); go_simp
              try simp only [Act.put, List.setIfInBounds_toArray, List.set_cons_zero, List.set_cons_succ]
              refine grow_take 11 (some 139) ?_ rfl rfl (by kernel_rfl) (fun _ _ _ h => h) (by kernel_rfl) hCalm ?_ ?_
              rotate_left
              · intro wS hS; (try dsimp only at hS); go_simp <;> with_reducible rfl
              try simp only [Act.put, List.setIfInBounds_toArray, List.set_cons_zero, List.set_cons_succ]
              refine grow_take 12 (some 140) ?_ rfl rfl (by kernel_rfl) (fun _ _ _ h => h) (by kernel_rfl) hCalm ?_ ?_
              rotate_left
              · intro wS hS; (try dsimp only at hS); go_simp <;> with_reducible rfl
              try simp only [Act.put, List.setIfInBounds_toArray, List.set_cons_zero, List.set_cons_succ]
              refine grow_take 13 (some 141) ?_ rfl rfl (by kernel_rfl) (fun _ _ _ h => h) (by kernel_rfl) hCalm ?_ ?_
              rotate_left
              · intro wS hS; (try dsimp only at hS); go_simp <;> with_reducible rfl
              try simp only [Act.put, List.setIfInBounds_toArray, List.set_cons_zero, List.set_cons_succ]
              refine grow_take 14 (some 142) ?_ rfl rfl (by kernel_rfl) (fun _ _ _ h => h) (by kernel_rfl) hCalm ?_ ?_
              rotate_left
              · intro wS hS; (try dsimp only at hS); go_simp <;> with_reducible rfl
              try simp only [Act.put, List.setIfInBounds_toArray, List.set_cons_zero, List.set_cons_succ]
              refine grow_take 15 (some 143) ?_ rfl rfl (by kernel_rfl) (fun _ _ _ h => h) (by kernel_rfl) hCalm ?_ ?_
              rotate_left
              · intro wS hS; (try dsimp only at hS); go_simp <;> with_reducible rfl
              try simp only [Act.put, List.setIfInBounds_toArray, List.set_cons_zero, List.set_cons_succ]
              refine grow_take 16 (some 144) ?_ rfl rfl (by kernel_rfl) (fun _ _ _ h => h) (by kernel_rfl) hCalm ?_ ?_
              rotate_left
              · intro wS hS; (try dsimp only at hS); go_simp <;> with_reducible rfl
              try simp only [Act.put, List.setIfInBounds_toArray, List.set_cons_zero, List.set_cons_succ]
              refine grow_take 17 (some 145) ?_ rfl rfl (by kernel_rfl) (fun _ _ _ h => h) (by kernel_rfl) hCalm ?_ ?_
              rotate_left
              · intro wS hS; (try dsimp only at hS); go_simp <;> with_reducible rfl
              try simp only [Act.put, List.setIfInBounds_toArray, List.set_cons_zero, List.set_cons_succ]
              refine grow_take 18 (some 146) ?_ rfl rfl (by kernel_rfl) (fun _ _ _ h => h) (by kernel_rfl) hCalm ?_ ?_
              rotate_left
              · intro wS hS; (try dsimp only at hS); go_simp <;> with_reducible rfl
              try simp only [Act.put, List.setIfInBounds_toArray, List.set_cons_zero, List.set_cons_succ]
              refine grow_take 19 (some 147) ?_ rfl rfl (by kernel_rfl) (fun _ _ _ h => h) (by kernel_rfl) hCalm ?_ ?_
              rotate_left
              · intro wS hS; (try dsimp only at hS); go_simp <;> with_reducible rfl
              try simp only [Act.put, List.setIfInBounds_toArray, List.set_cons_zero, List.set_cons_succ]
              refine grow_take 20 (some 148) ?_ rfl rfl (by kernel_rfl) (fun _ _ _ h => h) (by kernel_rfl) hCalm ?_ ?_
              rotate_left
              · intro wS hS; (try dsimp only at hS); go_simp <;> with_reducible rfl
              try simp only [Act.put, List.setIfInBounds_toArray, List.set_cons_zero, List.set_cons_succ]
              refine grow_take 21 (some 149) ?_ rfl rfl (by kernel_rfl) (fun _ _ _ h => h) (by kernel_rfl) hCalm ?_ ?_
              rotate_left
              · intro wS hS; (try dsimp only at hS); go_simp <;> with_reducible rfl
              try simp only [Act.put, List.setIfInBounds_toArray, List.set_cons_zero, List.set_cons_succ]
              refine grow_take 22 (some 150) (.bool false) rfl rfl (by kernel_rfl) (fun _ _ _ h => h) (by kernel_rfl) hCalm ?_ ?_
              · intro wS hS; (try dsimp only at hS); go_simp
                have := HIN.out; omega
              try simp only [Act.put, List.setIfInBounds_toArray, List.set_cons_zero, List.set_cons_succ]
              refine grow_take 23 (some 151) ?_ rfl rfl (by kernel_rfl) (fun _ _ _ h => h) (by kernel_rfl) hCalm ?_ ?_
              rotate_left
              · intro wS hS; (try dsimp only at hS); go_simp <;> with_reducible rfl
              try simp only [Act.put, List.setIfInBounds_toArray, List.set_cons_zero, List.set_cons_succ]
              refine grow_done (by kernel_rfl) (fun wA hA => ?_) _
              have HBZ := Lib.hid (HBR.out.trans (hA.mono HBR.out.size)); clear hA
              go_wp2_with fail
              go_roundw
              case rel => exact ⟨u + 1, by go_num, HI2.out, HBZ.out⟩
              case measure => have := HI2.out; simp [intOf]; omega
    case some =>
      have hundef := un_none
      go_wp2_with fail
      try clear q1
      go_loopw [14, 15] (fun la ii wq => ∃ (i : Nat) (out : List Sk) (A3 : Option Addr) (c3 : Nat), la = .slice A3 out.length c3 ∧ ii = .int .i64 i ∧ i ≤ ms.length + 1 ∧ out.length = l.length ∧ Kz wq A3 out ∧ Wid l ms i out ∧ Below v3.heap.size v3 wq) (fun _ ii _ => ms.length + 1 - (intOf ii).toNat)
      case atStart => exact ⟨0, l, _, _, rfl, rfl, Nat.zero_le _, rfl, FK_4.out, ⟨fun _ => rfl, fun h => absurd h (by omega)⟩, Below.refl _ _⟩
      case round =>
        rename World => wq
        obtain ⟨i, out, A3, c3, rfl, rfl, hi, hlen, hkz, hwid, hB⟩ := hrel
        have HLN3 := Lib.hid hlen; have FL := Lib.hid hkz; have HWI := Lib.hid hwid; have HBQ := Lib.hid hB; clear hlen hkz hwid hB
        have FKQ := Lib.hid (FK_4.out.below HBQ.out (Nat.le_refl _)); have FMQ := Lib.hid (FM_4.out.below HBQ.out (Nat.le_refl _)); have HBW := Lib.hid (HB_4.out.trans (HBQ.out.mono HB_4.out.size))
        rw [HLN3.out]
        by_cases hle : i ≤ ms.length
        case neg =>
          obtain rfl : i = ms.length + 1 := by omega
          have q3 : ¬ ((ms.length : Int) + 1 ≤ (ms.length : Int)) := by omega
          have q4 : ¬ (ms.length + 1 ≤ ms.length) := by omega
          clear hle hi
          go_wp2_with fail
          go_ret
          exact ⟨rfl, HBW.out⟩
        case pos =>
          have him : i ≤ ms.length := by have := HNM.out; omega
          have htl : (ms.take i).length = i := by simp; omega
          have HT := Lib.hid (by have h := ptight_ok l (ms.take i) A2 (some ⟨b, o, pp⟩) c2 d2 wq FKQ.out (by have := HC.out.1; omega) (FMQ.out.take i) (by rw [htl]; have := HM.out.1; omega) ⟨HC.out.ok, HM.out.ok.take i⟩ (HFP.out i hle); rw [htl] at h; exact h)
          have q1 : (i : Int) ≤ (ms.length : Int) := by omega
          have q2 : (0 : Int) ≤ (i : Int) := by omega
          have q3 : (i : Int) ≤ (d2 : Int) := by have := HMD.out; omega
          have q4 : (i : Int) + 1 ≤ 9223372036854775807 := by have := HM.out.1; omega
          have HI := Lib.hid hle
          clear hle hi him htl
          go_wp2_with fail
          refine HT.out.mono ?_
          rintro e v9 ⟨⟨out2, g2, rfl, htt, hk2⟩, hb⟩
          have HTT := Lib.hid htt; have FT := Lib.hid hk2; have FL9 := Lib.hid (FL.out.below hb (Nat.le_refl _)); have HB9 := Lib.hid (HBQ.out.trans (hb.mono HBQ.out.size)); clear htt hk2 hb HT FL FKQ FMQ HBQ HBW q1 q2 q3 q4
          have HOL := Lib.hid HTT.out.len
          rw [HOL.out]
          go_wp2_with fail
          go_loopw [19] (fun kk wr => ∃ u : Nat, kk = .int .i64 u ∧ u ≤ l.length ∧ Below v9.heap.size v9 wr) (fun kk _ => l.length - (intOf kk).toNat)
          case atStart => exact ⟨0, rfl, Nat.zero_le _, Below.refl _ _⟩
          case round =>
            rename World => wr2
            obtain ⟨u, rfl, hu, hB⟩ := hrel
            have HBR := Lib.hid hB; clear hB
            by_cases hlt : u < l.length
            case neg =>
              obtain rfl : u = l.length := by omega
              have q4 : (i : Int) + 1 ≤ 9223372036854775807 := by have := HI.out; have := HNM.out; have := HM.out.1; omega
              clear hlt hu
              go_wp2_with fail
              go_roundw
              case rel => exact ⟨i + 1, out2, _, _, by rw [HOL.out], by go_num, by have := HI.out; omega, HOL.out, FT.out.below HBR.out (Nat.le_refl _), ⟨fun h => absurd h (by omega), fun _ => HTT.out⟩, HB9.out.trans (HBR.out.mono HB9.out.size)⟩
              case measure => have := HI.out; simp [intOf]; omega
            case pos =>
              have hu1 : u < out.length := by rw [HLN3.out]; exact hlt
              have hu2 : u < out2.length := by rw [HOL.out]; exact hlt
              obtain ⟨b3, o3, rfl⟩ := Rz.some FL9.out (by omega)
              have HX := Lib.hid (fun W (hb : Below wr2.heap.size wr2 W) => by have h := Kz.cell (FT.out.below HBR.out (Nat.le_refl _)) hb (Nat.le_refl _) hu2; rw [Nat.zero_add] at h; exact h); have HY := Lib.hid (fun W (hb : Below wr2.heap.size wr2 W) => Kz.cell (FL9.out.below HBR.out (Nat.le_refl _)) hb (Nat.le_refl _) hu1)
              have hin := HWI.out.next HC.out HTT.out hu1 hu2
              obtain ⟨x, hx⟩ : ∃ x, x = out2[u] := ⟨_, rfl⟩
              obtain ⟨y, hy⟩ : ∃ y, y = out[u] := ⟨_, rfl⟩
              rw [← hx] at HX hin; rw [← hy] at HY hin
              obtain ⟨xp, xlo, xhi⟩ := x
              obtain ⟨yp, ylo, yhi⟩ := y
              dsimp only at HX HY hin
              have t1 : decide (xlo < ylo) = false := decide_eq_false (by omega)
              have q5 : (0 : Int) ≤ (u : Int) := by omega
              have q6 : (u : Int) < (l.length : Int) := by omega
              have q7 : (u : Int) + 1 ≤ 9223372036854775807 := by have := HC.out.1; omega
              have HI2 := Lib.hid hlt
              have HIN := Lib.hid hin
              clear hx hy hlt hu hu1 hu2 hin
              go_wp2_with fail
              refine wp_region_grow (S := (fun w' => w'.cell? ⟨g2, u * 3, none⟩ = some (.int .i64 xp) ∧ w'.cell? ⟨g2, u * 3 + 1, none⟩ = some (.int .i64 xlo) ∧ w'.cell? ⟨g2, u * 3 + 2, none⟩ = some (.int .i64 xhi) ∧ w'.cell? ⟨b3, o3 + u * 3, none⟩ = some (.int .i64 yp) ∧ w'.cell? ⟨b3, o3 + u * 3 + 1, none⟩ = some (.int .i64 ylo) ∧ w'.cell? ⟨b3, o3 + u * 3 + 2, none⟩ = some (.int .i64 yhi))) ((fun w' => Below wr2.heap.size wr2 w')) (by kernel_rfl) (⟨fun w2 h2 => ⟨(HX.out _ h2).1, (HX.out _ h2).2.1, (HX.out _ h2).2.2, (HY.out _ h2).1, (HY.out _ h2).2.1, (HY.out _ h2).2.2⟩, fun w2 w3 h2 hb2 => h2.trans (hb2.mono h2.size)⟩) ((Below.refl wr2.heap.size wr2).drew) (fun hCalm => ?_)
              refine grow_take 0 (some 128) ?_ rfl rfl (by kernel_rfl) (fun _ _ _ h => h) (by kernel_rfl) hCalm ?_ ?_
              rotate_left
              · intro wS hS; (try dsimp only at hS); go_simp <;> with_reducible rfl
              try simp only [Act.put, List.setIfInBounds_toArray, List.set_cons_zero, List.set_cons_succ]
              refine grow_take 1 (some 129) ?_ rfl rfl (by kernel_rfl) (fun _ _ _ h => h) (by kernel_rfl) hCalm ?_ ?_
              rotate_left
              · intro wS hS; (try dsimp only at hS); go_simp <;> with_reducible rfl
              try simp only [Act.put, List.setIfInBounds_toArray, List.set_cons_zero, List.set_cons_succ]
              refine grow_take 2 (some 130) ?_ rfl rfl (by kernel_rfl) (fun _ _ _ h => h) (by kernel_rfl) hCalm ?_ ?_
              rotate_left
              · intro wS hS; (try dsimp only at hS); go_simp <;> with_reducible rfl
              try simp only [Act.put, List.setIfInBounds_toArray, List.set_cons_zero, List.set_cons_succ]
              refine grow_take 3 (some 131) ?_ rfl rfl (by kernel_rfl) (fun _ _ _ h => h) (by kernel_rfl) hCalm ?_ ?_
              rotate_left
              · intro wS hS; (try dsimp only at hS); go_simp <;> with_reducible rfl
              try simp only [Act.put, List.setIfInBounds_toArray, List.set_cons_zero, List.set_cons_succ]
              refine grow_take 4 (some 132) ?_ rfl rfl (by kernel_rfl) (fun _ _ _ h => h) (by kernel_rfl) hCalm ?_ ?_
              rotate_left
              · intro wS hS; (try dsimp only at hS); go_simp <;> with_reducible rfl
              try simp only [Act.put, List.setIfInBounds_toArray, List.set_cons_zero, List.set_cons_succ]
              refine grow_take 5 (some 133) ?_ rfl rfl (by kernel_rfl) (fun _ _ _ h => h) (by kernel_rfl) hCalm ?_ ?_
              rotate_left
              · intro wS hS; (try dsimp only at hS); go_simp <;> with_reducible rfl
              try simp only [Act.put, List.setIfInBounds_toArray, List.set_cons_zero, List.set_cons_succ]
              refine grow_take 6 (some 134) ?_ rfl rfl (by kernel_rfl) (fun _ _ _ h => h) (by kernel_rfl) hCalm ?_ ?_
              rotate_left
              · intro wS hS; (try dsimp only at hS); go_simp <;> with_reducible rfl
              try simp only [Act.put, List.setIfInBounds_toArray, List.set_cons_zero, List.set_cons_succ]
              refine grow_take 7 (some 135) ?_ rfl rfl (by kernel_rfl) (fun _ _ _ h => h) (by kernel_rfl) hCalm ?_ ?_
              rotate_left
              · intro wS hS; (try dsimp only at hS); go_simp <;> with_reducible rfl
              try simp only [Act.put, List.setIfInBounds_toArray, List.set_cons_zero, List.set_cons_succ]
              refine grow_take 8 (some 136) ?_ rfl rfl (by kernel_rfl) (fun _ _ _ h => h) (by kernel_rfl) hCalm ?_ ?_
              rotate_left
              · intro wS hS; (try dsimp only at hS); go_simp <;> with_reducible rfl
              try simp only [Act.put, List.setIfInBounds_toArray, List.set_cons_zero, List.set_cons_succ]
              refine grow_take 9 (some 137) ?_ rfl rfl (by kernel_rfl) (fun _ _ _ h => h) (by kernel_rfl) hCalm ?_ ?_
              rotate_left
              · intro wS hS; (try dsimp only at hS); go_simp <;> with_reducible rfl
              try simp only [Act.put, List.setIfInBounds_toArray, List.set_cons_zero, List.set_cons_succ]
              refine grow_take 10 (some 138) (.bool false) rfl rfl (by kernel_rfl) (fun _ _ _ h => h) (by kernel_rfl) hCalm ?_ ?_
              · intro wS hS; (try dsimp only at hS); go_simp
              try simp only [Act.put, List.setIfInBounds_toArray, List.set_cons_zero, List.set_cons_succ]
              refine grow_take 11 (some 139) ?_ rfl rfl (by kernel_rfl) (fun _ _ _ h => h) (by kernel_rfl) hCalm ?_ ?_
              rotate_left
              · intro wS hS; (try dsimp only at hS); go_simp <;> with_reducible rfl
              try simp only [Act.put, List.setIfInBounds_toArray, List.set_cons_zero, List.set_cons_succ]
              refine grow_take 12 (some 140) ?_ rfl rfl (by kernel_rfl) (fun _ _ _ h => h) (by kernel_rfl) hCalm ?_ ?_
              rotate_left
              · intro wS hS; (try dsimp only at hS); go_simp <;> with_reducible rfl
              try simp only [Act.put, List.setIfInBounds_toArray, List.set_cons_zero, List.set_cons_succ]
              refine grow_take 13 (some 141) ?_ rfl rfl (by kernel_rfl) (fun _ _ _ h => h) (by kernel_rfl) hCalm ?_ ?_
              rotate_left
              · intro wS hS; (try dsimp only at hS); go_simp <;> with_reducible rfl
              try simp only [Act.put, List.setIfInBounds_toArray, List.set_cons_zero, List.set_cons_succ]
              refine grow_take 14 (some 142) ?_ rfl rfl (by kernel_rfl) (fun _ _ _ h => h) (by kernel_rfl) hCalm ?_ ?_
              rotate_left
              · intro wS hS; (try dsimp only at hS); go_simp <;> with_reducible rfl
              try simp only [Act.put, List.setIfInBounds_toArray, List.set_cons_zero, List.set_cons_succ]
              refine grow_take 15 (some 143) ?_ rfl rfl (by kernel_rfl) (fun _ _ _ h => h) (by kernel_rfl) hCalm ?_ ?_
              rotate_left
              · intro wS hS; (try dsimp only at hS); go_simp <;> with_reducible rfl
              try simp only [Act.put, List.setIfInBounds_toArray, List.set_cons_zero, List.set_cons_succ]
              refine grow_take 16 (some 144) ?_ rfl rfl (by kernel_rfl) (fun _ _ _ h => h) (by kernel_rfl) hCalm ?_ ?_
              rotate_left
              · intro wS hS; (try dsimp only at hS); go_simp <;> with_reducible rfl
              try simp only [Act.put, List.setIfInBounds_toArray, List.set_cons_zero, List.set_cons_succ]
              refine grow_take 17 (some 145) ?_ rfl rfl (by kernel_rfl) (fun _ _ _ h => h) (by kernel_rfl) hCalm ?_ ?_
              rotate_left
              · intro wS hS; (try dsimp only at hS); go_simp <;> with_reducible rfl
              try simp only [Act.put, List.setIfInBounds_toArray, List.set_cons_zero, List.set_cons_succ]
              refine grow_take 18 (some 146) ?_ rfl rfl (by kernel_rfl) (fun _ _ _ h => h) (by kernel_rfl) hCalm ?_ ?_
              rotate_left
              · intro wS hS; (try dsimp only at hS); go_simp <;> with_reducible rfl
              try simp only [Act.put, List.setIfInBounds_toArray, List.set_cons_zero, List.set_cons_succ]
              refine grow_take 19 (some 147) ?_ rfl rfl (by kernel_rfl) (fun _ _ _ h => h) (by kernel_rfl) hCalm ?_ ?_
              rotate_left
              · intro wS hS; (try dsimp only at hS); go_simp <;> with_reducible rfl
              try simp only [Act.put, List.setIfInBounds_toArray, List.set_cons_zero, List.set_cons_succ]
              refine grow_take 20 (some 148) ?_ rfl rfl (by kernel_rfl) (fun _ _ _ h => h) (by kernel_rfl) hCalm ?_ ?_
              rotate_left
              · intro wS hS; (try dsimp only at hS); go_simp <;> with_reducible rfl
              try simp only [Act.put, List.setIfInBounds_toArray, List.set_cons_zero, List.set_cons_succ]
              refine grow_take 21 (some 149) ?_ rfl rfl (by kernel_rfl) (fun _ _ _ h => h) (by kernel_rfl) hCalm ?_ ?_
              rotate_left
              · intro wS hS; (try dsimp only at hS); go_simp <;> with_reducible rfl
              try simp only [Act.put, List.setIfInBounds_toArray, List.set_cons_zero, List.set_cons_succ]
              refine grow_take 22 (some 150) (.bool false) rfl rfl (by kernel_rfl) (fun _ _ _ h => h) (by kernel_rfl) hCalm ?_ ?_
              · intro wS hS; (try dsimp only at hS); go_simp
                have := HIN.out; omega
              try simp only [Act.put, List.setIfInBounds_toArray, List.set_cons_zero, List.set_cons_succ]
              refine grow_take 23 (some 151) ?_ rfl rfl (by kernel_rfl) (fun _ _ _ h => h) (by kernel_rfl) hCalm ?_ ?_
              rotate_left
              · intro wS hS; (try dsimp only at hS); go_simp <;> with_reducible rfl
              try simp only [Act.put, List.setIfInBounds_toArray, List.set_cons_zero, List.set_cons_succ]
              refine grow_done (by kernel_rfl) (fun wA hA => ?_) _
              have HBZ := Lib.hid (HBR.out.trans (hA.mono HBR.out.size)); clear hA
              go_wp2_with fail
              go_roundw
              case rel => exact ⟨u + 1, by go_num, HI2.out, HBZ.out⟩
              case measure => have := HI2.out; simp [intOf]; omega
end Go.Proofs.Ytbcgfohacbapoaa
