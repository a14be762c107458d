/- The contract of the reference's Print. Conditions: the strings' lengths are ints. | The contract of the reference's Parse. Condition: the string's length is an int. -/
import Derived.Deep.CutRange
import Derived.Deep.CutBlock
import Derived.Test.YtnacgdkihkfjkaaGK
namespace Go.Proofs.Ytnacgdkihkfjkaa
open Go.RowKit Go.Lib

set_option maxRecDepth 100000 in
set_option maxHeartbeats 1000000 in
theorem rprint_any (an ad : ByteArray) (w : World) (ha : an.size ≤ 9000000000000000000 ∧ ad.size ≤ 9000000000000000000) :
    Calls Try.prog 15 #[fV an ad] w fun e w' => e = .returned (.string (printQ (rdQ an.data.toList ad.data.toList))) ∧ Below w.heap.size w w' := by
  have hv := fun W => rvalid_any an ad W ha.1 ha.2
  have hB : Below w.heap.size w (w.alloc (.cells #[.string an, .string ad] 23)) := (Below.refl _ _).alloc (Nat.le_refl _) _
  have hA := Blk.new w 23 #[.string an, .string ad]
  unfold fV at hv
  cases hp : rdQ an.data.toList ad.data.toList with
  | none =>
    rw [hp] at hv
    have HV := Lib.hid hv; have HB := Lib.hid hB
    clear hv hB hA hp ha
    unfold fV
    go_enter Try.func15, Try.ntmps15
    go_wp2_with fail
    refine (HV.out _).mono ?_
    rintro e w1 ⟨rfl, hb1⟩
    go_wp2_with fail
    go_ret
    exact ⟨rfl, HB.out.trans (hb1.mono HB.out.size)⟩
  | some q =>
    rw [hp] at hv
    obtain ⟨p1, p2, p3⟩ := rdQ_some hp
    have e1 := bs_of_rd p1; have e2 := bs_of_rd p2
    subst e1 e2
    have s1 := zS_small (rd_some p1).2.1; have s2 := zS_small (rd_some p2).2.1
    have HV := Lib.hid hv; have HB := Lib.hid hB; have HA := Lib.hid hA
    clear hv hB hA hp ha p1 p2 p3
    by_cases h1 : q.2 = 1
    · have k := is1_of q.2 true (by simp [h1])
      have hr : printQ (some q) = zS q.1 := if_pos h1
      rw [hr]
      clear hr h1
      unfold fV
      go_enter Try.func15, Try.ntmps15
      go_wp2_with fail
      refine (HV.out _).mono ?_
      rintro e w1 ⟨rfl, hb1⟩
      have hA1 := HA.out.below hb1 HA.out.lt
      have x0 := hA1.cell (i := 0) (v := .string (zS q.1)) rfl; have x1 := hA1.cell (i := 1) (v := .string (zS q.2)) rfl
      have HB1 := Lib.hid (HB.out.trans (hb1.mono HB.out.size))
      clear hb1 hA1
      go_wp2_with fail
      go_ret
      exact ⟨rfl, HB1.out⟩
    · have k := is1_of q.2 false (by simp [h1])
      have hr : printQ (some q) = zS q.1 ++ ⟨#[47]⟩ ++ zS q.2 := if_neg h1
      rw [hr]
      have s3 : (zS q.1 ++ (⟨#[47]⟩ : ByteArray)).size ≤ 1001 := by rw [ByteArray.size_append]; show (zS q.1).size + 1 ≤ 1001; omega
      clear hr h1
      unfold fV
      go_enter Try.func15, Try.ntmps15
      go_wp2_with fail
      refine (HV.out _).mono ?_
      rintro e w1 ⟨rfl, hb1⟩
      have hA1 := HA.out.below hb1 HA.out.lt
      have x0 := hA1.cell (i := 0) (v := .string (zS q.1)) rfl; have x1 := hA1.cell (i := 1) (v := .string (zS q.2)) rfl
      have HB1 := Lib.hid (HB.out.trans (hb1.mono HB.out.size))
      clear hb1 hA1
      go_wp2_with fail
      go_ret
      exact ⟨rfl, HB1.out⟩
end Go.Proofs.Ytnacgdkihkfjkaa
namespace Go.Proofs.Ytnacgdkihkfjkaa
open Go.RowKit Go.Lib

set_option maxRecDepth 100000 in
set_option maxHeartbeats 40000000 in
theorem rparse_any (s : ByteArray) (w : World) (hs : s.size ≤ 9000000000000000000) : Calls Try.prog 18 #[.string s] w (OutFr (parseQ s.data.toList) w) := by
  have z1 : (bs (spA s.data.toList)).size ≤ 9000000000000000000 := by
    rw [bs_size]; unfold spA
    exact Nat.le_trans (List.takeWhile_prefix _).length_le (by rw [← size_eq]; exact hs)
  have z2 : (bs (spB s.data.toList)).size ≤ 9000000000000000000 := by
    rw [bs_size]; unfold spB
    have h1 := (List.dropWhile_suffix (l := s.data.toList) (· != 47)).length_le
    rw [← size_eq] at h1
    cases hd : s.data.toList.dropWhile (· != 47) with
    | nil => simp
    | cons c r => rw [hd] at h1; simp at h1 ⊢; omega
  have hpr := fun W => rprint_any (bs (spA s.data.toList)) (bs (spB s.data.toList)) W ⟨z1, z2⟩
  have hva := fun W => rvalid_any (bs (spA s.data.toList)) (bs (spB s.data.toList)) W z1 z2
  rw [bs_data, bs_data] at hpr hva
  have hpq : parseQ s.data.toList = match rdQ (spA s.data.toList) (spB s.data.toList) with
    | none => none
    | some q => if (printQ (some q)).data.toList = s.data.toList then some q else none := rfl
  have hAB : ∀ q, rdQ (spA s.data.toList) (spB s.data.toList) = some q → bs (spA s.data.toList) = zS q.1 ∧ bs (spB s.data.toList) = zS q.2 := fun q h => by
    obtain ⟨h1, h2, -⟩ := rdQ_some h
    exact ⟨bs_of_rd h1, bs_of_rd h2⟩
  obtain ⟨a, ha⟩ : ∃ a, a = bs (spA s.data.toList) := ⟨_, rfl⟩
  obtain ⟨b, hb⟩ : ∃ a, a = bs (spB s.data.toList) := ⟨_, rfl⟩
  obtain ⟨q, hq⟩ : ∃ q, q = rdQ (spA s.data.toList) (spB s.data.toList) := ⟨_, rfl⟩
  obtain ⟨r, hr⟩ : ∃ r, r = parseQ s.data.toList := ⟨_, rfl⟩
  rw [← ha, ← hb] at hpr hva hAB
  rw [← hq] at hpr hva hpq hAB
  rw [← hr] at hpq ⊢
  unfold fV at hpr hva
  obtain ⟨hR, hQ, hB, hS⟩ := two_fresh w 23 23 #[.string ⟨#[]⟩, .string ⟨#[]⟩] #[.string s, .string ⟨#[49]⟩] _ rfl
  have HA := Lib.hid ha; have HBB := Lib.hid hb; have HPQ := Lib.hid hpq; have HAB := Lib.hid hAB
  have HPR := Lib.hid hpr; have HV := Lib.hid hva; have R_0 := Lib.hid hR; have Q_0 := Lib.hid hQ; have HB_0 := Lib.hid hB
  have HN : Hid (w.heap.size + 1 ≠ w.heap.size) := by show _ ≠ _; omega
  clear ha hb hpq hAB hpr hva hR hQ hB z1 z2 hq hr hS
  go_enter Try.func18, Try.ntmps18
  go_upto_block 0 with (fail)
  go_cut [5] from 9 to 26 (fun _ wx => Below w.heap.size w wx ∧ Blk wx w.heap.size 23 #[.string ⟨#[]⟩, .string ⟨#[]⟩] ∧ Blk wx (w.heap.size + 1) 23 #[.string a, .string b])
  case first =>
    go_wp2_with fail
    go_loopw [5] (fun ii wr => ∃ j : Nat, ii = .int .i64 j ∧ j ≤ s.size ∧ (∀ k (h : k < s.size), k < j → s[k] ≠ 47) ∧ ((w.alloc (.cells #[.string ⟨#[]⟩, .string ⟨#[]⟩] 23)).alloc (.cells #[.string s, .string ⟨#[49]⟩] 23)) = wr) (fun ii _ => s.size - (intOf ii).toNat)
    case atStart => exact ⟨0, rfl, Nat.zero_le _, fun k h h2 => absurd h2 (by omega), rfl⟩
    case round =>
      obtain ⟨j, rfl, hj, hall, rfl⟩ := hrel
      have HALL := Lib.hid hall
      clear hall
      by_cases hlt : j < s.size
      · have q1 : (0 : Int) ≤ (j : Int) := by omega
        have q2 : (j : Int) < (s.size : Int) := by omega
        by_cases hc : s[j] = 47
        · have h3 : ((s[j].toNat : Int) == 47) = true := by rw [hc]; rfl
          have hsp := sp_at (L := s.data.toList) (k := j) (by rw [← size_eq]; exact hlt) (fun k hk hkj => HALL.out k (by rw [size_eq]; exact hk) hkj) hc
          have e1 : s.extract 0 j = a := by rw [HA.out, hsp.1, extract_eq]; rfl
          have e2 : s.extract (j + 1) s.size = b := by
            rw [HBB.out, hsp.2, extract_eq, List.take_of_length_le (by rw [List.length_drop, size_eq]; exact Nat.le_refl _)]; rfl
          have hsl1 := fun w => run_slice_top (P := Try.prog) 9 Try.underlying9 s (y := (j : Int)) j rfl (by omega) w
          have hsl2 := fun w => run_slice_lo (P := Try.prog) 9 Try.underlying9 s (x := (j : Int) + 1) (j + 1) (by omega) (by omega) w
          simp only [e1] at hsl1
          simp only [e2] at hsl2
          clear hsp e1 e2
          go_wp2_with fail
          go_region
          all_goals
            go_wp2_with fail
            go_meet
            obtain ⟨nR, nQ, nB, -⟩ := two_fresh w 23 23 #[.string ⟨#[]⟩, .string ⟨#[]⟩] #[.string a, .string b] _ rfl
            exact ⟨nB.drew, nR.drew, nQ.drew⟩
        · have h3 : ((s[j].toNat : Int) == 47) = false := by
            rw [beq_eq_false_iff_ne]; intro h4
            exact hc (UInt8.toNat_inj.1 (show s[j].toNat = (47 : UInt8).toNat by show _ = 47; omega))
          go_wp2_with fail
          go_roundw
          case rel => exact ⟨j + 1, by go_num, by omega, fun k hk hkj => (by
            rcases Nat.lt_succ_iff_lt_or_eq.1 hkj with h | h
            · exact HALL.out k hk h
            · subst h; exact hc), trivial⟩
          case measure => simp [intOf]; omega
      · obtain rfl : j = s.size := by omega
        have hsp := sp_no (L := s.data.toList) (fun c hc => by
          obtain ⟨k, hk, rfl⟩ := List.getElem_of_mem hc
          exact HALL.out k (by rw [size_eq]; exact hk) (by rw [size_eq]; exact hk))
        have E1 : Hid (a = s) := by show _ = _; rw [HA.out, hsp.1, bs_self]
        have E2 : Hid (b = (⟨#[49]⟩ : ByteArray)) := by show _ = _; rw [HBB.out, hsp.2]; rfl
        clear hsp
        go_wp2_with fail
        go_meet
        exact ⟨HB_0.out, R_0.out, (by rw [E1.out, E2.out]; exact Q_0.out)⟩
  case rest =>
    obtain ⟨hcb, hR, hQ⟩ := hcut
    clear HA HBB R_0 Q_0 HB_0
    have HB_1 := Lib.hid hcb; have R_1 := Lib.hid hR; have Q_1 := Lib.hid hQ
    clear hcb hR hQ
    have yy0 := Q_1.out.cell (i := 0) (v := .string a) rfl; have yy1 := Q_1.out.cell (i := 1) (v := .string b) rfl
    go_wp2_with fail
    refine (HV.out _).mono ?_
    rintro e v1 ⟨rfl, hb⟩
    clear yy0 yy1
    have R_2 : Hid (Blk v1 w.heap.size 23 #[.string ⟨#[]⟩, .string ⟨#[]⟩]) := Lib.hid (R_1.out.below hb R_1.out.lt)
    have Q_2 : Hid (Blk v1 (w.heap.size + 1) 23 #[.string a, .string b]) := Lib.hid (Q_1.out.below hb Q_1.out.lt)
    have HB_2 : Hid (Below w.heap.size w v1) := Lib.hid (HB_1.out.trans (hb.mono HB_1.out.size))
    clear hb R_1 Q_1 HB_1
    cases q with
    | none =>
      have hrn : r = none := by rw [HPQ.out]
      subst hrn
      have x0 := R_2.out.cell (i := 0) (v := .string ⟨#[]⟩) rfl; have x1 := R_2.out.cell (i := 1) (v := .string ⟨#[]⟩) rfl
      have f0 := R_2.out.frozen 0; have f1 := R_2.out.frozen 1
      obtain ⟨r0, r1⟩ := R_2.out.two (u := .string ⟨#[]⟩) (v := .string ⟨#[]⟩)
      have RR0 := Lib.hid r0; have RR1 := Lib.hid r1; clear r0 r1
      have yy0 := Q_2.out.cell (i := 0) (v := .string a) rfl; have yy1 := Q_2.out.cell (i := 1) (v := .string b) rfl
      go_wp2_with fail
      have r0 := RR0.out; have r1 := RR1.out
      exact bodyPost_ret (v := .tuple #[.agg #[.string ⟨#[]⟩, .string ⟨#[]⟩], .int .i64 40]) (by simp [results, Try.results18, go_sem, r0, r1]) rfl ⟨rfl, (HB_2.out.setCell (p := ⟨w.heap.size, 0, none⟩) (Nat.le_refl _) _).setCell (p := ⟨w.heap.size, 1, none⟩) (Nat.le_refl _) _⟩
    | some p =>
      obtain ⟨ea, eb⟩ := HAB.out p rfl
      by_cases hsame : (printQ (some p)).data.toList = s.data.toList
      · have e2 := beq_list (printQ (some p)) s true (by simp [hsame])
        have hrp : r = some p := by rw [HPQ.out]; exact if_pos hsame
        subst hrp
        obtain ⟨t, ht⟩ : ∃ t, t = printQ (some p) := ⟨_, rfl⟩
        rw [← ht] at e2 HPR
        have HEA := Lib.hid ea; have HEB := Lib.hid eb
        clear hsame ht ea eb
        have yy0 := Q_2.out.cell (i := 0) (v := .string a) rfl; have yy1 := Q_2.out.cell (i := 1) (v := .string b) rfl
        go_wp2_with fail
        refine (HPR.out _).mono ?_
        rintro e v2 ⟨rfl, hb⟩
        clear yy0 yy1
        have R_3 : Hid (Blk v2 w.heap.size 23 #[.string ⟨#[]⟩, .string ⟨#[]⟩]) := Lib.hid (R_2.out.below hb R_2.out.lt)
        have Q_3 : Hid (Blk v2 (w.heap.size + 1) 23 #[.string a, .string b]) := Lib.hid (Q_2.out.below hb Q_2.out.lt)
        have HB_3 : Hid (Below w.heap.size w v2) := Lib.hid (HB_2.out.trans (hb.mono HB_2.out.size))
        clear hb R_2 Q_2 HB_2
        have x0 := R_3.out.cell (i := 0) (v := .string ⟨#[]⟩) rfl; have x1 := R_3.out.cell (i := 1) (v := .string ⟨#[]⟩) rfl
        have f0 := R_3.out.frozen 0; have f1 := R_3.out.frozen 1
        obtain ⟨r0, r1⟩ := R_3.out.two (u := .string a) (v := .string b)
        have RR0 := Lib.hid r0; have RR1 := Lib.hid r1; clear r0 r1
        have yy0 := Q_3.out.cell (i := 0) (v := .string a) rfl; have yy1 := Q_3.out.cell (i := 1) (v := .string b) rfl
        go_wp2_with fail
        have r0 := RR0.out; have r1 := RR1.out
        exact bodyPost_ret (v := .tuple #[.agg #[.string a, .string b], .int .i64 0]) (by simp [results, Try.results18, go_sem, r0, r1]) rfl ⟨(by rw [HEA.out, HEB.out]; rfl), (HB_3.out.setCell (p := ⟨w.heap.size, 0, none⟩) (Nat.le_refl _) _).setCell (p := ⟨w.heap.size, 1, none⟩) (Nat.le_refl _) _⟩
      · have e2 := beq_list (printQ (some p)) s false (by simp [hsame])
        have hrp : r = none := by rw [HPQ.out]; exact if_neg hsame
        subst hrp
        obtain ⟨t, ht⟩ : ∃ t, t = printQ (some p) := ⟨_, rfl⟩
        rw [← ht] at e2 HPR
        have HEA := Lib.hid ea; have HEB := Lib.hid eb
        clear hsame ht ea eb
        have yy0 := Q_2.out.cell (i := 0) (v := .string a) rfl; have yy1 := Q_2.out.cell (i := 1) (v := .string b) rfl
        go_wp2_with fail
        refine (HPR.out _).mono ?_
        rintro e v2 ⟨rfl, hb⟩
        clear yy0 yy1
        have R_3 : Hid (Blk v2 w.heap.size 23 #[.string ⟨#[]⟩, .string ⟨#[]⟩]) := Lib.hid (R_2.out.below hb R_2.out.lt)
        have Q_3 : Hid (Blk v2 (w.heap.size + 1) 23 #[.string a, .string b]) := Lib.hid (Q_2.out.below hb Q_2.out.lt)
        have HB_3 : Hid (Below w.heap.size w v2) := Lib.hid (HB_2.out.trans (hb.mono HB_2.out.size))
        clear hb R_2 Q_2 HB_2
        have x0 := R_3.out.cell (i := 0) (v := .string ⟨#[]⟩) rfl; have x1 := R_3.out.cell (i := 1) (v := .string ⟨#[]⟩) rfl
        have f0 := R_3.out.frozen 0; have f1 := R_3.out.frozen 1
        obtain ⟨r0, r1⟩ := R_3.out.two (u := .string ⟨#[]⟩) (v := .string ⟨#[]⟩)
        have RR0 := Lib.hid r0; have RR1 := Lib.hid r1; clear r0 r1
        have yy0 := Q_3.out.cell (i := 0) (v := .string a) rfl; have yy1 := Q_3.out.cell (i := 1) (v := .string b) rfl
        go_wp2_with fail
        have r0 := RR0.out; have r1 := RR1.out
        exact bodyPost_ret (v := .tuple #[.agg #[.string ⟨#[]⟩, .string ⟨#[]⟩], .int .i64 40]) (by simp [results, Try.results18, go_sem, r0, r1]) rfl ⟨rfl, (HB_3.out.setCell (p := ⟨w.heap.size, 0, none⟩) (Nat.le_refl _) _).setCell (p := ⟨w.heap.size, 1, none⟩) (Nat.le_refl _) _⟩
end Go.Proofs.Ytnacgdkihkfjkaa
