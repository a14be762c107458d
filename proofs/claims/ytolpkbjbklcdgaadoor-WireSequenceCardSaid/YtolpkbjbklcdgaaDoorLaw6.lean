/- WireSequence answers true, and changes nothing that lay in memory. Conditions: the two slices read as lists of integers and of strings, the table holds what its text says. -/
import Derived.Test.YtolpkbjbklcdgaaDoorLawA
import Derived.RegionTactic
import Derived.ChangeAlike
import Derived.Deep.RegionHeld3
namespace Go.Proofs.YtolpkbjbklcdgaaDoor
open Go.RowKit Go.Lib

theorem run_min3 {P : Program} (ts : Array TypeId) (t : TypeId) (w : World) (x y z : Int) : (Builtin.min_ ts t #[.int .i64 x, .int .i64 y, .int .i64 z]).run P w = .ok (.int .i64 (min (min x y) z)) w := by
  have e : ∀ x y : Int, (if y < x then y else x) = min x y := fun x y => by split <;> omega
  simp [Builtin.min_, Builtin.min2, e]

/-- 's[:min(len(s), 100)]'. -/
def cutB (s : ByteArray) : ByteArray := s.extract 0 (min s.size 100)
theorem cutB_at {P : Program} (t : TypeId) (ht : P.underlying t = some .string) (s : ByteArray) :
    (cutB s).size ≤ 100 ∧ (cutB s).size ≤ s.size ∧ (if (100 : Int) < (s.size : Int) then (100 : Int) else (s.size : Int)) = ((cutB s).size : Int) ∧
      ∀ w, (Instr.slice t (.string s) none (some (.int .i64 ((cutB s).size : Int))) none).run P w = .ok (.string (cutB s)) w := by
  obtain ⟨T, m, h1, h2, h3, h4, h5, h6⟩ := cut_at (P := P) t ht s 100 (by omega)
  have hm : m = min s.size 100 := by
    by_cases h : (100 : Int) < s.size
    · rw [if_pos h] at h5; omega
    · rw [if_neg h] at h5; omega
  have hT : T = cutB s := by rw [h4, hm]; rfl
  subst hT
  subst h3
  exact ⟨by omega, h2, h5, h6⟩

/-- The first encodings one after the other. -/
def seqL (f : Nat → List UInt8) : Nat → List UInt8
  | 0 => []
  | k + 1 => seqL f k ++ f k
theorem seqL_split (f : Nat → List UInt8) {i : Nat} : ∀ {n : Nat}, i < n → ∃ r, seqL f n = seqL f i ++ (f i ++ r)
  | 0, h => absurd h (Nat.not_lt_zero _)
  | n + 1, h => by
    by_cases hi : i = n
    · subst hi; exact ⟨[], by simp [seqL]⟩
    · obtain ⟨r, hr⟩ := seqL_split f (i := i) (n := n) (by omega)
      exact ⟨r ++ f n, by rw [seqL, hr]; simp⟩
theorem seqL_length (f : Nat → List UInt8) (hf : ∀ i, (f i).length ≤ 118) : ∀ n, (seqL f n).length ≤ 118 * n
  | 0 => by simp [seqL]
  | n + 1 => by
    have := seqL_length f hf n
    have := hf n
    rw [seqL, List.length_append]; omega

/-- What is written for the integer and the string at a place. -/
def piece (zs : List Int) (ss : List ByteArray) (i : Nat) : List UInt8 := enc (numV (zs.getD i 0)) ++ (enc (cutB (ss.getD i ByteArray.empty)).size ++ (cutB (ss.getD i ByteArray.empty)).data.toList)
theorem cutB_size (s : ByteArray) : (cutB s).size ≤ 100 := by unfold cutB; rw [ByteArray.size_extract]; omega
theorem piece_length (zs : List Int) (ss : List ByteArray) (i : Nat) : (piece zs ss i).length ≤ 118 := by
  have h1 := enc_length (numV_ok (zs.getD i 0))
  have h2 := cutB_size (ss.getD i ByteArray.empty)
  have h3 := enc_length (n := (cutB (ss.getD i ByteArray.empty)).size) (by unfold okI; omega)
  have h4 : (cutB (ss.getD i ByteArray.empty)).data.toList.length = (cutB (ss.getD i ByteArray.empty)).size := rfl
  unfold piece
  rw [List.length_append, List.length_append]; omega

/-- Decoding at a place of the whole. -/
theorem seq_decode (zs : List Int) (ss : List ByteArray) (s : ByteArray) (n i : Nat) (hin : i < n) (hn : n ≤ 20) (hs : s.data.toList = seqL (piece zs ss) n) :
    ∃ m : Nat, m ≤ 4000 ∧ (∀ w, Calls Tryd.prog 15 #[.string s, .int .i64 (seqL (piece zs ss) i).length] w fun e w' => e = .returned (.tuple #[.int .i64 (numV (zs.getD i 0)), .int .i64 m, .int .i64 0]) ∧ w = w') ∧
      (∀ w, Calls Tryd.prog 17 #[.string s, .int .i64 m] w fun e w' => e = .returned (.tuple #[.string (cutB (ss.getD i ByteArray.empty)), .int .i64 (seqL (piece zs ss) (i + 1)).length, .int .i64 0]) ∧ Below w.heap.size w w') := by
  obtain ⟨r, hr⟩ := seqL_split (piece zs ss) hin
  have hlen := seqL_length (piece zs ss) (piece_length zs ss) n
  have hsz : s.size = (seqL (piece zs ss) n).length := by rw [← hs]; rfl
  have hsm : s.size ≤ maxLen := by unfold maxLen; omega
  have hl1 : (seqL (piece zs ss) n).length = (seqL (piece zs ss) i).length + ((piece zs ss i).length + r.length) := by rw [hr, List.length_append, List.length_append]
  have hpl : (piece zs ss i).length = (enc (numV (zs.getD i 0))).length + ((enc (cutB (ss.getD i ByteArray.empty)).size).length + (cutB (ss.getD i ByteArray.empty)).size) := by
    unfold piece; rw [List.length_append, List.length_append]; rfl
  have hcut := cutB_size (ss.getD i ByteArray.empty)
  refine ⟨(seqL (piece zs ss) i).length + (enc (numV (zs.getD i 0))).length, by omega, fun w => ?_, fun w => ?_⟩
  · have h := int_any s (seqL (piece zs ss) i).length w hsm (by omega)
    rw [hs, hr, List.drop_left, piece, List.append_assoc, dec_enc (numV_ok _)] at h
    exact h
  · have h := string_any s ((seqL (piece zs ss) i).length + (enc (numV (zs.getD i 0))).length) w hsm (by omega)
    rw [hs, hr, ← List.drop_drop, List.drop_left, piece, List.append_assoc, List.drop_left, List.append_assoc, decS_S (by omega)] at h
    dsimp only [strV] at h
    have hx : s.extract ((seqL (piece zs ss) i).length + (enc (numV (zs.getD i 0))).length + (enc (cutB (ss.getD i ByteArray.empty)).size).length) ((seqL (piece zs ss) i).length + (enc (numV (zs.getD i 0))).length + (enc (cutB (ss.getD i ByteArray.empty)).size).length + (cutB (ss.getD i ByteArray.empty)).size) = cutB (ss.getD i ByteArray.empty) := by
      apply ByteArray.ext
      rw [ByteArray.data_extract]
      apply Array.toList_inj.1
      rw [Array.toList_extract, List.extract_eq_take_drop, hs, hr, Nat.add_sub_cancel_left, ← List.drop_drop, ← List.drop_drop, List.drop_left, piece, List.append_assoc, List.drop_left, List.append_assoc, List.drop_left]
      exact List.take_left
    rw [hx] at h
    have he : ((seqL (piece zs ss) (i + 1)).length : Int) = ((seqL (piece zs ss) i).length + (enc (numV (zs.getD i 0))).length : Nat) + (enc (cutB (ss.getD i ByteArray.empty)).size).length + (cutB (ss.getD i ByteArray.empty)).size := by
      rw [seqL, List.length_append, hpl]; omega
    rw [he]
    exact h
theorem seq_end (s : ByteArray) (hs : s.size ≤ 4000) (w : World) :
    Calls Tryd.prog 15 #[.string s, .int .i64 s.size] w fun e w' => e = .returned (.tuple #[.int .i64 0, .int .i64 0, .int .i64 10]) ∧ w = w' := by
  have h := int_any s s.size w (by unfold maxLen; omega) (Nat.le_refl _)
  rw [show s.data.toList.drop s.size = [] from List.drop_eq_nil_of_le (Nat.le_refl _)] at h
  exact h

set_option maxRecDepth 100000 in
set_option maxHeartbeats 1000000 in
theorem law6_any (b1 o1 b2 o2 nl cl nt ct n : Nat) (zs : List Int) (ss : List ByteArray) (w : World) (hn : (n : Int) = min (min (nl : Int) nt) 20)
    (hb1 : b1 < w.heap.size) (hb2 : b2 < w.heap.size)
    (h1 : ∀ i, i < n → w.cell? ⟨b1, o1 + i, none⟩ = some (.int .i64 (zs.getD i 0)) ∧ -9223372036854775808 ≤ zs.getD i 0 ∧ zs.getD i 0 ≤ 9223372036854775807)
    (h2 : ∀ i, i < n → w.cell? ⟨b2, o2 + i, none⟩ = some (.string (ss.getD i ByteArray.empty))) (hT : Tab w) :
    Calls Tryd.prog 6 #[.slice (some ⟨b1, o1, none⟩) nl cl, .slice (some ⟨b2, o2, none⟩) nt ct] w fun e w' => e = .returned (.bool true) ∧ Below w.heap.size w w' := by
  have hif : ∀ (ts : Array TypeId) (t : TypeId) (w : World), (Builtin.min_ ts t #[.int .i64 nl, .int .i64 nt, .int .i64 20]).run Tryd.prog w = .ok (.int .i64 n) w := fun ts t w => by
    rw [run_min3, hn]
  have hnl : n ≤ nl := by omega
  have hnt : n ≤ nt := by omega
  have hn20 : n ≤ 20 := by omega
  have H1 := Lib.hid h1; have H2 := Lib.hid h2; have HT := Lib.hid hT; clear h1 h2 hT hn
  go_enter Tryd.func6, Tryd.ntmps6
  go_wp2_with fail
  refine (sane_any _ HT.out).mono ?_
  rintro e w1 ⟨rfl, bA⟩
  go_wp2_with fail
  go_loopw [7, 8, 9, 10, 11, 12] (fun sv ii _ _ _ _ wr => ∃ (i : Nat) (s : ByteArray), ii = .int .i64 i ∧ sv = .string s ∧ i ≤ n ∧ s.size ≤ 118 * i ∧ Hid (s.data.toList = seqL (piece zs ss) i) ∧ Below w.heap.size w wr)
    (fun _ ii _ _ _ _ _ => n - (intOf ii).toNat)
  case atStart => exact ⟨0, ⟨#[]⟩, rfl, rfl, by omega, Nat.le_refl _, Lib.hid rfl, bA⟩
  case round =>
    obtain ⟨i, s, rfl, rfl, hi, hss, HS, hbr⟩ := hrel
    by_cases hin : i < n
    · obtain ⟨hc1, hz0, hz1⟩ := H1.out i hin
      have hc1' : wr.cell? ⟨b1, o1 + i, none⟩ = some (.int .i64 (zs.getD i 0)) := (hbr.cell (p := ⟨b1, o1 + i, none⟩) hb1).trans hc1
      have hc2' : wr.cell? ⟨b2, o2 + i, none⟩ = some (.string (ss.getD i ByteArray.empty)) := (hbr.cell (p := ⟨b2, o2 + i, none⟩) hb2).trans (H2.out i hin)
      clear hc1
      have hi0 : (0 : Int) ≤ (i : Int) := Int.natCast_nonneg _
      have hi1 : (i : Int) < (nl : Int) := by omega
      have hi2 : (i : Int) < (nt : Int) := by omega
      obtain ⟨z, hz⟩ : ∃ z, z = zs.getD i 0 := ⟨_, rfl⟩
      obtain ⟨x, hx⟩ : ∃ x, x = ss.getD i ByteArray.empty := ⟨_, rfl⟩
      rw [← hz] at hc1' hz0 hz1
      rw [← hx] at hc2'
      have HZ := Lib.hid hz; have HX := Lib.hid hx
      clear hz hx
      obtain ⟨hT1, hT2, hifx, hslx⟩ := cutB_at (P := Tryd.prog) 9 Tryd.underlying9 x
      have hE := E_bounds (numV_ok z)
      have hSz : (S (cutB x)).size ≤ 109 := by rw [S_size]; have := E_bounds (n := (cutB x).size) (by unfold okI; omega); omega
      have hE2 := hE.2
      clear hE
      go_wp2_with fail
      refine (numberFrom_any z _ hz0 hz1).mono ?_
      rintro e w2 ⟨rfl, b2'⟩
      clear hc1'
      go_wp2_with fail
      refine (putE_any (numV z) _ (numV_ok z)).mono ?_
      rintro e w3 ⟨rfl, b3⟩
      have bs3 := hbr.size
      have bq := Below_step (Below_step hbr b2' (Nat.le_refl _)) b3 (Nat.le_refl _)
      have hc3 : w3.cell? ⟨b2, o2 + i, none⟩ = some (.string x) := by
        rw [HX.out]; exact (bq.cell (p := ⟨b2, o2 + i, none⟩) hb2).trans (H2.out i hin)
      clear b2' b3 hc2' hbr
      go_wp2_with fail
      go_region_held3 (fun w' => w'.cell? ⟨b2, o2 + i, none⟩ = some (.string x)) (first | go_keep | exact hc4)
        (first | (go_at_call 19; refine (putS_any (cutB x) _ (by omega)).mono ?_; rintro e w4 ⟨rfl, b4⟩; have hc4 : w4.cell? ⟨b2, o2 + i, none⟩ = some (.string x) := (b4.cell (p := ⟨b2, o2 + i, none⟩) (Nat.lt_of_lt_of_le hb2 bq.size)).trans hc3))
      all_goals
        have bz := Below_step bq.drew b4 (Nat.le_refl _)
        have hsum : (s ++ E (numV z) ++ S (cutB x)).size ≤ 118 * (i + 1) := by rw [ByteArray.size_append, ByteArray.size_append]; omega
        have hlist : (s ++ E (numV z) ++ S (cutB x)).data.toList = seqL (piece zs ss) (i + 1) := by
          rw [ByteArray.data_append, ByteArray.data_append, Array.toList_append, Array.toList_append, HS.out, E_list, S_list, seqL, piece, ← HZ.out, ← HX.out, List.append_assoc]
        have HSUM := Lib.hid hsum; have HLIST := Lib.hid hlist
        clear hsum hlist hc3 hc4 b4 hifx hslx
        go_wp2_with fail
        go_roundw
        case rel => exact ⟨i + 1, _, by go_num, rfl, by omega, HSUM.out, HLIST, bz⟩
        case measure => simp [intOf]; omega
    · obtain ⟨wo, rfl⟩ : ∃ wo : World, wo = wr := ⟨_, rfl⟩
      have hil : i = n := by omega
      subst hil
      have hs4 : s.size ≤ 4000 := by omega
      have bs := hbr.size
      go_wp2_with fail
      go_loopw [13, 14, 15, 16, 17, 18, 19, 20] (fun av ii _ _ _ _ _ _ wr => ∃ (j A : Nat), ii = .int .i64 j ∧ av = .int .i64 A ∧ j ≤ i ∧ A ≤ 4000 ∧ Hid (A = (seqL (piece zs ss) j).length) ∧ Below w.heap.size w wr)
        (fun _ ii _ _ _ _ _ _ _ => i - (intOf ii).toNat)
      case atStart => exact ⟨0, 0, rfl, rfl, by omega, by omega, Lib.hid rfl, hbr⟩
      case round =>
        obtain ⟨j, A, rfl, rfl, hj, hA, HA, hbw⟩ := hrel
        by_cases hji : j < i
        · obtain ⟨hc1, hz0, hz1⟩ := H1.out j hji
          have hj0 : (0 : Int) ≤ (j : Int) := Int.natCast_nonneg _
          have hj1 : (j : Int) < (nl : Int) := by omega
          have hj2 : (j : Int) < (nt : Int) := by omega
          obtain ⟨m, hm, q1, q2⟩ := seq_decode zs ss s i j hji hn20 HS.out
          rw [← HA.out] at q1
          obtain ⟨A2, hA2⟩ : ∃ A2, A2 = (seqL (piece zs ss) (j + 1)).length := ⟨_, rfl⟩
          rw [← hA2] at q2
          have hA2b : A2 ≤ 4000 := by have := seqL_length (piece zs ss) (piece_length zs ss) (j + 1); omega
          obtain ⟨z, hz⟩ : ∃ z, z = zs.getD j 0 := ⟨_, rfl⟩
          obtain ⟨x, hx⟩ : ∃ x, x = ss.getD j ByteArray.empty := ⟨_, rfl⟩
          rw [← hz] at q1 hz0 hz1
          rw [← hx] at q2
          have HZ := Lib.hid hz; have HX := Lib.hid hx; have HA2 := Lib.hid hA2
          have Q1 := Lib.hid q1; have Q2 := Lib.hid q2
          clear hz hx hA2 q1 q2 hc1
          obtain ⟨hT1, hT2, hifx, hslx⟩ := cutB_at (P := Tryd.prog) 9 Tryd.underlying9 x
          go_wp2_with fail
          refine (Q1.out _).mono ?_
          rintro e w' ⟨rfl, rfl⟩
          go_wp2_with fail
          refine (Q2.out _).mono ?_
          rintro e w3 ⟨rfl, b3⟩
          have bq := Below_step hbw b3 (Nat.le_refl _)
          have hc3 : w3.cell? ⟨b1, o1 + j, none⟩ = some (.int .i64 z) := by rw [HZ.out]; exact (bq.cell (p := ⟨b1, o1 + j, none⟩) hb1).trans (H1.out j hji).1
          have hc4 : w3.cell? ⟨b2, o2 + j, none⟩ = some (.string x) := by rw [HX.out]; exact (bq.cell (p := ⟨b2, o2 + j, none⟩) hb2).trans (H2.out j hji)
          clear b3
          go_wp2_with fail
          go_region_held3 (fun w' => w'.cell? ⟨b1, o1 + j, none⟩ = some (.int .i64 z) ∧ w'.cell? ⟨b2, o2 + j, none⟩ = some (.string x)) (first | go_keep | exact ⟨hc5, hc6⟩)
            (first | (go_at_call 11; refine (numberFrom_any z _ hz0 hz1).mono ?_; rintro e w4 ⟨rfl, b4⟩; have hc5 : w4.cell? ⟨b1, o1 + j, none⟩ = some (.int .i64 z) := (b4.cell (p := ⟨b1, o1 + j, none⟩) (Nat.lt_of_lt_of_le hb1 bq.size)).trans hc3; have hc6 : w4.cell? ⟨b2, o2 + j, none⟩ = some (.string x) := (b4.cell (p := ⟨b2, o2 + j, none⟩) (Nat.lt_of_lt_of_le hb2 bq.size)).trans hc4))
          all_goals
            have bz := Below_step bq.drew b4 (Nat.le_refl _)
            clear hc3 hc4 hc5 hc6 b4 hifx hslx
            go_wp2_with fail
            go_roundw
            case rel => exact ⟨j + 1, A2, by go_num, rfl, by omega, hA2b, HA2, bz⟩
            case measure => simp [intOf]; omega
        · have hjl : j = i := by omega
          subst hjl
          have hAs : A = s.size := by rw [HA.out, ← HS.out]; rfl
          subst hAs
          have q := seq_end s hs4
          have Q := Lib.hid q; clear q
          go_wp2_with fail
          refine (Q.out _).mono ?_
          rintro e w' ⟨rfl, rfl⟩
          go_wp2_with fail
          go_ret
          exact ⟨rfl, hbw⟩
end Go.Proofs.YtolpkbjbklcdgaaDoor
