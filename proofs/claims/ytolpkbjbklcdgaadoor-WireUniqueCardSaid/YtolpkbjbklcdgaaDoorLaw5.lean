/- WireUnique answers true, and changes nothing that lay in memory. Conditions: the integer is of its Go type, the table holds what its text says. -/
import Derived.Test.YtolpkbjbklcdgaaDoorLawA
import Derived.RegionTactic
import Derived.ChangeAlike
import Derived.StillTailTactics
namespace Go.Proofs.YtolpkbjbklcdgaaDoor
open Go.RowKit Go.Lib

theorem extract_size {t : ByteArray} {k m : Nat} {l : List UInt8} {r : List UInt8} (h : t.data.toList.drop k = l ++ r) (hm : m = k + l.length) : (t.extract k m).data.toList = l := by
  subst hm
  rw [ByteArray.data_extract, Array.toList_extract, List.extract_eq_take_drop, h, Nat.add_sub_cancel_left, List.take_left]

/-- What Int returns, by its meaning. -/
theorem int_res (t : ByteArray) (k : Nat) (hs : t.size ≤ maxLen) (hk : k ≤ t.size) :
    ∃ (n nx e : Int), (∀ w, Calls Tryd.prog 15 #[.string t, .int .i64 k] w fun e' w' => e' = .returned (.tuple #[.int .i64 n, .int .i64 nx, .int .i64 e]) ∧ w = w') ∧
      ((e = 0 ∧ okI n ∧ ∃ m : Nat, nx = m ∧ k ≤ m ∧ m ≤ t.size ∧ t.extract k m = E n) ∨ (e = 10 ∧ n = 0 ∧ nx = 0)) := by
  rcases h : dec (t.data.toList.drop k) with _ | ⟨n, j⟩
  · refine ⟨0, 0, 10, fun w => ?_, Or.inr ⟨rfl, rfl, rfl⟩⟩
    have := int_any t k w hs hk
    rw [h] at this
    exact this
  · obtain ⟨hok, r, hl, hj⟩ := dec_sound h
    have hlen := congrArg List.length hl
    rw [List.length_drop, List.length_append] at hlen
    have e1 : t.data.toList.length = t.size := rfl
    refine ⟨n, k + j, 0, fun w => ?_, Or.inl ⟨rfl, hok, k + j, by omega, by omega, by omega, ?_⟩⟩
    · have := int_any t k w hs hk
      rw [h] at this
      exact this
    · apply ByteArray.ext
      apply Array.toList_inj.1
      rw [extract_size hl (by rw [hj]), E_list]

/-- What String returns, by its meaning. -/
theorem str_res (t : ByteArray) (k : Nat) (hs : t.size ≤ maxLen) (hk : k ≤ t.size) :
    ∃ (v : ByteArray) (nx e : Int), (∀ w, Calls Tryd.prog 17 #[.string t, .int .i64 k] w fun e' w' => e' = .returned (.tuple #[.string v, .int .i64 nx, .int .i64 e]) ∧ Below w.heap.size w w') ∧
      ((e = 0 ∧ v.size ≤ 65536 ∧ ∃ m : Nat, nx = m ∧ k ≤ m ∧ m ≤ t.size ∧ t.extract k m = S v) ∨ (e = 10 ∧ v = ⟨#[]⟩ ∧ nx = 0)) := by
  rcases h : decS (t.data.toList.drop k) with _ | ⟨n, j⟩
  · refine ⟨⟨#[]⟩, 0, 10, fun w => ?_, Or.inr ⟨rfl, rfl, rfl⟩⟩
    have := string_any t k w hs hk
    rw [h] at this
    exact this
  · refine ⟨t.extract (k + j) (k + j + n), k + j + n, 0, fun w => ?_, Or.inl ?_⟩
    · have := string_any t k w hs hk
      rw [h] at this
      exact this
    · unfold decS at h
      rcases hd : dec (t.data.toList.drop k) with _ | ⟨n', j'⟩
      · rw [hd] at h; cases h
      · rw [hd] at h
        simp only at h
        split at h
        · rename_i hc
          simp only [Option.some.injEq, Prod.mk.injEq] at h
          obtain ⟨rfl, rfl⟩ := h
          obtain ⟨hok, r, hl, hj⟩ := dec_sound hd
          have hlen := congrArg List.length hl
          have e1 : t.data.toList.length = t.size := rfl
          rw [List.length_drop, List.length_append] at hlen
          rw [List.length_drop] at hc
          have hsz : (t.extract (k + j') (k + j' + n'.toNat)).size = n'.toNat := by rw [ByteArray.size_extract]; omega
          refine ⟨rfl, by omega, k + j' + n'.toNat, by omega, by omega, by omega, ?_⟩
          apply ByteArray.ext
          apply Array.toList_inj.1
          rw [S_list, hsz, show ((n'.toNat : Nat) : Int) = n' from by omega]
          rw [ByteArray.data_extract, ByteArray.data_extract, Array.toList_extract, Array.toList_extract, List.extract_eq_take_drop, List.extract_eq_take_drop, ← List.drop_drop, hl, hj, List.drop_left,
            show k + (enc n').length + n'.toNat - k = (enc n').length + n'.toNat from by omega, Nat.add_sub_cancel_left, List.take_append, List.take_of_length_le (by omega), Nat.add_sub_cancel_left]
        · cases h

set_option maxRecDepth 100000 in
set_option maxHeartbeats 1000000 in
theorem law5_any (s : ByteArray) (a : Int) (b : UInt8) (w : World) (ha0 : -9223372036854775808 ≤ a) (ha1 : a ≤ 9223372036854775807) (hT : Tab w) :
    Calls Tryd.prog 5 #[.string s, .int .i64 a, .int .u8 b.toNat] w fun e w' => e = .returned (.bool true) ∧ Below w.heap.size w w' := by
  obtain ⟨T, m, hm1, hm2, hm3, -, hif, hsl⟩ := cut_at (P := Tryd.prog) 9 Tryd.underlying9 s 300 (by omega)
  subst hm3
  have hcv : ∀ w : World, (convert 38 9 (.slice (some ⟨w.heap.size, 0, none⟩) 1 1)).run Tryd.prog (w.alloc (.cells #[.int .u8 b.toNat] 5)).drew = .ok (.string ⟨#[b]⟩) (w.alloc (.cells #[.int .u8 b.toNat] 5)).drew := fun w =>
    run_convert_bytes_back (w.alloc (.cells #[.int .u8 b.toNat] 5)).drew 38 9 5 ⟨w.heap.size, 0, none⟩ 1 [b] Tryd.underlying38 Tryd.underlying5 Tryd.underlying9 (fun j hj => by
      have : j = 0 := by simpa using hj
      subst this
      exact World.cell?_alloc_mark w _ _ _ 0)
  have hb1 : (⟨#[b]⟩ : ByteArray).size = 1 := rfl
  obtain ⟨B1, hB1⟩ : ∃ B1 : ByteArray, B1 = ⟨#[b]⟩ := ⟨_, rfl⟩
  rw [← hB1] at hcv hb1
  have hts : (B1 ++ T).size = B1.size + T.size := ByteArray.size_append
  obtain ⟨p, hp⟩ : ∃ p : Nat, (p : Int) = pickV a ((B1.size : Int) + T.size + 1) := ⟨(pickV a ((B1.size : Int) + T.size + 1)).toNat, by have := pickV_range (c := a) (n := ((B1.size : Int) + T.size + 1)) (by omega); omega⟩
  have hp1 : p ≤ B1.size + T.size := by have := pickV_range (c := a) (n := ((B1.size : Int) + T.size + 1)) (by omega); omega
  have P1 := Lib.hid fun w => pick_any a ((B1.size : Int) + T.size + 1) w ha0 ha1 (by omega) (by omega)
  rw [← hp] at P1
  have hb2 : B1.size ≤ 1 := by omega
  have hb3 : 1 ≤ B1.size := by omega
  have HTS := Lib.hid hts
  have HT := Lib.hid hT; clear hT hp hB1 hb1 hts
  go_enter Tryd.func5, Tryd.ntmps5
  go_wp2_with fail
  refine (sane_any _ HT.out).mono ?_
  rintro e w1 ⟨rfl, b1⟩
  go_wp2_with fail
  go_region
  go_wp2_with fail
  refine (P1.out _).mono ?_
  rintro e w' ⟨rfl, rfl⟩
  go_wp2_with fail
  have bw : Below w.heap.size w (((w1.alloc (.cells #[.int .u8 b.toNat] 5)).drew).alloc (.cells #[.int .i64 0, .int .i64 p] 3)) :=
    (b1.alloc b1.size _).drew.alloc (by have := b1.size; simp; omega) _
  have hcell : ∀ i, i < 2 → ∃ K : Nat, K ≤ B1.size + T.size ∧ (((w1.alloc (.cells #[.int .u8 b.toNat] 5)).drew).alloc (.cells #[.int .i64 0, .int .i64 p] 3)).cell? ⟨w1.heap.size + 1, i, none⟩ = some (.int .i64 K) := by
    intro i hi
    have h := World.cell?_alloc_mark ((w1.alloc (.cells #[.int .u8 b.toNat] 5)).drew) #[.int .i64 0, .int .i64 p] 3 (0, 0) i
    have hz : ((w1.alloc (.cells #[.int .u8 b.toNat] 5)).drew).heap.size = w1.heap.size + 1 := by simp
    rw [hz] at h
    match i, hi with
    | 0, _ => exact ⟨0, Nat.zero_le _, h⟩
    | 1, _ => exact ⟨p, hp1, h⟩
  have HCELL := Lib.hid hcell; clear hcell
  go_loopw [38] (fun ii wr => ∃ i : Nat, ii = .int .i64 i ∧ i ≤ 2 ∧ Below (w1.heap.size + 2) (((w1.alloc (.cells #[.int .u8 b.toNat] 5)).drew).alloc (.cells #[.int .i64 0, .int .i64 p] 3)) wr)
    (fun ii _ => 2 - (intOf ii).toNat)
  case atStart => exact ⟨0, rfl, by omega, Below.refl _ _⟩
  case round =>
    obtain ⟨i, rfl, hi, hbr⟩ := hrel
    by_cases hi2 : i < 2
    · obtain ⟨K, hK1, hK2⟩ := HCELL.out i hi2
      have hK3 : wr.cell? ⟨w1.heap.size + 1, i, none⟩ = some (.int .i64 K) := (hbr.cell (p := ⟨w1.heap.size + 1, i, none⟩) (by show w1.heap.size + 1 < w1.heap.size + 2; omega)).trans hK2
      clear hK2
      have hl : (B1 ++ T).size ≤ maxLen := by rw [HTS.out]; unfold maxLen; omega
      obtain ⟨n, nx, e1, c1, hres⟩ := int_res (B1 ++ T) K hl (by rw [HTS.out]; exact hK1)
      obtain ⟨v, ny, e2, c2, hres2⟩ := str_res (B1 ++ T) K hl (by rw [HTS.out]; exact hK1)
      have hok : okI n := by rcases hres with ⟨_, h, _⟩ | ⟨_, rfl, _⟩ <;> first | exact h | (unfold okI; omega)
      have hv : v.size ≤ 65536 := by rcases hres2 with ⟨_, h, _⟩ | ⟨_, rfl, _⟩ <;> first | exact h | decide
      have C1 := Lib.hid c1; have C3 := Lib.hid c2
      have C2 := Lib.hid fun w => putE_any n w hok
      have C4 := Lib.hid fun w => putS_any v w hv
      have hbs := hbr.size
      clear c1 c2 hok hl
      rcases hres with ⟨rfl, -, m, rfl, hm3, hm4, hx⟩ | ⟨rfl, rfl, rfl⟩ <;> rcases hres2 with ⟨rfl, -, m', rfl, hm5, hm6, hy⟩ | ⟨rfl, rfl, rfl⟩
      · have hs1 := fun w => run_slice_str (P := Tryd.prog) 9 Tryd.underlying9 (B1 ++ T) (x := K) (y := m) K m rfl rfl hm3 hm4 w
        rw [hx] at hs1
        rw [HTS.out] at hm4
        clear hx
        have hs2 := fun w => run_slice_str (P := Tryd.prog) 9 Tryd.underlying9 (B1 ++ T) (x := K) (y := m') K m' rfl rfl hm5 hm6 w
        rw [hy] at hs2
        rw [HTS.out] at hm6
        clear hy
        go_wp2_with fail
        refine (C1.out _).mono ?_
        rintro e w' ⟨rfl, rfl⟩
        go_wp2_with fail
        refine (C2.out _).mono ?_
        rintro e w3 ⟨rfl, b3⟩
        go_wp2_with fail
        refine (C3.out _).mono ?_
        rintro e w4 ⟨rfl, b4⟩
        go_wp2_with fail
        refine (C4.out _).mono ?_
        rintro e w5 ⟨rfl, b5⟩
        go_wp2_with fail
        go_roundw
        case rel => exact ⟨i + 1, by go_num, by omega, Below_step (Below_step (Below_step hbr b3 (by simp)) b4 (by simp)) b5 (by simp)⟩
        case measure => simp [intOf]; omega
      · have hs1 := fun w => run_slice_str (P := Tryd.prog) 9 Tryd.underlying9 (B1 ++ T) (x := K) (y := m) K m rfl rfl hm3 hm4 w
        rw [hx] at hs1
        rw [HTS.out] at hm4
        clear hx
        go_wp2_with fail
        refine (C1.out _).mono ?_
        rintro e w' ⟨rfl, rfl⟩
        go_wp2_with fail
        refine (C2.out _).mono ?_
        rintro e w3 ⟨rfl, b3⟩
        go_wp2_with fail
        refine (C3.out _).mono ?_
        rintro e w4 ⟨rfl, b4⟩
        go_wp2_with fail
        refine (C4.out _).mono ?_
        rintro e w5 ⟨rfl, b5⟩
        go_wp2_with fail
        go_roundw
        case rel => exact ⟨i + 1, by go_num, by omega, Below_step (Below_step (Below_step hbr b3 (by simp)) b4 (by simp)) b5 (by simp)⟩
        case measure => simp [intOf]; omega
      · have hs2 := fun w => run_slice_str (P := Tryd.prog) 9 Tryd.underlying9 (B1 ++ T) (x := K) (y := m') K m' rfl rfl hm5 hm6 w
        rw [hy] at hs2
        rw [HTS.out] at hm6
        clear hy
        go_wp2_with fail
        refine (C1.out _).mono ?_
        rintro e w' ⟨rfl, rfl⟩
        go_wp2_with fail
        refine (C2.out _).mono ?_
        rintro e w3 ⟨rfl, b3⟩
        go_wp2_with fail
        refine (C3.out _).mono ?_
        rintro e w4 ⟨rfl, b4⟩
        go_wp2_with fail
        refine (C4.out _).mono ?_
        rintro e w5 ⟨rfl, b5⟩
        go_wp2_with fail
        go_roundw
        case rel => exact ⟨i + 1, by go_num, by omega, Below_step (Below_step (Below_step hbr b3 (by simp)) b4 (by simp)) b5 (by simp)⟩
        case measure => simp [intOf]; omega
      · go_wp2_with fail
        refine (C1.out _).mono ?_
        rintro e w' ⟨rfl, rfl⟩
        go_wp2_with fail
        refine (C2.out _).mono ?_
        rintro e w3 ⟨rfl, b3⟩
        go_wp2_with fail
        refine (C3.out _).mono ?_
        rintro e w4 ⟨rfl, b4⟩
        go_wp2_with fail
        refine (C4.out _).mono ?_
        rintro e w5 ⟨rfl, b5⟩
        go_wp2_with fail
        go_roundw
        case rel => exact ⟨i + 1, by go_num, by omega, Below_step (Below_step (Below_step hbr b3 (by simp)) b4 (by simp)) b5 (by simp)⟩
        case measure => simp [intOf]; omega
    · go_wp2
      go_ret
      exact ⟨rfl, bw.trans (hbr.mono (by have := b1.size; omega))⟩

theorem law5_int (s : ByteArray) (a c : Int) (w : World) (ha0 : -9223372036854775808 ≤ a) (ha1 : a ≤ 9223372036854775807) (hc0 : 0 ≤ c) (hc1 : c < 256) (hT : Tab w) :
    Calls Tryd.prog 5 #[.string s, .int .i64 a, .int .u8 c] w fun e w' => e = .returned (.bool true) ∧ Below w.heap.size w w' := by
  have h := law5_any s a (UInt8.ofNat c.toNat) w ha0 ha1 hT
  rw [show ((UInt8.ofNat c.toNat).toNat : Int) = c from by rw [UInt8.toNat_ofNat']; omega] at h
  exact h
end Go.Proofs.YtolpkbjbklcdgaaDoor
