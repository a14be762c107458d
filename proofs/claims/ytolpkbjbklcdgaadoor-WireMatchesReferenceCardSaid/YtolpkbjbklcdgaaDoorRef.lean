/- The contracts of the reference's PutInt, Int, PutString and String: they return what the program's own do. Conditions: the string is no longer than Go's strings can be. -/
import Derived.Test.YtolpkbjbklcdgaaDoorStr
import Derived.RegionTactic
import Derived.ChangeAlike
import Derived.Lib.Strings
namespace Go.Proofs.YtolpkbjbklcdgaaDoor
open Go.RowKit Go.Lib

theorem own_snoc {w : World} {base e : Nat} {v val : Value} {L : List UInt8} {x : UInt8} (h : w.ownsRow base e 1 v (L.length + 1) (L.map bv ++ [val])) (hx : val = bv x) :
    w.ownsRow base e 1 v (L ++ [x]).length ((L ++ [x]).map bv) := by
  subst hx; rw [List.length_append, List.map_append]; exact h
theorem own_base {w : World} {base e size n : Nat} {v : Value} {xs : List Value} (h : w.ownsRow base e size v n xs) (k : Nat) (hk : v.ownBlock = some k) : base ≤ k := by
  rcases h.2 with ⟨rfl, _⟩ | ⟨g, cap, cur, rfl, hg, _⟩
  · simp [Value.ownBlock] at hk
  · have : g = k := by simpa [Value.ownBlock] using hk
    omega

set_option maxRecDepth 100000 in
set_option maxHeartbeats 1000000 in
theorem refputint_ok (n : Int) (w : World) (h1 : -4611686018427387903 ≤ n) (h2 : n ≤ 4611686018427387903) :
    Calls Tryd.prog 13 #[.int .i64 n] w fun e w' => e = .returned (.tuple #[.string ⟨(enc n).toArray⟩, .int .i64 0]) ∧ Below w.heap.size w w' := by
  obtain ⟨i0, hi, hz0, hz1, hz2⟩ := info_parts info_u8
  have hzl := zigzag_le ⟨h1, h2⟩
  have hlen : (uvarint (zigzag n)).length ≤ 9 := enc_length ⟨h1, h2⟩
  have C1 := Lib.hid fun w => refzigzag_any n w h1 h2
  obtain ⟨z0, hz0'⟩ : ∃ z0, z0 = zigzag n := ⟨_, rfl⟩
  rw [← hz0'] at hzl hlen C1
  have HZ := Lib.hid hz0'; clear hz0'
  go_enter Tryd.func13, Tryd.ntmps13
  go_wp2_with fail
  refine (C1.out _).mono ?_
  rintro e w' ⟨rfl, rfl⟩
  go_wp2_with fail
  go_loopw [4, 5] (fun zz oo wr => ∃ (r : Nat) (L : List UInt8), zz = .int .u64 r ∧ r ≤ 9223372036854775806 ∧ wr.ownsRow w.heap.size 5 1 oo L.length (L.map bv) ∧ Hid (uvarint z0 = L ++ uvarint r) ∧ Below w.heap.size w wr)
    (fun zz _ _ => (intOf zz).toNat)
  case atStart => exact ⟨z0, [], rfl, hzl, World.ownsRow_nil _ _ _ _, Lib.hid rfl, Below.refl _ _⟩
  case round =>
    obtain ⟨r, L, rfl, hr, hown, HU, hb⟩ := hrel
    have hLl : L.length ≤ 8 := by
      have := congrArg List.length HU.out
      rw [List.length_append] at this
      have := uvarint_pos r
      omega
    have hbs := hb.size
    by_cases hlt : r < 128
    · have hu : uvarint z0 = L ++ [r.toUInt8] := by rw [HU.out, uvarint_small hlt]
      have HE := Lib.hid hu; clear hu
      have hbv : ((r.toUInt8).toNat : Int) = r := by rw [toNat_byte (by omega)]
      have HB := Lib.hid hbv; clear hbv
      go_wp2_with (at_builtin; refine wpList_append_own _ rfl _ _ 38 rfl w.heap.size 5 i0 (.int .u8 0) 1 1 Tryd.underlying38 hi hz0 hz1 hz2 rfl (by decide) _ _ _ rfl (hown.alloc _) ⟨wr.heap.size, 0, none⟩ 1 1 [.int .u8 r] rfl rfl (cell_one_new _ _ _) (by simp [Value.oneCell']) (by unfold maxLen; omega) (by omega) (by simp; omega) ?_; intro v1 w1 hown1 hgrow1 _; obtain ⟨g1, cap1, rfl⟩ := ownsRow_succ hown1; have hB1 := ((hb.alloc hbs _).grown hgrow1 (by simp; omega) (own_base hown)); have hcv := run_string_own (P := Tryd.prog) (l := L ++ [r.toUInt8]) 38 9 Tryd.underlying38 Tryd.underlying5 Tryd.underlying9 (own_snoc hown1 (by unfold bv; rw [HB.out])))
      go_ret2
      exact ⟨by show Ending.returned (.tuple #[.string ⟨(L ++ [r.toUInt8]).toArray⟩, .int .i64 0]) = _; rw [← HE.out, HZ.out]; rfl, hB1⟩
    · have hu : uvarint z0 = (L ++ [(r % 128 + 128).toUInt8]) ++ uvarint (r / 128) := by rw [HU.out, uvarint_big (by omega)]; simp
      have HE := Lib.hid hu; clear hu
      have hbv : (((r % 128 + 128).toUInt8).toNat : Int) = (r : Int) % 128 + 128 := by rw [toNat_byte (by omega)]; omega
      have HB := Lib.hid hbv; clear hbv
      go_wp2_with (at_builtin; refine wpList_append_own _ rfl _ _ 38 rfl w.heap.size 5 i0 (.int .u8 0) 1 1 Tryd.underlying38 hi hz0 hz1 hz2 rfl (by decide) _ _ _ rfl (hown.alloc _) ⟨wr.heap.size, 0, none⟩ 1 1 [.int .u8 ((r : Int) % 128 + 128)] rfl rfl (cell_one_new _ _ _) (by simp [Value.oneCell']) (by unfold maxLen; omega) (by omega) (by simp; omega) ?_; intro v1 w1 hown1 hgrow1 _; obtain ⟨g1, cap1, rfl⟩ := ownsRow_succ hown1; have hB1 := ((hb.alloc hbs _).grown hgrow1 (by simp; omega) (own_base hown)); skip)
      go_roundw
      case rel => exact ⟨r / 128, L ++ [(r % 128 + 128).toUInt8], by go_num, by omega, own_snoc hown1 (by unfold bv; rw [HB.out]), HE, hB1⟩
      case measure => simp [intOf]; omega

theorem refputint_lo (n : Int) (w : World) (h : n < -4611686018427387903) :
    Calls Tryd.prog 13 #[.int .i64 n] w fun e w' => e = .returned (.tuple #[.string ⟨#[]⟩, .int .i64 10]) ∧ Below w.heap.size w w' := by
  have h2 : ¬ 4611686018427387903 < n := by omega
  go_enter Tryd.func13, Tryd.ntmps13
  go_wp2
  go_ret2
  exact ⟨rfl, Below.refl _ _⟩
theorem refputint_hi (n : Int) (w : World) (h2 : 4611686018427387903 < n) :
    Calls Tryd.prog 13 #[.int .i64 n] w fun e w' => e = .returned (.tuple #[.string ⟨#[]⟩, .int .i64 10]) ∧ Below w.heap.size w w' := by
  have h : ¬ n < -4611686018427387903 := by omega
  go_enter Tryd.func13, Tryd.ntmps13
  go_wp2
  go_ret2
  exact ⟨rfl, Below.refl _ _⟩

/-- The reference's PutInt, for every integer. -/
theorem refputint_any (n : Int) (w : World) :
    Calls Tryd.prog 13 #[.int .i64 n] w fun e w' => e = .returned (.tuple #[.string (putS n), .int .i64 (putE n)]) ∧ Below w.heap.size w w' := by
  unfold putS putE
  by_cases h : okI n
  · rw [if_pos h, if_pos h]; exact refputint_ok n w h.1 h.2
  · rw [if_neg h, if_neg h]
    unfold okI at h
    by_cases h2 : n < -4611686018427387903
    · exact refputint_lo n w h2
    · exact refputint_hi n w (by omega)

/-- The groups that have been joined are an encoding just if they say so. -/
theorem join_taken {l : List UInt8} {z n : Nat} {ok : Bool} (h : join 9 0 0 l = some (z, n, ok)) (hz : z < 9223372036854775808) : ok = true ↔ l.take n = uvarint z := by
  constructor
  · rintro rfl
    obtain ⟨x, r, hl, hy, hn, _, _⟩ := join_sound 9 0 0 l z n h
    have hx : z = x := by simpa using hy
    subst hx
    rw [hl, hn, Nat.zero_add, List.take_left]
  · intro ht
    have hl : l = uvarint z ++ l.drop n := by rw [← ht, List.take_append_drop]
    have h2 := join_uvarint 8 0 0 z (l.drop n) (by rw [show (128 : Nat) ^ (8 + 1) = 9223372036854775808 from by decide]; exact hz) (Or.inl rfl)
    rw [← hl, h] at h2
    simp only [Option.some.injEq, Prod.mk.injEq] at h2
    exact h2.2.2

theorem refint_out (s : ByteArray) (a : Int) (w : World) (h : ¬ (0 ≤ a ∧ a ≤ s.size)) :
    Calls Tryd.prog 16 #[.string s, .int .i64 a] w fun e w' => e = .returned (.tuple #[.int .i64 0, .int .i64 0, .int .i64 2]) ∧ Below w.heap.size w w' := by
  by_cases h1 : a < 0
  · clear h
    go_enter Tryd.func16, Tryd.ntmps16
    go_wp2
    go_ret3
    exact ⟨rfl, Below.refl _ _⟩
  · have h2 : (s.size : Int) < a := by omega
    clear h
    go_enter Tryd.func16, Tryd.ntmps16
    go_wp2
    go_ret3
    exact ⟨rfl, Below.refl _ _⟩

theorem ret_int3 {a a' b b' c : Int} (h1 : a = a') (h2 : b = b') : Ending.returned (.tuple #[.int .i64 a, .int .i64 b, .int .i64 c]) = .returned (.tuple #[.int .i64 a', .int .i64 b', .int .i64 c]) := by rw [h1, h2]

set_option maxRecDepth 100000 in
set_option maxHeartbeats 4000000 in
theorem refint_any (s : ByteArray) (k : Nat) (w : World) (hs : s.size ≤ maxLen) (hk : k ≤ s.size) :
    Calls Tryd.prog 16 #[.string s, .int .i64 k] w fun e w' => e = intV k (dec (s.data.toList.drop k)) ∧ Below w.heap.size w w' := by
  have hm : s.size ≤ 9223372036854775807 := by unfold maxLen at hs; omega
  have hd : decide (s.size < k) = false := by simp; omega
  have hd0 : decide ((k : Int) < 0) = false := by simp
  obtain ⟨L, hL⟩ : ∃ L, L = s.data.toList.drop k := ⟨_, rfl⟩
  rw [← hL]
  have hLn : L.length = s.size - k := by rw [hL, List.length_drop]; rfl
  have HL := Lib.hid hL; clear hL
  have HN := Lib.hid hLn; clear hLn
  have AT : Hid (∀ i, k + i < s.size → ∃ (h : k + i < s.size), L[i]? = some s[k + i]) := Lib.hid fun i hi => by
    refine ⟨hi, ?_⟩
    rw [HL.out, List.getElem?_drop, Array.getElem?_toList]
    exact Array.getElem?_eq_getElem (by show k + i < s.data.size; have : s.data.size = s.size := rfl; omega)
  go_enter Tryd.func16, Tryd.ntmps16
  go_wp2
  go_loop [7, 8, 9, 10, 11, 12] (fun zz ii _ _ _ _ => ∃ (i z : Nat), ii = .int .i64 i ∧ zz = .int .u64 z ∧ i ≤ 9 ∧ k + i ≤ s.size ∧ z < 2 ^ (7 * i) ∧ join 9 0 0 L = join (9 - i) i z (L.drop i)) (fun _ i _ _ _ _ => 9 - (intOf i).toNat)
  case atStart => exact ⟨0, 0, rfl, rfl, by omega, by omega, by omega, rfl⟩
  case round =>
    obtain ⟨i, z, rfl, rfl, hi, hki0, hz, hj⟩ := hrel
    have HJ := Lib.hid hj; clear hj
    have HZ := Lib.hid hz; clear hz
    by_cases hlt : i < 9 ∧ k + i < s.size
    · obtain ⟨hi9, hki⟩ := hlt
      obtain ⟨_, hb⟩ := AT.out i hki
      have hst := join_step (f := 8 - i) (z := z) hb
      rw [show 8 - i + 1 = 9 - i from by omega] at hst
      have HS := Lib.hid hst; clear hst hb
      have hw := wrap_join (b := s[k + i].toNat) HZ.out hi9
      have hb256 : s[k + i].toNat < 256 := UInt8.toNat_lt _
      have hb256' : (s[k + i].toNat : Int) < 256 := by omega
      by_cases hb2 : s[k + i].toNat < 128
      · have hS := HS.out
        rw [if_pos hb2, ← HJ.out] at hS
        obtain ⟨y, hy⟩ : ∃ y, y = z + s[k + i].toNat % 128 * 2 ^ (7 * i) := ⟨_, rfl⟩
        obtain ⟨ok, hok⟩ : ∃ ok : Bool, ok = !(decide (s[k + i].toNat = 0) && decide (0 < i)) := ⟨_, rfl⟩
        have hylt : y < 9223372036854775808 := by
          have h1 := grow_lt (b := s[k + i].toNat) HZ.out
          have h2 : 2 ^ (7 * (i + 1)) ≤ 2 ^ 63 := Nat.pow_le_pow_right (by omega) (by omega)
          have : (2 : Nat) ^ 63 = 9223372036854775808 := by decide
          omega
        rw [← hy, ← hok] at hS
        rw [← hy] at hw
        have htk := join_taken hS hylt
        have hdec : dec L = if ok = true ∧ y ≤ 9223372036854775806 then some (unzigzag y, i + 1) else none := by
          unfold dec; rw [hS]
          cases ok <;> simp
        have hEx : (s.extract k (k + i + 1)).data.toList = L.take (i + 1) := by
          rw [ByteArray.data_extract, Array.toList_extract, List.extract_eq_take_drop, HL.out, show k + i + 1 - k = i + 1 from by omega]
        have hsl : ∀ w, (Instr.slice 9 (.string s) (some (.int .i64 (k : Int))) (some (.int .i64 ((k : Int) + i + 1))) none).run Tryd.prog w = .ok (.string (s.extract k (k + i + 1))) w :=
          fun w => run_slice_str (P := Tryd.prog) 9 Tryd.underlying9 s k (k + i + 1) rfl (by omega) (by omega) (by omega) w
        have hcmp : ((⟨(uvarint y).toArray⟩ : ByteArray).toList == (s.extract k (k + i + 1)).toList) = ok := by
          rw [Lib.toList_data, Lib.toList_data, hEx]
          cases ok
          · rw [beq_eq_false_iff_ne]; intro h; exact absurd (htk.2 h.symm) (by simp)
          · rw [beq_iff_eq]; exact (htk.1 rfl).symm
        obtain ⟨U, hU⟩ : ∃ U : ByteArray, U = ⟨(uvarint y).toArray⟩ := ⟨_, rfl⟩
        rw [← hU] at hcmp
        have HU := Lib.hid hU
        have HD := Lib.hid hdec
        clear hS htk hdec hEx hU hok hy
        by_cases hmax : y ≤ 9223372036854775806
        · by_cases hpar : y % 2 = 1
          · have hp1 : ((y : Int) % 2 == 1) = true := by rw [beq_iff_eq]; omega
            have hn : unzigzag y = -((y : Int) / 2) - 1 := by unfold unzigzag; rw [if_neg (by omega)]; omega
            have C1 : Hid (∀ w, Calls Tryd.prog 13 #[.int .i64 (-((y : Int) / 2) - 1)] w fun e w' => e = .returned (.tuple #[.string U, .int .i64 0]) ∧ Below w.heap.size w w') := Lib.hid fun w => by
              have h := refputint_ok (-((y : Int) / 2) - 1) w (by omega) (by omega)
              rw [← hn, enc, zigzag_unzigzag, ← HU.out] at h
              rw [← hn]; exact h
            have HNN := Lib.hid hn; clear hn
            cases ok
            · have hd : dec L = none := by rw [HD.out]; simp
              have HDD := Lib.hid hd; clear hd
              go_wp2_with fail
              refine (C1.out _).mono ?_
              rintro e w1 ⟨rfl, b1⟩
              go_wp2_with fail
              go_ret3
              exact ⟨by rw [HDD.out]; rfl, b1⟩
            · have hd : dec L = some (unzigzag y, i + 1) := by rw [HD.out]; simp [hmax]
              have HDD := Lib.hid hd; clear hd
              go_wp2_with fail
              refine (C1.out _).mono ?_
              rintro e w1 ⟨rfl, b1⟩
              go_wp2_with fail
              go_ret3
              exact ⟨by rw [HDD.out, HNN.out]; exact ret_int3 rfl (by omega), b1⟩
          · have hp1 : ((y : Int) % 2 == 1) = false := by rw [beq_eq_false_iff_ne]; omega
            have hn : unzigzag y = (y : Int) / 2 := by unfold unzigzag; rw [if_pos (by omega)]; omega
            have C1 : Hid (∀ w, Calls Tryd.prog 13 #[.int .i64 ((y : Int) / 2)] w fun e w' => e = .returned (.tuple #[.string U, .int .i64 0]) ∧ Below w.heap.size w w') := Lib.hid fun w => by
              have h := refputint_ok ((y : Int) / 2) w (by omega) (by omega)
              rw [← hn, enc, zigzag_unzigzag, ← HU.out] at h
              rw [← hn]; exact h
            have HNN := Lib.hid hn; clear hn
            cases ok
            · have hd : dec L = none := by rw [HD.out]; simp
              have HDD := Lib.hid hd; clear hd
              go_wp2_with fail
              refine (C1.out _).mono ?_
              rintro e w1 ⟨rfl, b1⟩
              go_wp2_with fail
              go_ret3
              exact ⟨by rw [HDD.out]; rfl, b1⟩
            · have hd : dec L = some (unzigzag y, i + 1) := by rw [HD.out]; simp [hmax]
              have HDD := Lib.hid hd; clear hd
              go_wp2_with fail
              refine (C1.out _).mono ?_
              rintro e w1 ⟨rfl, b1⟩
              go_wp2_with fail
              go_ret3
              exact ⟨by rw [HDD.out, HNN.out]; exact ret_int3 rfl (by omega), b1⟩
        · have hp1 : ((y : Int) % 2 == 1) = true := by rw [beq_iff_eq]; omega
          have C1 : Hid (∀ w, Calls Tryd.prog 13 #[.int .i64 (-((y : Int) / 2) - 1)] w fun e w' => e = .returned (.tuple #[.string ⟨#[]⟩, .int .i64 10]) ∧ Below w.heap.size w w') := Lib.hid fun w =>
            refputint_lo (-((y : Int) / 2) - 1) w (by omega)
          have hd : dec L = none := by rw [HD.out]; simp [hmax]
          have HDD := Lib.hid hd; clear hd
          go_wp2_with fail
          refine (C1.out _).mono ?_
          rintro e w1 ⟨rfl, b1⟩
          go_wp2_with fail
          go_ret3
          exact ⟨by rw [HDD.out]; rfl, b1⟩
      · have HW := Lib.hid hw; clear hw
        have h := HS.out
        rw [if_neg hb2, show 8 - i = 9 - (i + 1) from by omega] at h
        have HS2 := Lib.hid h; clear h
        go_wp2_with fail
        go_round
        case rel => exact ⟨i + 1, z + s[k + i].toNat % 128 * 2 ^ (7 * i), by go_num, by rw [HW.out], by omega, by omega, grow_lt HZ.out, HJ.out.trans HS2.out⟩
        case measure => simp [intOf]; omega
    · have hend := join_end (f := 9 - i) (i := i) (z := z) (l := L) (by have := HN.out; omega)
      have hd : dec L = none := by unfold dec; rw [HJ.out, hend]
      have HDD := Lib.hid hd; clear hd hend
      by_cases h9 : i < 9
      · have h10 : ¬ k + i < s.size := fun h => hlt ⟨h9, h⟩
        go_wp2
        go_ret3
        exact ⟨by rw [HDD.out]; rfl, Below.refl _ _⟩
      · go_wp2
        go_ret3
        exact ⟨by rw [HDD.out]; rfl, Below.refl _ _⟩
end Go.Proofs.YtolpkbjbklcdgaaDoor
