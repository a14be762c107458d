/- The contracts of the reference's constants and extended. Condition: the string is no longer than 100,000 bytes. -/
import Derived.Test.YthaegodeijfbdaaDoorApp
namespace Go.Proofs.YthaegodeijfbdaaDoor
open Go.RowKit Go.Lib

theorem own_any {W : World} {B e n : Nat} {v : Value} {xs : List Value} (h : W.ownsRow B e 1 v n xs) : ∃ A c, v = .slice A n c ∧ (A = none → c = 0) := by
  rcases h.2 with ⟨rfl, h0⟩ | ⟨g, cap, cur, rfl, _⟩
  · subst h0; exact ⟨none, 0, rfl, fun _ => rfl⟩
  · exact ⟨_, _, rfl, fun hh => by cases hh⟩
/-- The length of a slice value. -/
def lenV : Value → Nat
  | .slice _ n _ => n
  | _ => 0
/-- How many zero bytes are added. -/
def padK (n : Nat) : Nat := (119 - n % 64) % 64
theorem be8_take (n : Nat) : ∀ i : Fin 8, (be8 n).take (8 - i.val) = (be8 n).take (7 - i.val) ++ [(n / 2 ^ (8 * i.val)).toUInt8] := by
  intro i
  match i with
  | 0 => show be8 n = (be8 n).take 7 ++ [(n / 1).toUInt8]; rw [Nat.div_one]; rfl
  | 1 => rfl
  | 2 => rfl
  | 3 => rfl
  | 4 => rfl
  | 5 => rfl
  | 6 => rfl
  | 7 => rfl
theorem own_snocb {w : World} {base e n : Nat} {v : Value} {l : List UInt8} {x : UInt8} (h : w.ownsRow base e 1 v (n + 1) (l.map bv ++ [bv x])) : w.ownsRow base e 1 v (n + 1) ((l ++ [x]).map bv) := by
  rw [List.map_append]; exact h

/-- A list of bytes that the call itself has made. -/
def BytesOut (w : World) (l : List UInt8) (e : Ending) (w' : World) : Prop := ∃ v, e = .returned v ∧ w'.ownsRow w.heap.size 5 1 v l.length (l.map bv) ∧ Below w.heap.size w w'
theorem constants_any (w : World) : Calls Tryd.prog 46 #[] w fun e w' => e = .returned (.slice (some ⟨w.heap.size, 0, none⟩) 64 64) ∧ w' = w.alloc (.cells (kk.map wv).toArray 38) := by
  go_enter Tryd.func46, Tryd.ntmps46
  go_wp2
  go_ret
  exact ⟨rfl, rfl⟩

set_option maxRecDepth 100000 in
set_option maxHeartbeats 1000000 in
theorem extended_any (s : ByteArray) (w : World) (hs : s.size ≤ 100000) :
    Calls Tryd.prog 29 #[.string s] w (BytesOut w (s.data.toList ++ padding s.size)) := by
  obtain ⟨i0, hi0, hz0, hz1, hz2⟩ := info_parts info_u8
  go_enter Tryd.func29, Tryd.ntmps29
  go_wp2
  go_loopw [3, 4] (fun vv ii wr => ∃ i : Nat, ii = .int .i64 i ∧ i ≤ s.size ∧ wr.ownsRow w.heap.size 5 1 vv i ((s.data.toList.take i).map bv) ∧ Below w.heap.size w wr) (fun _ ii _ => s.size - (intOf ii).toNat)
  case atStart => exact ⟨0, rfl, by omega, World.ownsRow_nil _ _ _ _, Below.refl _ _⟩
  case round =>
    obtain ⟨i, rfl, hi, hown, hb⟩ := hrel
    have hbs := hb.size
    by_cases hlt : i < s.size
    · have q1 : (0 : Int) ≤ (i : Int) := by omega
      have q2 : (i : Int) < (s.size : Int) := by omega
      have HT := Lib.hid (take_snoc s i hlt)
      go_wp2_with (at_builtin; refine wpList_append_own _ rfl _ _ 40 rfl w.heap.size 5 i0 (.int .u8 0) 1 1 Tryd.underlying40 hi0 hz0 hz1 hz2 rfl (by decide) _ _ _ rfl (hown.alloc _) ⟨wr.heap.size, 0, none⟩ 1 1 [.int .u8 (s[i].toNat : Nat)] rfl rfl (cell_one_new _ _ _) (by simp [Value.oneCell']) (by unfold maxLen; omega) (by omega) (by simp; omega) ?_; intro v1 w1 hown1 hgrow1 _; have hB1 := ((hb.alloc hbs _).grown hgrow1 (by simp; omega) (own_base hown)); skip)
      go_roundw
      case rel => exact ⟨i + 1, by go_num, by omega, (by rw [HT.out]; exact own_snocb hown1), hB1⟩
      case measure => simp [intOf]; omega
    · have hi2 : i = s.size := by omega
      have hown2 : wr.ownsRow w.heap.size 5 1 u3 s.size (s.data.toList.map bv) := by
        rw [hi2, List.take_of_length_le (by rw [str_length]; omega)] at hown; exact hown
      have HOWN := Lib.hid hown2
      clear hown hown2 hi2
      go_wp2_with (at_builtin; refine wpList_append_own _ rfl _ _ 40 rfl w.heap.size 5 i0 (.int .u8 0) 1 1 Tryd.underlying40 hi0 hz0 hz1 hz2 rfl (by decide) _ _ _ rfl (HOWN.out.alloc _) ⟨wr.heap.size, 0, none⟩ 1 1 [.int .u8 128] rfl rfl (cell_one_new _ _ _) (by simp [Value.oneCell']) (by unfold maxLen; omega) (by omega) (by simp; omega) ?_; intro v1 w1 hown1 hgrow1 _; have hB1 := ((hb.alloc hbs _).grown hgrow1 (by simp; omega) (own_base HOWN.out)); skip)
      have hown3 : w1.ownsRow w.heap.size 5 1 v1 (s.size + 1) ((s.data.toList ++ 128 :: List.replicate 0 0).map bv) := own_snocb hown1
      have HOWN3 := Lib.hid hown3; have HB1 := Lib.hid hB1
      clear hown1 hgrow1 hown3 hB1 HOWN
      clear hb hbs
      obtain ⟨sl, hsl⟩ : ∃ sl, sl = s.data.toList := ⟨_, rfl⟩
      obtain ⟨wo, rfl⟩ : ∃ wo : World, wo = w1 := ⟨_, rfl⟩
      go_wp2_with fail
      go_loopw [3] (fun vv wr => ∃ (k n : Nat) (A : Option Addr) (c : Nat), vv = .slice A n c ∧ n ≤ 100100 ∧ s.size < n ∧ k ≤ 63 ∧ Hid (n = s.size + 1 + k ∧ k ≤ padK s.size) ∧ wr.ownsRow w.heap.size 5 1 vv n ((s.data.toList ++ 128 :: List.replicate k 0).map bv) ∧ Below w.heap.size w wr) (fun vv _ => 200000 - lenV vv)
      case atStart =>
        obtain ⟨A, c, rfl, -⟩ := own_any HOWN3.out
        exact ⟨0, s.size + 1, A, c, rfl, by omega, by omega, by omega, ⟨rfl, Nat.zero_le _⟩, HOWN3.out, HB1.out⟩
      case round =>
        obtain ⟨k, n, A, c, rfl, hn, hn2, hk, HN, hown, hb⟩ := hrel
        have hbs := hb.size
        by_cases hlt : n % 64 = 56
        · have hkK : k = padK s.size := by have := HN.out; unfold padK at *; omega
          have hn3 : n = s.size + 1 + padK s.size := by have := HN.out.1; omega
          have t1 : ((n : Int) % 64 == 56) = true := by rw [beq_iff_eq]; omega
          have t2 : ((n : Int) % 64 != 56) = false := by rw [bne, t1]; rfl
          rw [hkK] at hown
          have HN3 := Lib.hid hn3; have HO := Lib.hid hown; have HB := Lib.hid hb
          clear hkK hn3 hown hlt HN hb
          go_wp2_with fail
          go_loopw [3, 5] (fun vv ii wr => ∃ (i : Int) (j : Nat), ii = .int .i64 i ∧ -1 ≤ i ∧ i ≤ 7 ∧ Hid (i + j = 7) ∧ wr.ownsRow w.heap.size 5 1 vv (s.size + 1 + padK s.size + j) ((s.data.toList ++ 128 :: List.replicate (padK s.size) 0 ++ (be8 (8 * s.size)).take j).map bv) ∧ Below w.heap.size w wr) (fun _ ii _ => (intOf ii + 1).toNat)
          case atStart => exact ⟨7, 0, rfl, by omega, by omega, rfl, (by rw [← HN3.out]; show World.ownsRow _ _ _ _ _ _ _; rw [List.take_zero, List.append_nil]; exact HO.out), HB.out⟩
          case round =>
            obtain ⟨i, j, rfl, hi1, hi2, HJ, hown, hb⟩ := hrel
            have hbs := hb.size
            by_cases hlt : 0 ≤ i
            · obtain ⟨i', rfl⟩ := Int.eq_ofNat_of_zero_le hlt
              have hi3 : i' ≤ 7 := by omega
              have hj : j = 7 - i' := by have := HJ.out; omega
              have hj2 : j ≤ 7 := by omega
              have hpk : padK s.size ≤ 63 := by unfold padK; omega
              have hbt := be8_take (8 * s.size) ⟨i', by omega⟩
              dsimp only at hbt
              rw [show 8 - i' = j + 1 from by omega, ← hj] at hbt
              have hby := byte_div (n := 8 * s.size) (m := 8 * i')
              rw [show ((8 * s.size : Nat) : Int) = 8 * (s.size : Int) from by omega] at hby
              obtain ⟨x, hx⟩ : ∃ x, x = ((8 * s.size) / 2 ^ (8 * i')).toUInt8 := ⟨_, rfl⟩
              rw [← hx] at hbt hby
              have HBT := Lib.hid hbt; have HBY := Lib.hid hby
              have HJ2 : Hid ((i' : Int) - 1 + (j + 1 : Nat) = 7) := by show _ = _; omega
              clear hbt hby hj hx hlt HJ
              go_wp2_with (at_builtin; refine wpList_append_own _ rfl _ _ 40 rfl w.heap.size 5 i0 (.int .u8 0) 1 1 Tryd.underlying40 hi0 hz0 hz1 hz2 rfl (by decide) _ _ _ rfl (hown.alloc _) ⟨wr.heap.size, 0, none⟩ 1 1 [.int .u8 (8 * (s.size : Int) / 2 ^ (8 * i') % 256)] rfl rfl (cell_one_new _ _ _) (by simp [Value.oneCell']) (by unfold maxLen; omega) (by omega) (by simp; omega) ?_; intro v1 w1 hown1 hgrow1 _; have hB1 := ((hb.alloc hbs _).grown hgrow1 (by simp; omega) (own_base hown)); skip)
              rw [← HBY.out] at hown1
              go_roundw
              case rel =>
                refine ⟨(i' : Int) - 1, j + 1, rfl, by omega, by omega, HJ2.out, ?_, hB1⟩
                rw [HBT.out, ← List.append_assoc]
                exact own_snocb hown1
              case measure => simp [intOf]
            · have hj : j = 8 := by have := HJ.out; omega
              have e : s.data.toList ++ 128 :: List.replicate (padK s.size) 0 ++ (be8 (8 * s.size)).take j = s.data.toList ++ padding s.size := by
                rw [hj, List.take_of_length_le (by simp [be8])]
                unfold padding padK
                rw [List.append_assoc, List.cons_append]
              have e2 : s.size + 1 + padK s.size + j = (s.data.toList ++ padding s.size).length := by
                rw [← e]; simp only [List.length_append, List.length_cons, List.length_replicate, List.length_take, str_length]
                rw [show (be8 (8 * s.size)).length = 8 from rfl]; omega
              rw [e, e2] at hown
              have HOW := Lib.hid hown
              clear e e2 hown hj HJ
              go_wp2
              go_ret
              exact ⟨_, rfl, HOW.out, hb⟩
        · have hkK : k < padK s.size := by have := HN.out; unfold padK at *; omega
          have t1 : ((n : Int) % 64 == 56) = false := by rw [beq_eq_false_iff_ne]; omega
          have t2 : ((n : Int) % 64 != 56) = true := by rw [bne, t1]; rfl
          have hk2 : k + 1 ≤ 63 := by unfold padK at hkK; omega
          have hn4 : n + 1 ≤ 100100 := by have := HN.out.1; omega
          have HN2 : Hid (n + 1 = s.size + 1 + (k + 1) ∧ k + 1 ≤ padK s.size) := ⟨by have := HN.out.1; omega, hkK⟩
          clear hlt hkK HN
          go_wp2_with (at_builtin; refine wpList_append_own _ rfl _ _ 40 rfl w.heap.size 5 i0 (.int .u8 0) 1 1 Tryd.underlying40 hi0 hz0 hz1 hz2 rfl (by decide) _ _ _ rfl (hown.alloc _) ⟨wr.heap.size, 0, none⟩ 1 1 [.int .u8 0] rfl rfl (cell_one_new _ _ _) (by simp [Value.oneCell']) (by unfold maxLen; omega) (by omega) (by simp; omega) ?_; intro v1 w1 hown1 hgrow1 _; have hB1 := ((hb.alloc hbs _).grown hgrow1 (by simp; omega) (own_base hown)); obtain ⟨A1, c1, rfl, -⟩ := own_any hown1)
          go_roundw
          case rel =>
            refine ⟨k + 1, n + 1, A1, c1, rfl, hn4, by omega, hk2, HN2.out, ?_, hB1⟩
            have e : (s.data.toList ++ (128 : UInt8) :: List.replicate (k + 1) 0).map bv = (s.data.toList ++ 128 :: List.replicate k 0).map bv ++ [.int .u8 0] := by
              rw [List.replicate_succ', ← List.cons_append, ← List.append_assoc, List.map_append]; rfl
            rw [e]; exact hown1
          case measure => simp [lenV]; omega
end Go.Proofs.YthaegodeijfbdaaDoor
