/- The contract of the reference's digits. Conditions: the string is an integer, and its length an int. -/
import Derived.Test.YtgpppjfgdbloiaaQVal
namespace Go.Proofs.Ytgpppjfgdbloiaa
open Go.RowKit Go.Lib

/-- A sign and digits have been returned. -/
def OutDig (z : Int) (w : World) (e : Ending) (w' : World) : Prop := ∃ A c, e = .returned (.tuple #[.bool (decide (z < 0)), .slice A (dl z.natAbs) c]) ∧ Dm w' A (dl z.natAbs) c z.natAbs ∧ Below w.heap.size w w'
theorem byte_of {r : ByteArray} {X k t : Nat} (hR : r.data.toList = dec10 X) (hk : k + t + 1 = dl X) (h : k < r.size) : r[k].toNat = 48 + d10 X t := by
  have h1 : r[k] = r.data.toList[k]'(by rw [← size_eq]; exact h) := rfl
  have h2 : k < (dec10 X).length := by rw [dec10_length]; omega
  have h3 : r[k] = (dec10 X)[k] := by rw [h1]; congr 1
  have h4 : (dec10 X)[k] = dch (d10 X (dl X - 1 - k)) := pad_at X (dl X) k h2
  rw [h3, h4, dch_nat (d10_lt _ _), show dl X - 1 - k = t by omega]
theorem dec_not0 {X : Nat} (h : 0 < X) : dec10 X ≠ [48] := fun h2 => by
  obtain ⟨c, L, h3, h4, -⟩ := dec10_head h
  rw [h2] at h3
  injection h3 with h5 _
  rw [← h5] at h4; exact h4 rfl

set_option maxRecDepth 100000 in
set_option maxHeartbeats 2000000 in
theorem qdigits_any (s : ByteArray) (z : Int) (w : World) (hs : s.size ≤ 9000000000000000000) (hz : rd s.data.toList = some z) :
    Calls Try.prog 40 #[.string s] w (OutDig z w) := by
  obtain ⟨i0, hi0, hz0, hz1, hz2⟩ := info_of info_i64
  obtain ⟨g1, g2, g3, g4, g5, g6, g7, -⟩ := rd_some hz
  have hX200 := dl_le.2 g2
  have hcut : cutR s.data.toList = if z = 0 then [48] else dec10 z.natAbs := by rw [g1]; exact cutB_zL.2
  have hp : 0 < s.size := by
    have := cutR_le s.data.toList
    rw [← size_eq] at this; omega
  have h1 : s.toList ≠ [] := by rw [toList_data, ne_eq, ← List.length_eq_zero_iff, ← size_eq]; omega
  have h2 : (!s.toList.isEmpty) = true := by simp [h1]
  have hL : s.data.toList = s[0] :: s.data.toList.tail := by
    cases hq : s.data.toList with
    | nil => have h7 := size_eq s; rw [hq, List.length_nil] at h7; omega
    | cons c R =>
      have : s[0] = c := by
        have h4 : s[0] = s.data.toList[0]'(by rw [hq]; simp) := rfl
        rw [h4]; simp [hq]
      rw [this]; rfl
  unfold OutDig
  obtain ⟨X, hX⟩ : ∃ X, X = z.natAbs := ⟨_, rfl⟩
  rw [← hX] at hcut hX200 ⊢
  obtain ⟨n, hn⟩ : ∃ n, n = dl X := ⟨_, rfl⟩
  rw [← hn] at hX200 ⊢
  by_cases hc : s[0] = 45
  · have h3 : ((s[0].toNat : Int) == 45) = true := by rw [hc]; rfl
    have hcb : cutB s.data.toList = true := by rw [hL, hc]; rfl
    have hcr : bs (cutR s.data.toList) = s.extract 1 s.size := by
      rw [extract_eq]
      have : cutR s.data.toList = s.data.toList.tail := by rw [hL, hc]; rfl
      rw [this, ← List.drop_one, List.take_of_length_le (by rw [List.length_drop, size_eq]; exact Nat.le_refl _)]; rfl
    have hsl := fun w => run_slice_string_l (P := Try.prog) w 9 s Try.underlying9 .i64 1 (by omega) (by omega)
    rw [show (1 : Int).toNat = 1 from rfl] at hsl
    rw [hcb] at g3
    have hzn : z < 0 := by simpa using g3.symm
    rw [if_neg (by omega)] at hcut
    rw [← g3]
    obtain ⟨r, hr⟩ : ∃ r, r = s.extract 1 s.size := ⟨_, rfl⟩
    rw [← hr] at hsl
    have hR : r.data.toList = dec10 X := by rw [hr, ← hcr, hcut]; rfl
    have hX0 : 0 < X := by omega
    clear hcr hcb hr hL hc hcut g1 g2 g3 g4 g5 g6 g7 hz hzn
    have ht : (r.toList == [48]) = false := is48 _ _ (by symm; rw [decide_eq_false_iff_not, hR]; exact dec_not0 hX0)
    have hsz : r.size = n := by rw [size_eq, hR, dec10_length, hn]
    have hn0 : 0 < n := by rw [hn]; exact dl_pos hX0
    have HR := Lib.hid hR; have HN := Lib.hid hn; have HSZ := Lib.hid hsz
    clear hX hX0 hR hn
    go_enter Try.func40, Try.ntmps40
    go_wp2_with fail
    clear hsl h1 h2 h3
    go_loopw [5, 6] (fun vv ii wr => ∃ (t : Nat) (i : Int), ii = .int .i64 i ∧ Hid (i = (n : Int) - 1 - (t : Int)) ∧ t ≤ n ∧ wr.ownsRow w.heap.size 3 1 vv t ((digs X t).map iv) ∧ Below w.heap.size w wr)
      (fun _ ii _ => (intOf ii + 1).toNat)
    case atStart => exact ⟨0, _, rfl, (by show _ = _; omega), Nat.zero_le _, World.ownsRow_nil _ _ _ _, Below.refl _ _⟩
    case round =>
      obtain ⟨t, i, rfl, HI, htn, hown, hbl⟩ := hrel
      have hbs := hbl.size
      by_cases hlt : t < n
      · obtain ⟨k, hk⟩ : ∃ k : Nat, i = (k : Int) := ⟨i.toNat, by have := HI.out; omega⟩
        subst hk
        have hkt : k + t + 1 = n := by have := HI.out; omega
        have hkr : k < r.size := by omega
        have hby := byte_of HR.out (by rw [← HN.out]; exact hkt) hkr
        have hdl := d10_lt X t
        have HDG := Lib.hid (digs_succ X t)
        obtain ⟨d, hd⟩ : ∃ d, d = d10 X t := ⟨_, rfl⟩
        rw [← hd] at hby hdl HDG
        have e1 : (r[k].toNat : Int) - 48 = (d : Int) := by omega
        have q1 : (0 : Int) ≤ (k : Int) := by omega
        have q2 : (k : Int) < (r.size : Int) := by omega
        have q3 : (48 : Int) ≤ (r[k].toNat : Int) := by omega
        have q4 : (r[k].toNat : Int) ≤ 57 := by omega
        have HI2 : Hid ((k : Int) - 1 = (n : Int) - 1 - ((t + 1 : Nat) : Int)) := by show _ = _; omega
        have HOWN := Lib.hid hown; have HBL := Lib.hid hbl
        clear hown hbl hd hby HI hkt
        go_wp2_with (at_builtin; refine wpList_append_own _ rfl _ _ 44 rfl w.heap.size 3 i0 (.int .i64 0) 1 8 Try.underlying44 hi0 hz0 hz1 hz2 rfl (by decide) _ _ _ rfl (HOWN.out.alloc _) ⟨wr.heap.size, 0, none⟩ 1 1 [.int .i64 (d : Int)] rfl rfl (cell_one_new _ _ _) (by simp [Value.oneCell']) (by unfold maxLen; omega) (by omega) (by simp; omega) ?_; intro v1 w1 hown1 hgrow1 _; have hB1 := ((HBL.out.alloc hbs _).grown hgrow1 (by simp; omega) (own_base HOWN.out)); have hown2 : w1.ownsRow w.heap.size 3 1 v1 (t + 1) ((digs X (t + 1)).map iv) := (by rw [HDG.out, List.map_append]; exact hown1); have HOWN2 := Lib.hid hown2; have HB1 := Lib.hid hB1; clear hown1 hgrow1 hown2 hB1)
        go_roundw
        case rel => exact ⟨t + 1, (k : Int) - 1, rfl, HI2.out, by omega, HOWN2.out, HB1.out⟩
        case measure => simp [intOf] <;> omega
      · obtain rfl : t = n := by omega
        obtain rfl : i = -1 := by have := HI.out; omega
        obtain ⟨A, c, rfl, hD⟩ := Dm.own hown
        have HD := Lib.hid hD; have HBL := Lib.hid hbl
        clear hown hD hbl
        go_wp2_with fail
        go_ret2
        exact ⟨A, c, rfl, HD.out, HBL.out⟩
  · have h3 : ((s[0].toNat : Int) == 45) = false := by
      rw [beq_eq_false_iff_ne]; intro h; exact hc (UInt8.toNat_inj.1 (show s[0].toNat = (45 : UInt8).toNat from Int.ofNat.inj h))
    have hcb : cutB s.data.toList = false := by
      rw [hL]; unfold cutB; split
      · rename_i h; injection h with h _; exact absurd h hc
      · rfl
    have hcr : cutR s.data.toList = s.data.toList := by
      rw [hL]; unfold cutR; split
      · rename_i h; injection h with h _; exact absurd h hc
      · rfl
    rw [hcb] at g3
    rw [← g3]
    rw [hcr] at hcut
    by_cases hz00 : z = 0
    · rw [if_pos hz00] at hcut
      obtain rfl : X = 0 := by omega
      obtain rfl : n = 0 := by rw [hn, dl_zero]
      have ht : (s.toList == [48]) = true := is48 _ _ (by rw [hcut]; rfl)
      have hsz : (s.size : Int) = 1 := by rw [size_eq, hcut]; rfl
      clear hcr hcb hL hc hcut g1 g2 g3 g4 g5 g6 g7 hz hX hn hz00
      go_enter Try.func40, Try.ntmps40
      go_wp2_with fail
      go_loopw [5, 6] (fun vv ii wr => vv = .slice none 0 0 ∧ ii = .int .i64 0 ∧ wr = w) (fun _ _ _ => 0)
      case atStart => exact ⟨rfl, rfl, rfl⟩
      case round =>
        obtain ⟨rfl, rfl, rfl⟩ := hrel
        go_wp2_with fail
        go_ret2
        exact ⟨none, 0, rfl, Dm.zero, Below.refl _ _⟩
    · rw [if_neg hz00] at hcut
      have hX0 : 0 < X := by omega
      have ht : (s.toList == [48]) = false := is48 _ _ (by symm; rw [decide_eq_false_iff_not, hcut]; exact dec_not0 hX0)
      have hsz : s.size = n := by rw [size_eq, hcut, dec10_length, hn]
      have hn0 : 0 < n := by rw [hn]; exact dl_pos hX0
      have HR := Lib.hid hcut; have HN := Lib.hid hn; have HSZ := Lib.hid hsz
      clear hcr hcb hL hc g1 g2 g3 g4 g5 g6 g7 hz hX hn hz00 hX0 hcut
      go_enter Try.func40, Try.ntmps40
      go_wp2_with fail
      clear h1 h2 h3 hp
      go_loopw [5, 6] (fun vv ii wr => ∃ (t : Nat) (i : Int), ii = .int .i64 i ∧ Hid (i = (n : Int) - 1 - (t : Int)) ∧ t ≤ n ∧ wr.ownsRow w.heap.size 3 1 vv t ((digs X t).map iv) ∧ Below w.heap.size w wr)
        (fun _ ii _ => (intOf ii + 1).toNat)
      case atStart => exact ⟨0, _, rfl, (by show _ = _; omega), Nat.zero_le _, World.ownsRow_nil _ _ _ _, Below.refl _ _⟩
      case round =>
        obtain ⟨t, i, rfl, HI, htn, hown, hbl⟩ := hrel
        have hbs := hbl.size
        by_cases hlt : t < n
        · obtain ⟨k, hk⟩ : ∃ k : Nat, i = (k : Int) := ⟨i.toNat, by have := HI.out; omega⟩
          subst hk
          have hkt : k + t + 1 = n := by have := HI.out; omega
          have hkr : k < s.size := by omega
          have hby := byte_of HR.out (by rw [← HN.out]; exact hkt) hkr
          have hdl := d10_lt X t
          have HDG := Lib.hid (digs_succ X t)
          obtain ⟨d, hd⟩ : ∃ d, d = d10 X t := ⟨_, rfl⟩
          rw [← hd] at hby hdl HDG
          have e1 : (s[k].toNat : Int) - 48 = (d : Int) := by omega
          have q1 : (0 : Int) ≤ (k : Int) := by omega
          have q2 : (k : Int) < (s.size : Int) := by omega
          have q3 : (48 : Int) ≤ (s[k].toNat : Int) := by omega
          have q4 : (s[k].toNat : Int) ≤ 57 := by omega
          have HI2 : Hid ((k : Int) - 1 = (n : Int) - 1 - ((t + 1 : Nat) : Int)) := by show _ = _; omega
          have HOWN := Lib.hid hown; have HBL := Lib.hid hbl
          clear hown hbl hd hby HI hkt
          go_wp2_with (at_builtin; refine wpList_append_own _ rfl _ _ 44 rfl w.heap.size 3 i0 (.int .i64 0) 1 8 Try.underlying44 hi0 hz0 hz1 hz2 rfl (by decide) _ _ _ rfl (HOWN.out.alloc _) ⟨wr.heap.size, 0, none⟩ 1 1 [.int .i64 (d : Int)] rfl rfl (cell_one_new _ _ _) (by simp [Value.oneCell']) (by unfold maxLen; omega) (by omega) (by simp; omega) ?_; intro v1 w1 hown1 hgrow1 _; have hB1 := ((HBL.out.alloc hbs _).grown hgrow1 (by simp; omega) (own_base HOWN.out)); have hown2 : w1.ownsRow w.heap.size 3 1 v1 (t + 1) ((digs X (t + 1)).map iv) := (by rw [HDG.out, List.map_append]; exact hown1); have HOWN2 := Lib.hid hown2; have HB1 := Lib.hid hB1; clear hown1 hgrow1 hown2 hB1)
          go_roundw
          case rel => exact ⟨t + 1, (k : Int) - 1, rfl, HI2.out, by omega, HOWN2.out, HB1.out⟩
          case measure => simp [intOf] <;> omega
        · obtain rfl : t = n := by omega
          obtain rfl : i = -1 := by have := HI.out; omega
          obtain ⟨A, c, rfl, hD⟩ := Dm.own hown
          have HD := Lib.hid hD; have HBL := Lib.hid hbl
          clear hown hD hbl
          go_wp2_with fail
          go_ret2
          exact ⟨A, c, rfl, HD.out, HBL.out⟩
end Go.Proofs.Ytgpppjfgdbloiaa
