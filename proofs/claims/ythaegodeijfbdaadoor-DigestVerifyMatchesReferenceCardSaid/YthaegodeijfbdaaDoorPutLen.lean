/- The contract of putLength: a number in the last eight bytes of a block. Condition: the block holds 64 bytes. -/
import Derived.Test.YthaegodeijfbdaaDoorMix
import Derived.Laws.CopyRow
namespace Go.Proofs.YthaegodeijfbdaaDoor
open Go.RowKit Go.Lib

theorem be8_at (n : Nat) : ∀ i : Fin 8, (be8 n).drop (7 - i.val) = (n / 2 ^ (8 * i.val)).toUInt8 :: (be8 n).drop (8 - i.val) := by
  intro i
  match i with
  | 0 => exact congrArg (· :: []) (by show n.toUInt8 = (n / 1).toUInt8; rw [Nat.div_one])
  | 1 => rfl
  | 2 => rfl
  | 3 => rfl
  | 4 => rfl
  | 5 => rfl
  | 6 => rfl
  | 7 => rfl
theorem set_take {l r : List UInt8} {m : Nat} (h : m < l.length) (x : UInt8) : (((l.take (m + 1) ++ r).map bv).toArray).setIfInBounds m (bv x) = ((l.take m ++ x :: r).map bv).toArray := by
  rw [List.setIfInBounds_toArray]
  congr 1
  rw [List.map_append, List.map_append, List.map_cons, List.set_append_left _ _ (by simp; omega)]
  have e : (l.take (m + 1)).map bv = (l.take m).map bv ++ [bv l[m]] := by rw [List.take_succ_eq_append_getElem h, List.map_append]; rfl
  have hl : ((l.take m).map bv).length = m := by simp; omega
  rw [e, List.set_append_right _ _ (by omega), hl, Nat.sub_self, List.set_cons_zero, List.append_assoc]
  rfl
theorem bv_at {l : List UInt8} {i : Nat} (h : i < l.length) : ((l.map bv).toArray)[i]? = some (bv l[i]) := by
  rw [List.getElem?_toArray, List.getElem?_map, List.getElem?_eq_getElem h]; rfl
theorem byte_div {n m : Nat} : (((n / 2 ^ m).toUInt8).toNat : Int) = (n : Int) / 2 ^ m % 256 := by
  rw [show ((n / 2 ^ m).toUInt8).toNat = n / 2 ^ m % 256 from by simp [Nat.toUInt8], Int.natCast_emod, Int.natCast_ediv, Int.natCast_pow]; rfl

set_option maxRecDepth 100000 in
set_option maxHeartbeats 1000000 in
theorem putLength_any (g n : Nat) (l : List UInt8) (t : TypeId) (w : World) (hl : l.length = 64) (_hn : n < 18446744073709551616) (hB : Blk w g t (l.map bv).toArray) :
    Calls Tryd.prog 50 #[.pointer (some ⟨g, 0, none⟩), .int .u64 n] w fun e w' => (∃ v, e = .returned v) ∧ Blk w' g t ((l.take 56 ++ be8 n).map bv).toArray ∧ w.grownBy w' (some g) ∧ w'.heap.size = w.heap.size := by
  go_enter Tryd.func50, Tryd.ntmps50
  go_wp2
  go_loopw [4, 5] (fun _ ii wr => ∃ i : Nat, ii = .int .i64 i ∧ i ≤ 8 ∧ Blk wr g t ((l.take (64 - i) ++ (be8 n).drop (8 - i)).map bv).toArray ∧ w.grownBy wr (some g) ∧ wr.heap.size = w.heap.size)
    (fun _ ii _ => 8 - (intOf ii).toNat)
  case atStart => exact ⟨0, rfl, by omega, (by rw [List.take_of_length_le (by omega), show (be8 n).drop (8 - 0) = [] from rfl, List.append_nil]; exact hB), World.grownBy.refl w _, rfl⟩
  case round =>
    clear hB
    obtain ⟨i, rfl, hi, hB, hg, hz⟩ := hrel
    by_cases hlt : i < 8
    · have hlen : (l.take (64 - i) ++ (be8 n).drop (8 - i)).length = 64 := by
        rw [List.length_append, List.length_take, List.length_drop, show (be8 n).length = 8 from rfl]; omega
      obtain ⟨v, c0⟩ : ∃ v, wr.cell? ⟨g, 63 - i, none⟩ = some v := ⟨_, hB.cell (bv_at (i := 63 - i) (by omega))⟩
      have f0 := hB.frozen (63 - i)
      have hst := set_take (l := l) (r := (be8 n).drop (8 - i)) (m := 63 - i) (by omega) ((n / 2 ^ (8 * i)).toUInt8)
      have hb8 := be8_at n ⟨i, hlt⟩
      have hby := byte_div (n := n) (m := 8 * i)
      have HST := Lib.hid hst; have HB8 := Lib.hid hb8; have HBY := Lib.hid hby
      clear hst hb8 hby hlen
      have p1 : (i : Int) ≤ 63 := by omega
      have p2 : (63 : Int) - (i : Int) < 64 := by omega
      have p3 : ((63 : Int) - (i : Int)).toNat = 63 - i := by omega
      go_wp2
      go_region
      all_goals
        go_wp2
        go_roundw
        case rel =>
          refine ⟨i + 1, by go_num, by omega, ?_, only_drew (only_setCell hg _ _), by simpa [World.setCell] using hz⟩
          have h2 := hB.set (63 - i) (bv ((n / 2 ^ (8 * i)).toUInt8))
          have e1 : 64 - i = 63 - i + 1 := by omega
          rw [e1, HST.out] at h2
          rw [show 64 - (i + 1) = 63 - i from by omega, show 8 - (i + 1) = 7 - i from by omega, HB8.out]
          rw [bv, HBY.out] at h2
          exact h2
        case measure => simp [intOf]; omega
    · have hi8 : i = 8 := by omega
      rw [hi8] at hB
      clear hi8
      go_wp2
      go_end0
      exact ⟨⟨_, rfl⟩, hB, hg, hz⟩
end Go.Proofs.YthaegodeijfbdaaDoor
