/- Contracts of fold, unfold, groups and of the function that groups returns, and of the reference's zigzag. Conditions: the integers are of their Go types. -/
import Derived.RangeFuncBox
import Derived.RangeFuncLeaves
import Derived.Shelf.Abstract
import Derived.WalkKit
import Derived.OwnWalkIn
import Derived.TacticsInMore
import Derived.LoopNIn
import Derived.LoopIn
import Derived.Maps.AppendAt
import Derived.Lib.Hide
import Derived.Outline
import Derived.Deep.DeepFit
import Derived.Test.YtolpkbjbklcdgaaDoorRows
import Derived.Test.YtolpkbjbklcdgaaDoorLeb
namespace Go.Proofs.YtolpkbjbklcdgaaDoor
open Go.RowKit Go.Shelf Go.Lib

attribute [local go_sem] Oper.semAt_some

theorem ret_int {k : IntKind} {a b : Int} (h : a = b) : Ending.returned (.int k a) = .returned (.int k b) := by rw [h]

/-- The groups of a number, each with the mark of the last one. -/
def gl (z : Nat) : List (UInt8 × Bool) :=
  if h : z < 128 then [(z.toUInt8, true)] else ((z % 128).toUInt8, false) :: gl (z / 128)
termination_by z
decreasing_by omega
theorem gl_small {z : Nat} (h : z < 128) : gl z = [(z.toUInt8, true)] := by rw [gl, dif_pos h]
theorem gl_big {z : Nat} (h : 128 ≤ z) : gl z = ((z % 128).toUInt8, false) :: gl (z / 128) := by rw [gl, dif_neg (by omega)]
/-- The byte that is written for a group. -/
def byteOf (x : UInt8 × Bool) : UInt8 := if x.2 then x.1 else x.1 + 128
theorem gl_uvarint (z : Nat) : (gl z).map byteOf = uvarint z := by
  induction z using Nat.strongRecOn with
  | _ z ih =>
    by_cases hz : z < 128
    · rw [gl_small hz, uvarint_small hz]; rfl
    · rw [gl_big (by omega), uvarint_big (by omega), List.map_cons, ih (z / 128) (by omega)]
      congr 1
      apply UInt8.toNat_inj.1
      rw [toNat_byte (by omega)]
      show ((z % 128).toUInt8 + 128).toNat = _
      rw [UInt8.toNat_add, toNat_byte (by omega)]
      show (z % 128 + 128) % 256 = _
      omega
theorem gl_length (z : Nat) : (gl z).length = (uvarint z).length := by rw [← gl_uvarint, List.length_map]

theorem fold_any (n : Int) (w : World) (h1 : -4611686018427387903 ≤ n) (h2 : n ≤ 4611686018427387903) :
    Calls Tryd.prog 24 #[.int .i64 n] w fun e w' => e = .returned (.int .u64 (zigzag n)) ∧ w = w' := by
  by_cases h : n < 0
  · have hz : (zigzag n : Int) = 2 * (-n) - 1 := by unfold zigzag; rw [if_neg (by omega)]; omega
    have HZ := Lib.hid hz; clear hz
    go_enter Tryd.func24, Tryd.ntmps24
    go_wp2
    go_ret
    exact ⟨ret_int (by have := HZ.out; omega), rfl⟩
  · have hz : (zigzag n : Int) = 2 * n := by unfold zigzag; rw [if_pos (by omega)]; omega
    have HZ := Lib.hid hz; clear hz
    go_enter Tryd.func24, Tryd.ntmps24
    go_wp2
    go_ret
    exact ⟨ret_int (by have := HZ.out; omega), rfl⟩

theorem unfold_any (z : Nat) (w : World) (h : z ≤ 9223372036854775806) :
    Calls Tryd.prog 28 #[.int .u64 z] w fun e w' => e = .returned (.int .i64 (unzigzag z)) ∧ w = w' := by
  by_cases h2 : z % 2 = 0
  · have hz : unzigzag z = ((z / 2 : Nat) : Int) := by unfold unzigzag; rw [if_pos h2]
    have HZ := Lib.hid hz; clear hz
    have h3 : (z : Int) % 2 = 0 := by omega
    go_enter Tryd.func28, Tryd.ntmps28
    go_wp2
    go_ret
    exact ⟨ret_int (by have := HZ.out; omega), rfl⟩
  · have hz : unzigzag z = -((z / 2 : Nat) : Int) - 1 := by unfold unzigzag; rw [if_neg h2]
    have HZ := Lib.hid hz; clear hz
    have h3 : (z : Int) % 2 = 1 := by omega
    go_enter Tryd.func28, Tryd.ntmps28
    go_wp2
    go_ret
    exact ⟨ret_int (by have := HZ.out; omega), rfl⟩

theorem refzigzag_any (n : Int) (w : World) (h1 : -4611686018427387903 ≤ n) (h2 : n ≤ 4611686018427387903) :
    Calls Tryd.prog 25 #[.int .i64 n] w fun e w' => e = .returned (.int .u64 (zigzag n)) ∧ w = w' := by
  by_cases h : n < 0
  · have hz : (zigzag n : Int) = (-n) * 2 - 1 := by unfold zigzag; rw [if_neg (by omega)]; omega
    have HZ := Lib.hid hz; clear hz
    go_enter Tryd.func25, Tryd.ntmps25
    go_wp2
    go_ret
    exact ⟨ret_int (by have := HZ.out; omega), rfl⟩
  · have hz : (zigzag n : Int) = n * 2 := by unfold zigzag; rw [if_pos (by omega)]; omega
    have HZ := Lib.hid hz; clear hz
    go_enter Tryd.func25, Tryd.ntmps25
    go_wp2
    go_ret
    exact ⟨ret_int (by have := HZ.out; omega), rfl⟩

/-- A group as yield takes it. -/
abbrev encs (x : UInt8 × Bool) : Array Value := #[.int .u8 x.1.toNat, .bool x.2]

set_option maxRecDepth 100000 in
set_option maxHeartbeats 1000000 in
/-- The function that groups returns hands the groups to every loop body, in their order. -/
theorem groups1_in (F : Fence) (n : Nat) (h30 : F.fn 30) (hro : F.round = none) (hn : 1 ≤ n) (l Bn n₀ z : Nat) (hz : z < 9223372036854775808) (J Jx : List (UInt8 × Bool) → World → Prop)
    (hY : ∀ pre x W, J pre W → pre.length < (gl z).length → YieldAt F (n - 1) Tryd.prog l (encs x) W fun e W' =>
      (e = .returned (.bool true) ∧ J (pre ++ [x]) W' ∧ Below n₀ W W') ∨ (e = .returned (.bool false) ∧ Jx (pre ++ [x]) W'))
    (W : World) (hBn : W.cell? ⟨Bn, 0, none⟩ = some (.int .u64 z)) (h0 : J [] W) :
    CallsIn F n Tryd.prog 30 #[.func (.yield l) #[] #[], .pointer (some ⟨Bn, 0, none⟩)] W fun e W' => (∃ v, e = .returned v) ∧
      ((∃ ys, ys = gl z ∧ J ys W') ∨ (∃ pre, pre <+: gl z ∧ Jx pre W')) := by
  refine callsIn_of_wp Tryd.func30 rfl h30 ?_ hro
  simp only [Tryd.ntmps30, List.size_toArray, List.length_cons, List.length_nil, Nat.reduceAdd, Nat.reduceSub, Array.replicate_succ, Array.replicate_zero, List.push_toArray, List.append_toArray, List.nil_append, List.cons_append]
  gi_wp2
  gi_loopw [3] (fun p wr => ∃ (pre : List (UInt8 × Bool)) (r : Nat), p = .int .u64 r ∧ r < 9223372036854775808 ∧ gl z = pre ++ gl r ∧ J pre wr)
    (fun p _ => (intOf p).toNat)
  case atStart =>
    exact ⟨[], z, rfl, hz, rfl, h0⟩
  case round =>
    obtain ⟨pre, r, rfl, hr, hx, hJs⟩ := hrel
    have HX := Lib.hid hx; clear hx
    by_cases hr2 : r < 128
    · have hl : pre.length < (gl z).length := by rw [HX.out, gl_small hr2]; simp
      obtain ⟨fn, tmps, assign, body, hy, hR⟩ := hY pre (r.toUInt8, true) wr hJs hl
      dsimp only [encs] at hy
      rw [toNat_byte (by omega)] at hy
      gi_wp2
      refine hR.mono ?_
      rintro e W3 (⟨rfl, hJ3, hk3⟩ | ⟨rfl, hJx3⟩)
      · gi_wp2
        go_end0
        exact ⟨⟨_, rfl⟩, .inl ⟨_, by rw [HX.out, gl_small hr2], hJ3⟩⟩
      · gi_wp2
        go_end0
        exact ⟨⟨_, rfl⟩, .inr ⟨_, by rw [HX.out, gl_small hr2]; exact List.prefix_refl _, hJx3⟩⟩
    · have hl : pre.length < (gl z).length := by rw [HX.out, gl_big (by omega)]; simp
      obtain ⟨fn, tmps, assign, body, hy, hR⟩ := hY pre ((r % 128).toUInt8, false) wr hJs hl
      dsimp only [encs] at hy
      rw [toNat_byte (by omega), show ((r % 128 : Nat) : Int) = (r : Int) % 128 from by omega] at hy
      gi_wp2
      refine hR.mono ?_
      rintro e W3 (⟨rfl, hJ3, hk3⟩ | ⟨rfl, hJx3⟩)
      · gi_wp2
        go_roundw
        case rel => exact ⟨pre ++ [((r % 128).toUInt8, false)], r / 128, by go_num, by omega, by rw [HX.out, gl_big (by omega)]; simp, hJ3⟩
        case measure => simp [intOf]; omega
      · gi_wp2
        refine bodyPost_ret (results_none rfl _ _ _) rfl ?_
        exact ⟨⟨_, rfl⟩, .inr ⟨_, ⟨gl (r / 128), by rw [HX.out, gl_big (z := r) (by omega)]; simp⟩, hJx3⟩⟩

/-- What groups returns hands on all groups of the number, in their order. -/
theorem groups_stops (F : Fence) (n : Nat) (h30 : F.fn 30) (hro : F.round = none) (hn : 1 ≤ n) (Bn n₀ z : Nat) (hz : z < 9223372036854775808) (w : World) (hBn : Bn < w.heap.size)
    (hc : w.cell? ⟨Bn, 0, none⟩ = some (.int .u64 z)) :
    SeqStopsK F n Tryd.prog 30 #[.pointer (some ⟨Bn, 0, none⟩)] encs (Below n₀) (fun ys => ys = gl z) (fun pre => pre <+: gl z) (gl z).length w := fun l J Jx W hW _ _ hY h0 =>
  groups1_in F n h30 hro hn l Bn n₀ z hz J Jx hY W ((hW.cell (p := ⟨Bn, 0, none⟩) hBn).trans hc) h0

set_option maxHeartbeats 1000000 in
/-- groups: the number is boxed, the function value captures the box. -/
theorem groups_in (F : Fence) (n : Nat) (h23 : F.fn 23) (hro : F.round = none) (z : Int) (w : World) :
    CallsIn F n Tryd.prog 23 #[.int .u64 z] w fun e w' => e = .returned (.func (.func 30) #[] #[.pointer (some ⟨w.heap.size, 0, none⟩)]) ∧ w' = w.alloc (.cells #[.int .u64 z] 48) := by
  refine callsIn_of_wp Tryd.func23 rfl h23 ?_ hro
  simp only [Tryd.ntmps23, List.size_toArray, List.length_cons, List.length_nil, Nat.reduceAdd, Nat.reduceSub, Array.replicate_succ, Array.replicate_zero, List.push_toArray, List.append_toArray, List.nil_append, List.cons_append]
  gi_wp2
  go_ret
  exact ⟨rfl, rfl⟩
end Go.Proofs.YtolpkbjbklcdgaaDoor
