
/- The pieces of a stroke: what pieces returns hands them to every loop body, in their order. Conditions: 1 to 200 dots. -/
import Derived.RangeFuncNested
import Derived.RangeFuncBound
import Derived.RangeFuncCalls
import Derived.RangeFuncLeaves
import Derived.Shelf.Abstract
import Derived.Shelf.RegionOpen
import Derived.WalkKit
import Derived.OwnWalkIn
import Derived.TacticsInMore
import Derived.LoopNIn
import Derived.LoopIn
import Derived.Test.YtamogfcedkjmcaaGri5
import Derived.Test.YtamogfcedkjmcaaSa5
import Derived.Test.YtamogfcedkjmcaaPv5
namespace Go.Proofs.Ytamogfcedkjmcaa
open Go.RowKit Go.Shelf Go.Lib
attribute [local go_sem] Oper.semAt_some

/-- A piece: where it begins, where it ends. -/
abbrev Pc := (Int × Int) × (Int × Int)
abbrev encP (x : Pc) : Array Value := #[.agg #[.int .i64 x.1.1, .int .i64 x.1.2], .agg #[.int .i64 x.2.1, .int .i64 x.2.2]]
def dtAt (ds : List Dt) (i : Nat) : Dt := ds[i]?.getD ⟨0, 0, 0, 0⟩
def pcAt (ds : List Dt) (i : Nat) : Pc := (((dtAt ds i).x, (dtAt ds i).y), ((dtAt ds (min (i + 1) (ds.length - 1))).x, (dtAt ds (min (i + 1) (ds.length - 1))).y))
/-- How many pieces. -/
def pcN (ds : List Dt) : Nat := max 1 (ds.length - 1)
def pcs (ds : List Dt) (k : Nat) : List Pc := (List.range k).map (pcAt ds)
theorem pcs_succ (ds : List Dt) (k : Nat) : pcs ds (k + 1) = pcs ds k ++ [pcAt ds k] := by simp [pcs, List.range_succ]
theorem pcs_length (ds : List Dt) (k : Nat) : (pcs ds k).length = k := by simp [pcs]
theorem dtAt_eq {ds : List Dt} {i : Nat} (h : i < ds.length) : dtAt ds i = ds[i] := by unfold dtAt; rw [List.getElem?_eq_getElem h]; rfl
/-- The cells that the pieces are read from. -/
def PcC (W : World) (Bl Bs : Nat) (ds : List Dt) (b o c : Nat) : Prop :=
  W.cell? ⟨Bl, 0, none⟩ = some (.int .i64 ((ds.length - 1 : Nat) : Int)) ∧ W.cell? ⟨Bs, 2, none⟩ = some (.slice (some ⟨b, o, none⟩) ds.length c) ∧
  ∀ i, i < ds.length → W.cell? ⟨b, o + i * 4, none⟩ = some (.int .i64 (dtAt ds i).x) ∧ W.cell? ⟨b, o + i * 4 + 1, none⟩ = some (.int .i64 (dtAt ds i).y) ∧
    W.cell? ⟨b, o + i * 4 + 2, none⟩ = some (.int .i64 (dtAt ds i).t) ∧ W.cell? ⟨b, o + i * 4 + 3, none⟩ = some (.int .i64 (dtAt ds i).p)
/-- What lay below n₀ is kept, but for block q. -/
def KpX (q n₀ : Nat) (W W' : World) : Prop := W.heap.size ≤ W'.heap.size ∧ ∀ k, k < n₀ → k ≠ q → W'.heap[k]? = W.heap[k]?
theorem KpX.refl (q n₀ : Nat) (W : World) : KpX q n₀ W W := ⟨Nat.le_refl _, fun _ _ _ => rfl⟩
theorem KpX.trans {q n₀ : Nat} {A B C : World} (h : KpX q n₀ A B) (h2 : KpX q n₀ B C) : KpX q n₀ A C := ⟨Nat.le_trans h.1 h2.1, fun k hk hq => (h2.2 k hk hq).trans (h.2 k hk hq)⟩
theorem KpX.of_below {q n₀ B : Nat} {W W' : World} (h : Below B W W') (hn : n₀ ≤ B) : KpX q n₀ W W' := ⟨h.size, fun k hk _ => h.block k (by omega)⟩
theorem KpX.store (q n₀ : Nat) (W : World) (i : Nat) (v : Value) : KpX q n₀ W (W.setCell ⟨q, i, none⟩ v) := ⟨by simp [World.setCell], fun k _ hq => Below.heap_setCell W ⟨q, i, none⟩ v k hq⟩
theorem KpX.put {q n₀ : Nat} {w : World} (hn : n₀ ≤ w.heap.size) (W : World) (l : Nat) (o o' : Obj) (hl : w.heap.size ≤ l) (_ : W.heap[l]? = some o) (_ : o.isCells = false) (_ : o.isWalk = false) : KpX q n₀ W (W.putObj l o') := ⟨by simp, fun k hk _ => World.putObj_heap_other (by omega)⟩
theorem KpX.cell {q n₀ b : Nat} {W W' : World} (h : KpX q n₀ W W') (h1 : b < n₀ ∧ b ≠ q) (i : Nat) : W'.cell? ⟨b, i, none⟩ = W.cell? ⟨b, i, none⟩ := World.cell?_of_block (a := ⟨b, i, none⟩) (h.2 b h1.1 h1.2)
theorem PcC.below {W W' : World} {q Bl Bs b o c n₀ : Nat} {ds : List Dt} (h : PcC W Bl Bs ds b o c) (hb : KpX q n₀ W W') (h1 : Bl < n₀ ∧ Bl ≠ q) (h2 : Bs < n₀ ∧ Bs ≠ q) (h3 : b < n₀ ∧ b ≠ q) : PcC W' Bl Bs ds b o c := by
  refine ⟨(hb.cell h1 _).trans h.1, (hb.cell h2 _).trans h.2.1, fun i hi => ?_⟩
  obtain ⟨k0, k1, k2, k3⟩ := h.2.2 i hi
  exact ⟨(hb.cell h3 _).trans k0, (hb.cell h3 _).trans k1, (hb.cell h3 _).trans k2, (hb.cell h3 _).trans k3⟩
theorem grown_of_below {W W' : World} (h : Below W.heap.size W W') : W.grownBy W' none := ⟨h.os, h.tape, h.output, h.size, fun k hk _ => h.block k hk⟩
set_option maxRecDepth 100000 in
set_option maxHeartbeats 4000000 in
theorem pieces1_in (n l q Bl Bs n₀ b o c : Nat) (ds : List Dt) (hl : 1 ≤ ds.length ∧ ds.length ≤ 200) (hBl : Bl < n₀ ∧ Bl ≠ q) (hBs : Bs < n₀ ∧ Bs ≠ q) (hb : b < n₀ ∧ b ≠ q) (J Jx : List Pc → World → Prop) (hJ : ∀ s W W', J s W → Below W.heap.size W W' → J s W')
    (hY : ∀ pre x W, J pre W → pre.length < pcN ds → YieldAt Fence.wide (n - 1) Try.prog l (encP x) W fun e W' =>
      (e = .returned (.bool true) ∧ J (pre ++ [x]) W' ∧ KpX q n₀ W W') ∨ (e = .returned (.bool false) ∧ Jx (pre ++ [x]) W'))
    (W : World) (hn₀ : n₀ ≤ W.heap.size) (hC : PcC W Bl Bs ds b o c) (h0 : J [] W) :
    CallsIn Fence.wide n Try.prog 61 #[.func (.yield l) #[] #[], .pointer (some ⟨Bl, 0, none⟩), .pointer (some ⟨Bs, 0, none⟩)] W fun e W' => (∃ v, e = .returned v) ∧
      ((∃ ys, ys = pcs ds (pcN ds) ∧ J ys W') ∨ (∃ pre, (∃ k, k ≤ pcN ds ∧ pre = pcs ds k) ∧ Jx pre W')) := by
  have HC : Hid (∀ W', KpX q n₀ W W' → PcC W' Bl Bs ds b o c) := Lib.hid (fun W' hb2 => hC.below hb2 hBl hBs hb)
  have HN := Lib.hid hn₀
  have HL := Lib.hid hl
  have c1 := hC.1
  have em : (max (1 : Int) ((ds.length - 1 : Nat) : Int)) = ((pcN ds : Nat) : Int) := by unfold pcN; omega
  have em2 : (if ((1 : Int) < ((ds.length - 1 : Nat) : Int)) then ((ds.length - 1 : Nat) : Int) else 1) = ((pcN ds : Nat) : Int) := by unfold pcN; split <;> omega
  have hpn : pcN ds ≤ 200 := by unfold pcN; omega
  clear hC hn₀
  refine callsIn_of_wp Try.func61 rfl trivial ?_ rfl
  simp only [Try.ntmps61, List.size_toArray, List.length_cons, List.length_nil, Nat.reduceAdd, Nat.reduceSub, Array.replicate_succ, Array.replicate_zero, List.push_toArray, List.append_toArray, List.nil_append, List.cons_append]
  gi_wp2
  clear c1 em em2
  gi_loopw [7] (fun i wr => ∃ k : Nat, k ≤ pcN ds ∧ i = .int .i64 k ∧ J (pcs ds k) wr ∧ KpX q n₀ W wr) (fun i _ => pcN ds - (intOf i).toNat)
  case atStart => exact ⟨0, Nat.zero_le _, rfl, h0, KpX.refl _ _ _⟩
  case round =>
    obtain ⟨k, hk, rfl, hJs, hnx⟩ := hrel
    by_cases hlt : k < pcN ds
    case neg =>
      obtain rfl : k = pcN ds := by omega
      gi_wp2
      go_end0
      exact ⟨⟨_, rfl⟩, .inl ⟨_, rfl, hJs⟩⟩
    case pos =>
      have HW := HC.out wr hnx
      obtain ⟨k2, hk2⟩ : ∃ k2, k2 = min (k + 1) (ds.length - 1) := ⟨_, rfl⟩
      have hkl : k < ds.length := by have := HL.out; unfold pcN at hlt; omega
      have hk2l : k2 < ds.length := by have := HL.out; omega
      obtain ⟨d, hd⟩ : ∃ d, d = dtAt ds k := ⟨_, rfl⟩
      obtain ⟨f, hf⟩ : ∃ f, f = dtAt ds k2 := ⟨_, rfl⟩
      have hx : pcAt ds k = ((d.x, d.y), (f.x, f.y)) := by unfold pcAt; rw [hd, hf, hk2]
      have hD := fun (W' : World) (hb2 : KpX q n₀ W W') => (HC.out W' hb2).2.2 k hkl
      have hF := fun (W' : World) (hb2 : KpX q n₀ W W') => (HC.out W' hb2).2.2 k2 hk2l
      rw [← hd] at hD; rw [← hf] at hF
      have HD := Lib.hid hD; have HF := Lib.hid hF; have HX := Lib.hid hx
      have ek : IntKind.i64.wrap ((k : Int) + 1) = (k : Int) + 1 := IntWalk.i64_in _ (by omega)
      have ek2 : (if ((ds.length - 1 : Nat) : Int) < (k : Int) + 1 then ((ds.length - 1 : Nat) : Int) else (k : Int) + 1) = (k2 : Int) := by split <;> omega
      have q1 : (0 : Int) ≤ (k : Int) := by omega
      have q2 : (k : Int) < (ds.length : Int) := by omega
      have q3 : (0 : Int) ≤ (k2 : Int) := by omega
      have q4 : (k2 : Int) < (ds.length : Int) := by omega
      have HP1 := Lib.hid (fun W => pplace_any d.x d.y d.t d.p W); have HP2 := Lib.hid (fun W => pplace_any f.x f.y f.t f.p W)
      have HK : Hid (k + 1 ≤ pcN ds) := Lib.hid hlt
      have HKN : Hid ((pcs ds k).length < pcN ds) := Lib.hid (by rw [pcs_length]; exact hlt)
      have hltI : (k : Int) < (pcN ds : Int) := by omega
      have HNX := Lib.hid hnx
      have HMIN : Hid (k2 = min (k + 1) (ds.length - 1)) := Lib.hid hk2
      clear hD hF hd hf hx hk2 HW hlt hk hnx
      gi_wp2_with fail
      refine wpIn_region_grow (S := (fun w' => w'.cell? ⟨Bl, 0, none⟩ = some (.int .i64 ((ds.length - 1 : Nat) : Int)) ∧ w'.cell? ⟨Bs, 2, none⟩ = some (.slice (some ⟨b, o, none⟩) ds.length c) ∧ w'.cell? ⟨b, o + k * 4, none⟩ = some (.int .i64 d.x) ∧ w'.cell? ⟨b, o + k * 4 + 1, none⟩ = some (.int .i64 d.y) ∧ w'.cell? ⟨b, o + k * 4 + 2, none⟩ = some (.int .i64 d.t) ∧ w'.cell? ⟨b, o + k * 4 + 3, none⟩ = some (.int .i64 d.p) ∧ w'.cell? ⟨b, o + k2 * 4, none⟩ = some (.int .i64 f.x) ∧ w'.cell? ⟨b, o + k2 * 4 + 1, none⟩ = some (.int .i64 f.y) ∧ w'.cell? ⟨b, o + k2 * 4 + 2, none⟩ = some (.int .i64 f.t) ∧ w'.cell? ⟨b, o + k2 * 4 + 3, none⟩ = some (.int .i64 f.p))) (Z := (([16] : List Nat).contains ·)) (fun w' => Below wr.heap.size wr w') (by kernel_rfl) (⟨fun w2 h2 => ⟨(HC.out w2 (HNX.out.trans (KpX.of_below h2 (Nat.le_trans HN.out HNX.out.1)))).1, (HC.out w2 (HNX.out.trans (KpX.of_below h2 (Nat.le_trans HN.out HNX.out.1)))).2.1, (HD.out w2 (HNX.out.trans (KpX.of_below h2 (Nat.le_trans HN.out HNX.out.1)))).1, (HD.out w2 (HNX.out.trans (KpX.of_below h2 (Nat.le_trans HN.out HNX.out.1)))).2.1, (HD.out w2 (HNX.out.trans (KpX.of_below h2 (Nat.le_trans HN.out HNX.out.1)))).2.2.1, (HD.out w2 (HNX.out.trans (KpX.of_below h2 (Nat.le_trans HN.out HNX.out.1)))).2.2.2, (HF.out w2 (HNX.out.trans (KpX.of_below h2 (Nat.le_trans HN.out HNX.out.1)))).1, (HF.out w2 (HNX.out.trans (KpX.of_below h2 (Nat.le_trans HN.out HNX.out.1)))).2.1, (HF.out w2 (HNX.out.trans (KpX.of_below h2 (Nat.le_trans HN.out HNX.out.1)))).2.2.1, (HF.out w2 (HNX.out.trans (KpX.of_below h2 (Nat.le_trans HN.out HNX.out.1)))).2.2.2⟩, fun w2 w3 h2 hb2 => h2.trans (hb2.mono h2.size)⟩) ((Below.refl _ _).drew) (fun hCalm => ?_)
      refine growI_take (t := [(16, [0, 1, 2, 3, 4, 5, 6, 7, 8, 9, 10, 11, 12, 13, 14, 15]), (2, [1]), (4, [1, 2, 3]), (5, [1, 2, 3, 4]), (6, [1, 2, 3, 4, 5]), (8, [7]), (10, [9]), (12, [9, 10, 11]), (13, [7, 8, 9, 10, 11, 12]), (14, [7, 8, 9, 10, 11, 12, 13]), (15, [1, 2, 3, 4, 5, 6, 7, 8, 9, 10, 11, 12, 13, 14])]) (es := [0, 1, 2, 3, 4, 5, 6, 7, 8, 9, 10, 11, 12, 13, 14, 15]) (zs := [16]) 0 (some 10) ?_ (by kernel_rfl) rfl rfl (by kernel_rfl) (fun _ _ _ h => h) (by kernel_rfl) hCalm ?_ ?_
      rotate_left
      · intro wS hS; (try dsimp only at hS); go_simp <;> with_reducible rfl
      try simp only [Act.put, List.setIfInBounds_toArray, List.set_cons_zero, List.set_cons_succ]
      refine growI_take (t := [(16, [0, 1, 2, 3, 4, 5, 6, 7, 8, 9, 10, 11, 12, 13, 14, 15]), (2, [1]), (4, [1, 2, 3]), (5, [1, 2, 3, 4]), (6, [1, 2, 3, 4, 5]), (8, [7]), (10, [9]), (12, [9, 10, 11]), (13, [7, 8, 9, 10, 11, 12]), (14, [7, 8, 9, 10, 11, 12, 13]), (15, [1, 2, 3, 4, 5, 6, 7, 8, 9, 10, 11, 12, 13, 14])]) (es := [0, 1, 2, 3, 4, 5, 6, 7, 8, 9, 10, 11, 12, 13, 14, 15]) (zs := [16]) 1 (some 11) ?_ (by kernel_rfl) rfl rfl (by kernel_rfl) (fun _ _ _ h => h) (by kernel_rfl) hCalm ?_ ?_
      rotate_left
      · intro wS hS; (try dsimp only at hS); go_simp <;> with_reducible rfl
      try simp only [Act.put, List.setIfInBounds_toArray, List.set_cons_zero, List.set_cons_succ]
      refine growI_take (t := [(16, [0, 1, 2, 3, 4, 5, 6, 7, 8, 9, 10, 11, 12, 13, 14, 15]), (2, [1]), (4, [1, 2, 3]), (5, [1, 2, 3, 4]), (6, [1, 2, 3, 4, 5]), (8, [7]), (10, [9]), (12, [9, 10, 11]), (13, [7, 8, 9, 10, 11, 12]), (14, [7, 8, 9, 10, 11, 12, 13]), (15, [1, 2, 3, 4, 5, 6, 7, 8, 9, 10, 11, 12, 13, 14])]) (es := [0, 1, 2, 3, 4, 5, 6, 7, 8, 9, 10, 11, 12, 13, 14, 15]) (zs := [16]) 2 (some 12) ?_ (by kernel_rfl) rfl rfl (by kernel_rfl) (fun _ _ _ h => h) (by kernel_rfl) hCalm ?_ ?_
      rotate_left
      · intro wS hS; (try dsimp only at hS); go_simp <;> with_reducible rfl
      try simp only [Act.put, List.setIfInBounds_toArray, List.set_cons_zero, List.set_cons_succ]
      refine growI_take (t := [(16, [0, 1, 2, 3, 4, 5, 6, 7, 8, 9, 10, 11, 12, 13, 14, 15]), (2, [1]), (4, [1, 2, 3]), (5, [1, 2, 3, 4]), (6, [1, 2, 3, 4, 5]), (8, [7]), (10, [9]), (12, [9, 10, 11]), (13, [7, 8, 9, 10, 11, 12]), (14, [7, 8, 9, 10, 11, 12, 13]), (15, [1, 2, 3, 4, 5, 6, 7, 8, 9, 10, 11, 12, 13, 14])]) (es := [0, 1, 2, 3, 4, 5, 6, 7, 8, 9, 10, 11, 12, 13, 14, 15]) (zs := [16]) 3 (some 13) ?_ (by kernel_rfl) rfl rfl (by kernel_rfl) (fun _ _ _ h => h) (by kernel_rfl) hCalm ?_ ?_
      rotate_left
      · intro wS hS; (try dsimp only at hS); go_simp <;> with_reducible rfl
      try simp only [Act.put, List.setIfInBounds_toArray, List.set_cons_zero, List.set_cons_succ]
      refine growI_take (t := [(16, [0, 1, 2, 3, 4, 5, 6, 7, 8, 9, 10, 11, 12, 13, 14, 15]), (2, [1]), (4, [1, 2, 3]), (5, [1, 2, 3, 4]), (6, [1, 2, 3, 4, 5]), (8, [7]), (10, [9]), (12, [9, 10, 11]), (13, [7, 8, 9, 10, 11, 12]), (14, [7, 8, 9, 10, 11, 12, 13]), (15, [1, 2, 3, 4, 5, 6, 7, 8, 9, 10, 11, 12, 13, 14])]) (es := [0, 1, 2, 3, 4, 5, 6, 7, 8, 9, 10, 11, 12, 13, 14, 15]) (zs := [16]) 4 (some 14) ?_ (by kernel_rfl) rfl rfl (by kernel_rfl) (fun _ _ _ h => h) (by kernel_rfl) hCalm ?_ ?_
      rotate_left
      · intro wS hS; (try dsimp only at hS); go_simp <;> with_reducible rfl
      try simp only [Act.put, List.setIfInBounds_toArray, List.set_cons_zero, List.set_cons_succ]
      refine growI_take (t := [(16, [0, 1, 2, 3, 4, 5, 6, 7, 8, 9, 10, 11, 12, 13, 14, 15]), (2, [1]), (4, [1, 2, 3]), (5, [1, 2, 3, 4]), (6, [1, 2, 3, 4, 5]), (8, [7]), (10, [9]), (12, [9, 10, 11]), (13, [7, 8, 9, 10, 11, 12]), (14, [7, 8, 9, 10, 11, 12, 13]), (15, [1, 2, 3, 4, 5, 6, 7, 8, 9, 10, 11, 12, 13, 14])]) (es := [0, 1, 2, 3, 4, 5, 6, 7, 8, 9, 10, 11, 12, 13, 14, 15]) (zs := [16]) 5 (some 15) ?_ (by kernel_rfl) rfl rfl (by kernel_rfl) (fun _ _ _ h => h) (by kernel_rfl) hCalm ?_ ?_
      rotate_left
      · intro wS hS; (try dsimp only at hS); go_simp <;> with_reducible rfl
      try simp only [Act.put, List.setIfInBounds_toArray, List.set_cons_zero, List.set_cons_succ]
      refine growI_take (t := [(16, [0, 1, 2, 3, 4, 5, 6, 7, 8, 9, 10, 11, 12, 13, 14, 15]), (2, [1]), (4, [1, 2, 3]), (5, [1, 2, 3, 4]), (6, [1, 2, 3, 4, 5]), (8, [7]), (10, [9]), (12, [9, 10, 11]), (13, [7, 8, 9, 10, 11, 12]), (14, [7, 8, 9, 10, 11, 12, 13]), (15, [1, 2, 3, 4, 5, 6, 7, 8, 9, 10, 11, 12, 13, 14])]) (es := [0, 1, 2, 3, 4, 5, 6, 7, 8, 9, 10, 11, 12, 13, 14, 15]) (zs := [16]) 7 (some 17) ?_ (by kernel_rfl) rfl rfl (by kernel_rfl) (fun _ _ _ h => h) (by kernel_rfl) hCalm ?_ ?_
      rotate_left
      · intro wS hS; (try dsimp only at hS); go_simp <;> with_reducible rfl
      try simp only [Act.put, List.setIfInBounds_toArray, List.set_cons_zero, List.set_cons_succ]
      refine growI_take (t := [(16, [0, 1, 2, 3, 4, 5, 6, 7, 8, 9, 10, 11, 12, 13, 14, 15]), (2, [1]), (4, [1, 2, 3]), (5, [1, 2, 3, 4]), (6, [1, 2, 3, 4, 5]), (8, [7]), (10, [9]), (12, [9, 10, 11]), (13, [7, 8, 9, 10, 11, 12]), (14, [7, 8, 9, 10, 11, 12, 13]), (15, [1, 2, 3, 4, 5, 6, 7, 8, 9, 10, 11, 12, 13, 14])]) (es := [0, 1, 2, 3, 4, 5, 6, 7, 8, 9, 10, 11, 12, 13, 14, 15]) (zs := [16]) 8 (some 18) ?_ (by kernel_rfl) rfl rfl (by kernel_rfl) (fun _ _ _ h => h) (by kernel_rfl) hCalm ?_ ?_
      rotate_left
      · intro wS hS; (try dsimp only at hS); go_simp <;> with_reducible rfl
      try simp only [Act.put, List.setIfInBounds_toArray, List.set_cons_zero, List.set_cons_succ]
      refine growI_take (t := [(16, [0, 1, 2, 3, 4, 5, 6, 7, 8, 9, 10, 11, 12, 13, 14, 15]), (2, [1]), (4, [1, 2, 3]), (5, [1, 2, 3, 4]), (6, [1, 2, 3, 4, 5]), (8, [7]), (10, [9]), (12, [9, 10, 11]), (13, [7, 8, 9, 10, 11, 12]), (14, [7, 8, 9, 10, 11, 12, 13]), (15, [1, 2, 3, 4, 5, 6, 7, 8, 9, 10, 11, 12, 13, 14])]) (es := [0, 1, 2, 3, 4, 5, 6, 7, 8, 9, 10, 11, 12, 13, 14, 15]) (zs := [16]) 9 (some 19) ?_ (by kernel_rfl) rfl rfl (by kernel_rfl) (fun _ _ _ h => h) (by kernel_rfl) hCalm ?_ ?_
      rotate_left
      · intro wS hS; (try dsimp only at hS); go_simp <;> with_reducible rfl
      try simp only [Act.put, List.setIfInBounds_toArray, List.set_cons_zero, List.set_cons_succ]
      refine growI_take (t := [(16, [0, 1, 2, 3, 4, 5, 6, 7, 8, 9, 10, 11, 12, 13, 14, 15]), (2, [1]), (4, [1, 2, 3]), (5, [1, 2, 3, 4]), (6, [1, 2, 3, 4, 5]), (8, [7]), (10, [9]), (12, [9, 10, 11]), (13, [7, 8, 9, 10, 11, 12]), (14, [7, 8, 9, 10, 11, 12, 13]), (15, [1, 2, 3, 4, 5, 6, 7, 8, 9, 10, 11, 12, 13, 14])]) (es := [0, 1, 2, 3, 4, 5, 6, 7, 8, 9, 10, 11, 12, 13, 14, 15]) (zs := [16]) 10 (some 20) ?_ (by kernel_rfl) rfl rfl (by kernel_rfl) (fun _ _ _ h => h) (by kernel_rfl) hCalm ?_ ?_
      rotate_left
      · intro wS hS; (try dsimp only at hS); go_simp <;> with_reducible rfl
      try simp only [Act.put, List.setIfInBounds_toArray, List.set_cons_zero, List.set_cons_succ]
      refine growI_take (t := [(16, [0, 1, 2, 3, 4, 5, 6, 7, 8, 9, 10, 11, 12, 13, 14, 15]), (2, [1]), (4, [1, 2, 3]), (5, [1, 2, 3, 4]), (6, [1, 2, 3, 4, 5]), (8, [7]), (10, [9]), (12, [9, 10, 11]), (13, [7, 8, 9, 10, 11, 12]), (14, [7, 8, 9, 10, 11, 12, 13]), (15, [1, 2, 3, 4, 5, 6, 7, 8, 9, 10, 11, 12, 13, 14])]) (es := [0, 1, 2, 3, 4, 5, 6, 7, 8, 9, 10, 11, 12, 13, 14, 15]) (zs := [16]) 11 (some 21) ?_ (by kernel_rfl) rfl rfl (by kernel_rfl) (fun _ _ _ h => h) (by kernel_rfl) hCalm ?_ ?_
      rotate_left
      · intro wS hS; (try dsimp only at hS); go_simp <;> with_reducible rfl
      try simp only [Act.put, List.setIfInBounds_toArray, List.set_cons_zero, List.set_cons_succ]
      refine growI_take (t := [(16, [0, 1, 2, 3, 4, 5, 6, 7, 8, 9, 10, 11, 12, 13, 14, 15]), (2, [1]), (4, [1, 2, 3]), (5, [1, 2, 3, 4]), (6, [1, 2, 3, 4, 5]), (8, [7]), (10, [9]), (12, [9, 10, 11]), (13, [7, 8, 9, 10, 11, 12]), (14, [7, 8, 9, 10, 11, 12, 13]), (15, [1, 2, 3, 4, 5, 6, 7, 8, 9, 10, 11, 12, 13, 14])]) (es := [0, 1, 2, 3, 4, 5, 6, 7, 8, 9, 10, 11, 12, 13, 14, 15]) (zs := [16]) 12 (some 22) ?_ (by kernel_rfl) rfl rfl (by kernel_rfl) (fun _ _ _ h => h) (by kernel_rfl) hCalm ?_ ?_
      rotate_left
      · intro wS hS; (try dsimp only at hS); go_simp <;> with_reducible rfl
      try simp only [Act.put, List.setIfInBounds_toArray, List.set_cons_zero, List.set_cons_succ]
      refine growI_take (t := [(16, [0, 1, 2, 3, 4, 5, 6, 7, 8, 9, 10, 11, 12, 13, 14, 15]), (2, [1]), (4, [1, 2, 3]), (5, [1, 2, 3, 4]), (6, [1, 2, 3, 4, 5]), (8, [7]), (10, [9]), (12, [9, 10, 11]), (13, [7, 8, 9, 10, 11, 12]), (14, [7, 8, 9, 10, 11, 12, 13]), (15, [1, 2, 3, 4, 5, 6, 7, 8, 9, 10, 11, 12, 13, 14])]) (es := [0, 1, 2, 3, 4, 5, 6, 7, 8, 9, 10, 11, 12, 13, 14, 15]) (zs := [16]) 13 (some 23) ?_ (by kernel_rfl) rfl rfl (by kernel_rfl) (fun _ _ _ h => h) (by kernel_rfl) hCalm ?_ ?_
      rotate_left
      · intro wS hS; (try dsimp only at hS); go_simp <;> with_reducible rfl
      try simp only [Act.put, List.setIfInBounds_toArray, List.set_cons_zero, List.set_cons_succ]
      refine growI_take (t := [(16, [0, 1, 2, 3, 4, 5, 6, 7, 8, 9, 10, 11, 12, 13, 14, 15]), (2, [1]), (4, [1, 2, 3]), (5, [1, 2, 3, 4]), (6, [1, 2, 3, 4, 5]), (8, [7]), (10, [9]), (12, [9, 10, 11]), (13, [7, 8, 9, 10, 11, 12]), (14, [7, 8, 9, 10, 11, 12, 13]), (15, [1, 2, 3, 4, 5, 6, 7, 8, 9, 10, 11, 12, 13, 14])]) (es := [0, 1, 2, 3, 4, 5, 6, 7, 8, 9, 10, 11, 12, 13, 14, 15]) (zs := [16]) 14 (some 24) ?_ (by kernel_rfl) rfl rfl (by kernel_rfl) (fun _ _ _ h => h) (by kernel_rfl) hCalm ?_ ?_
      rotate_left
      · intro wS hS; (try dsimp only at hS); go_simp <;> with_reducible rfl
      try simp only [Act.put, List.setIfInBounds_toArray, List.set_cons_zero, List.set_cons_succ]
      refine growI_call (t := [(16, [0, 1, 2, 3, 4, 5, 6, 7, 8, 9, 10, 11, 12, 13, 14, 15]), (2, [1]), (4, [1, 2, 3]), (5, [1, 2, 3, 4]), (6, [1, 2, 3, 4, 5]), (8, [7]), (10, [9]), (12, [9, 10, 11]), (13, [7, 8, 9, 10, 11, 12]), (14, [7, 8, 9, 10, 11, 12, 13]), (15, [1, 2, 3, 4, 5, 6, 7, 8, 9, 10, 11, 12, 13, 14])]) (es := [0, 1, 2, 3, 4, 5, 6, 7, 8, 9, 10, 11, 12, 13, 14, 15]) (zs := [16]) 6 (some 16) (.agg #[.int .i64 d.x, .int .i64 d.y]) 42 [.tmp 15] #[24] (by kernel_rfl) rfl rfl (by kernel_rfl) (fun _ _ _ h => h) (by kernel_rfl) hCalm rfl (enters_of Try.func42 (by kernel_rfl) rfl) (fun wz _ => HP1.out wz) (by kernel_rfl) ?_
      try simp only [Act.put, List.setIfInBounds_toArray, List.set_cons_zero, List.set_cons_succ]
      refine growI_call (t := [(16, [0, 1, 2, 3, 4, 5, 6, 7, 8, 9, 10, 11, 12, 13, 14, 15]), (2, [1]), (4, [1, 2, 3]), (5, [1, 2, 3, 4]), (6, [1, 2, 3, 4, 5]), (8, [7]), (10, [9]), (12, [9, 10, 11]), (13, [7, 8, 9, 10, 11, 12]), (14, [7, 8, 9, 10, 11, 12, 13]), (15, [1, 2, 3, 4, 5, 6, 7, 8, 9, 10, 11, 12, 13, 14])]) (es := [0, 1, 2, 3, 4, 5, 6, 7, 8, 9, 10, 11, 12, 13, 14, 15]) (zs := [16]) 15 (some 25) (.agg #[.int .i64 f.x, .int .i64 f.y]) 42 [.tmp 24] #[24] (by kernel_rfl) rfl rfl (by kernel_rfl) (fun _ _ _ h => h) (by kernel_rfl) hCalm rfl (enters_of Try.func42 (by kernel_rfl) rfl) (fun wz _ => HP2.out wz) (by kernel_rfl) ?_
      try simp only [Act.put, List.setIfInBounds_toArray, List.set_cons_zero, List.set_cons_succ]
      refine growI_late 16 rfl (by kernel_rfl) (by kernel_rfl) (by kernel_rfl) (fun wA hA K hK => ?_)
      obtain ⟨fn, tmps, assign, body, hy, hR⟩ := hY (pcs ds k) ((d.x, d.y), (f.x, f.y)) wA (hJ _ _ _ hJs hA) HKN.out
      dsimp only [encP] at hy
      go_simp
      refine ⟨fun h => (by cases h), hR.mono ?_⟩
      clear hR hy
      rintro e W3 (⟨rfl, hJ3, hk3⟩ | ⟨rfl, hJx3⟩)
      · refine hK.out _ _ ?_
        clear hK K
        try simp only [Act.put, List.setIfInBounds_toArray, List.set_cons_zero, List.set_cons_succ]
        refine growI_late 17 rfl (by kernel_rfl) (by kernel_rfl) (by kernel_rfl) (fun wB hB K hK => ?_)
        subst hB
        go_simp
        refine hK.out _ _ ?_
        clear hK K
        try simp only [Act.put, List.setIfInBounds_toArray, List.set_cons_zero, List.set_cons_succ]
        refine growI_done (by kernel_rfl) (fun wB hB => ?_) _
        subst hB
        gi_wp2
        go_roundw
        case rel => exact ⟨k + 1, HK.out, by go_num, by rw [pcs_succ, HX.out]; exact hJ3, (HNX.out.trans (KpX.of_below hA (Nat.le_trans HN.out HNX.out.1))).trans hk3⟩
        case measure => have := HK.out; simp [intOf]; omega
      · refine hK.out _ _ ?_
        clear hK K
        try simp only [Act.put, List.setIfInBounds_toArray, List.set_cons_zero, List.set_cons_succ]
        refine growI_late 17 rfl (by kernel_rfl) (by kernel_rfl) (by kernel_rfl) (fun wB hB K hK => ?_)
        subst hB
        go_simp
        refine hK.out _ _ ?_
        clear hK K
        try simp only [Act.put, List.setIfInBounds_toArray, List.set_cons_zero, List.set_cons_succ]
        refine growI_done (by kernel_rfl) (fun wB hB => ?_) _
        subst hB
        gi_wp2
        refine bodyPost_ret (results_none rfl _ _ _) rfl ?_
        exact ⟨⟨_, rfl⟩, .inr ⟨_, ⟨k + 1, HK.out, rfl⟩, by rw [pcs_succ, HX.out]; exact hJx3⟩⟩
/-- What pieces returns hands on all pieces, in their order. -/
theorem pieces_stops (n q Bl Bs b o c : Nat) (ds : List Dt) (hl : 1 ≤ ds.length ∧ ds.length ≤ 200) (w : World) (n₀ : Nat) (hn : n₀ ≤ w.heap.size) (hBl : Bl < n₀ ∧ Bl ≠ q) (hBs : Bs < n₀ ∧ Bs ≠ q) (hb : b < n₀ ∧ b ≠ q) (hC : PcC w Bl Bs ds b o c) :
    SeqStopsK Fence.wide n Try.prog 61 #[.pointer (some ⟨Bl, 0, none⟩), .pointer (some ⟨Bs, 0, none⟩)] encP (KpX q n₀) (fun ys => ys = pcs ds (pcN ds)) (fun pre => ∃ k, k ≤ pcN ds ∧ pre = pcs ds k) (pcN ds) w := fun l J Jx W hW hJ _ hY h0 =>
  pieces1_in n l q Bl Bs n₀ b o c ds hl hBl hBs hb J Jx (fun s A B hs hb2 => hJ s A B none hs (grown_of_below hb2) (fun r e => by cases e)) hY W (Nat.le_trans hn hW.size) (hC.below (KpX.of_below hW hn) hBl hBs hb) h0
set_option maxRecDepth 100000 in
set_option maxHeartbeats 4000000 in
/-- pieces: the stroke and the index of its last dot are boxed, the function value captures the boxes. -/
theorem pieces_in (n : Nat) (P N : Int) (ds : List Dt) (A : Option Addr) (c : Nat) (hl : 1 ≤ ds.length ∧ ds.length ≤ 200) (w : World) :
    CallsIn Fence.wide n Try.prog 44 #[.agg #[.int .i64 P, .int .i64 N, .slice A ds.length c]] w fun e w' => e = .returned (.func (.func 61) #[] #[.pointer (some ⟨w.heap.size + 1, 0, none⟩), .pointer (some ⟨w.heap.size, 0, none⟩)]) ∧
      w' = (w.alloc (.cells #[.int .i64 P, .int .i64 N, .slice A ds.length c] 27)).alloc (.cells #[.int .i64 ((ds.length - 1 : Nat) : Int)] 3) := by
  have e1 : IntKind.i64.wrap ((ds.length : Int) - 1) = ((ds.length - 1 : Nat) : Int) := by rw [IntWalk.i64_in _ (by omega)]; omega
  have c2 := (Blk.new w 27 #[.int .i64 P, .int .i64 N, .slice A ds.length c]).cell (i := 2) (v := .slice A ds.length c) rfl
  refine callsIn_of_wp Try.func44 rfl trivial ?_ rfl
  simp only [Try.ntmps44, List.size_toArray, List.length_cons, List.length_nil, Nat.reduceAdd, Nat.reduceSub, Array.replicate_succ, Array.replicate_zero, List.push_toArray, List.append_toArray, List.nil_append, List.cons_append]
  gi_wp2
  go_ret
  exact ⟨rfl, rfl⟩
end Go.Proofs.Ytamogfcedkjmcaa
