/- What boxes hands on: the templates of boxes, from each corner. Conditions: the table of rings read. | XGrw5's laws in the body of a range over a function, calls of a fixed result among them. No conditions. | The contracts of lineCost and boxCost. Conditions: a feature that reads, the table of rings. -/
import Derived.RangeFuncNested
import Derived.RangeFuncBound
import Derived.RangeFuncCalls
import Derived.RangeFuncLeaves
import Derived.Shelf.Abstract
import Derived.Shelf.RegionOpen
import Derived.WalkKit
import Derived.OwnWalkIn
import Derived.TacticsInMore
import Derived.LoopNIn
import Derived.LoopIn
import Derived.OrdersIn
import Derived.Test.YtmjcjaecaigahaaDoorLB
import Derived.Test.YtmjcjaecaigahaaDoorLC
import Derived.Test.YtmjcjaecaigahaaDoorLR
namespace Go.Proofs.YtmjcjaecaigahaaDoor
open Go.RowKit Go.Shelf Go.Lib
attribute [local go_sem] Oper.semAt_some

def rgs8 : List Int := [0, 2, 4, 6, 0, 6, 4, 2]
/-- The table of rings, as the program's text lays it. -/
def Rg8 (w : World) : Prop := 2 < w.heap.size ∧ ∀ i, i < 8 → w.cell? ⟨2, i, none⟩ = some (.int .i64 (rgs8.getD i 0))
theorem Rg8.below {w w' : World} {B : Nat} (h : Rg8 w) (hb : Below B w w') (hB : w.heap.size ≤ B) : Rg8 w' :=
  ⟨Nat.lt_of_lt_of_le h.1 hb.size, fun i hi => (hb.cell (p := ⟨2, i, none⟩) (Nat.lt_of_lt_of_le h.1 hB)).trans (h.2 i hi)⟩
/-- Side t of ring i, turned k times. -/
def rot8 (i k t : Nat) : Int := rgs8.getD (4 * i + (k + t) % 4) 0
def box8 (j : Nat) : List Int := [rot8 (j / 4) (j % 4) 0, rot8 (j / 4) (j % 4) 1, rot8 (j / 4) (j % 4) 2, rot8 (j / 4) (j % 4) 3]
abbrev encB8 (j : Nat) : Array Value := #[.agg #[.int .i64 (rot8 (j / 4) (j % 4) 0), .int .i64 (rot8 (j / 4) (j % 4) 1), .int .i64 (rot8 (j / 4) (j % 4) 2), .int .i64 (rot8 (j / 4) (j % 4) 3)]]
theorem rot8_next (i k t : Nat) : rot8 i (k + 1) t = rot8 i k (t + 1) := by unfold rot8; rw [show k + 1 + t = k + (t + 1) by omega]
theorem rot8_round (i k : Nat) : rot8 i k 4 = rot8 i k 0 := by unfold rot8; rw [show (k + 4) % 4 = (k + 0) % 4 by omega]
theorem rot8_in (i k t : Nat) : Dr8 (rot8 i k t) := by
  have : ∀ m, Dr8 (rgs8.getD m 0) := fun m => by
    rcases Nat.lt_or_ge m 8 with h | h
    · have : ∀ q : Fin 8, Dr8 (rgs8.getD q.val 0) := by unfold Dr8; decide
      exact this ⟨m, h⟩
    · rw [List.getD_eq_getElem?_getD, List.getElem?_eq_none (by simpa [rgs8] using h)]; unfold Dr8; simp
  exact this _
theorem box8_ok (j : Nat) : Ok8 (box8 j) := ⟨by simp [box8], fun x hx => by
  simp only [box8, List.mem_cons, List.not_mem_nil, or_false] at hx
  rcases hx with rfl | rfl | rfl | rfl <;> exact rot8_in _ _ _⟩
theorem ridx8_0 (w : World) : (Instr.index 130 (.agg #[.int .i64 0, .int .i64 2, .int .i64 4, .int .i64 6, .int .i64 0, .int .i64 6, .int .i64 4, .int .i64 2]) (.int .i64 0)).run Tryd.prog w = .ok (.agg #[.int .i64 0, .int .i64 2, .int .i64 4, .int .i64 6]) w := by kernel_rfl
theorem ridx8_1 (w : World) : (Instr.index 130 (.agg #[.int .i64 0, .int .i64 2, .int .i64 4, .int .i64 6, .int .i64 0, .int .i64 6, .int .i64 4, .int .i64 2]) (.int .i64 1)).run Tryd.prog w = .ok (.agg #[.int .i64 0, .int .i64 6, .int .i64 4, .int .i64 2]) w := by kernel_rfl
theorem gsc8 (W : World) (b i : Nat) (v : Value) : W.grownBy (W.setCell ⟨b, i, none⟩ v) (some b) :=
  ⟨rfl, rfl, rfl, by simp, fun k _ hk => Below.heap_setCell W ⟨b, i, none⟩ v k (fun e => hk (by rw [e]))⟩
theorem AllFrom.store {β : Type} {B : Nat} {J : β → World → Prop} (h : AllFrom B J) {s : β} {W : World} {b : Nat} (i : Nat) (v : Value) (hs : J s W) (hb : B ≤ b) : J s (W.setCell ⟨b, i, none⟩ v) := h s W _ _ hs (gsc8 W b i v) (fun r e => by cases e; exact hb)
set_option maxRecDepth 100000 in
set_option maxHeartbeats 8000000 in
theorem boxes_in (n lw q : Nat) (J : List Nat → World → Prop) (W : World) (hq : q < W.heap.size) (hJ : AllFrom W.heap.size J)
    (hY : ∀ pre x W1, J pre W1 → pre.length < 8 → YieldAt Fence.wide (n - 1) Tryd.prog lw (encB8 x) W1 fun e W' => e = .returned (.bool true) ∧ J (pre ++ [x]) W' ∧ KpQ q W1 W')
    (hC : Rg8 W) (h0 : J [] W) :
    CallsIn Fence.wide n Tryd.prog 94 #[.func (.yield lw) #[] #[]] W fun e W' => (∃ v, e = .returned v) ∧ ∃ xs, xs = List.range 8 ∧ J xs W' := by
  have c0 := hC.2 0 (by omega); have c1 := hC.2 1 (by omega); have c2 := hC.2 2 (by omega); have c3 := hC.2 3 (by omega); have c4 := hC.2 4 (by omega); have c5 := hC.2 5 (by omega); have c6 := hC.2 6 (by omega); have c7 := hC.2 7 (by omega)
  simp only [rgs8, List.getD_cons_zero, List.getD_cons_succ] at c0 c1 c2 c3 c4 c5 c6 c7
  have HQ := Lib.hid hq
  clear hC
  refine callsIn_of_wp Tryd.func94 rfl trivial ?_ rfl
  simp only [Tryd.ntmps94, List.size_toArray, List.length_cons, List.length_nil, Nat.reduceAdd, Nat.reduceSub, Array.replicate_succ, Array.replicate_zero, List.push_toArray, List.append_toArray, List.nil_append, List.cons_append]
  gi_wp2
  clear c0 c1 c2 c3 c4 c5 c6 c7
  gi_loopw [5] (fun ii wr => ∃ i : Nat, ii = .int .i64 i ∧ i ≤ 2 ∧ J (List.range (i * 4)) wr ∧ W.heap.size ≤ wr.heap.size) (fun ii _ => 2 - (intOf ii).toNat)
  case atStart => exact ⟨0, rfl, by omega, h0, Nat.le_refl _⟩
  case round =>
    clear h0
    obtain ⟨i, rfl, hi, hJs, hsz⟩ := hrel
    rename World => wr
    have HSZ := Lib.hid hsz; clear hsz
    by_cases hlt : i < 2
    case neg =>
      obtain rfl : i = 2 := by omega
      clear hi hlt
      gi_wp2
      go_end0
      exact ⟨⟨_, rfl⟩, _, rfl, hJs⟩
    case pos =>
     have q0 : (i : Int) < 2 := by omega
     rcases (show i = 0 ∨ i = 1 by omega) with h0 | h0
     · have HI0 := Lib.hid h0
       have x0 : ∀ w : World, (Instr.index 130 (.agg #[.int .i64 0, .int .i64 2, .int .i64 4, .int .i64 6, .int .i64 0, .int .i64 6, .int .i64 4, .int .i64 2]) (.int .i64 (i : Int))).run Tryd.prog w = .ok (.agg #[.int .i64 0, .int .i64 2, .int .i64 4, .int .i64 6]) w := fun w => by rw [h0]; exact ridx8_0 w
       clear hi hlt h0
       gi_wp2
       clear x0
       have HRB : Hid (Blk (wr.alloc (.cells #[.int .i64 0, .int .i64 2, .int .i64 4, .int .i64 6] 122)) wr.heap.size 122 #[.int .i64 (rot8 i 0 0), .int .i64 (rot8 i 0 1), .int .i64 (rot8 i 0 2), .int .i64 (rot8 i 0 3)]) := Lib.hid (by rw [HI0.out]; exact Blk.new wr _ _)
       have hJa := hJ.new (.cells #[.int .i64 0, .int .i64 2, .int .i64 4, .int .i64 6] 122) hJs
       have hq2 : wr.heap.size ≠ q := by have := HSZ.out; omega
       have HQ2 := Lib.hid hq2
       have hws : (wr.alloc (.cells #[.int .i64 0, .int .i64 2, .int .i64 4, .int .i64 6] 122)).heap.size = wr.heap.size + 1 := by simp
       have HWS := Lib.hid hws
       clear hJs hq2 hws
       gi_loopw [8] (fun kk wx => ∃ k : Nat, kk = .int .i64 k ∧ k ≤ 4 ∧ J (List.range (i * 4 + k)) wx ∧ Blk wx wr.heap.size 122 #[.int .i64 (rot8 i k 0), .int .i64 (rot8 i k 1), .int .i64 (rot8 i k 2), .int .i64 (rot8 i k 3)] ∧ wr.heap.size + 1 ≤ wx.heap.size) (fun kk _ => 4 - (intOf kk).toNat)
       case atStart => exact ⟨0, rfl, by omega, hJa, HRB.out, Nat.le_of_eq HWS.out.symm⟩
       case round =>
         clear HRB hJa
         obtain ⟨k, rfl, hk, hJk, hrb, hsz2⟩ := hrel
         rename World => wx
         have HRB := Lib.hid hrb; have HS2 := Lib.hid hsz2; clear hrb hsz2
         by_cases hk4 : k < 4
         case neg =>
           obtain rfl : k = 4 := by omega
           clear hk hk4
           gi_wp2
           go_roundw
           case rel => exact ⟨i + 1, by go_num, by have := HI0.out; omega, by rw [show (i + 1) * 4 = i * 4 + 4 by omega]; exact hJk, by have := HS2.out; have := HSZ.out; omega⟩
           case measure => have := HI0.out; simp [intOf]; omega
         case pos =>
           obtain ⟨a0, ha0⟩ : ∃ a, a = rot8 i k 0 := ⟨_, rfl⟩
           obtain ⟨a1, ha1⟩ : ∃ a, a = rot8 i k 1 := ⟨_, rfl⟩
           obtain ⟨a2, ha2⟩ : ∃ a, a = rot8 i k 2 := ⟨_, rfl⟩
           obtain ⟨a3, ha3⟩ : ∃ a, a = rot8 i k 3 := ⟨_, rfl⟩
           have hen : encB8 (i * 4 + k) = #[.agg #[.int .i64 a0, .int .i64 a1, .int .i64 a2, .int .i64 a3]] := by
             unfold encB8
             rw [show (i * 4 + k) / 4 = i by omega, show (i * 4 + k) % 4 = k by omega, ← ha0, ← ha1, ← ha2, ← ha3]
           have hnx : #[Value.int .i64 a1, .int .i64 a2, .int .i64 a3, .int .i64 a0] = #[.int .i64 (rot8 i (k + 1) 0), .int .i64 (rot8 i (k + 1) 1), .int .i64 (rot8 i (k + 1) 2), .int .i64 (rot8 i (k + 1) 3)] := by
             rw [rot8_next, rot8_next, rot8_next, rot8_next, rot8_round, ← ha0, ← ha1, ← ha2, ← ha3]
           rw [← ha0, ← ha1, ← ha2, ← ha3] at HRB
           have HNX := Lib.hid hnx
           have HK := Lib.hid hk4
           have q1 : (k : Int) < 4 := by omega
           clear ha0 ha1 ha2 ha3 hnx hk hk4
           obtain ⟨fn, tmps, assign, body, hy, hR⟩ := hY _ (i * 4 + k) wx hJk (by rw [List.length_range]; have := HK.out; have := HI0.out; omega)
           rw [hen] at hy
           have d0 := HRB.out.cell (i := 0) (v := .int .i64 a0) rfl; have d1 := HRB.out.cell (i := 1) (v := .int .i64 a1) rfl; have d2 := HRB.out.cell (i := 2) (v := .int .i64 a2) rfl; have d3 := HRB.out.cell (i := 3) (v := .int .i64 a3) rfl
           clear hen
           gi_wp2
           refine ⟨fun h => (by cases h), hR.mono ?_⟩
           clear hR hy d0 d1 d2 d3
           rintro e W3 ⟨rfl, hJ3, hk3⟩
           have HR3 := Lib.hid (hk3.blk HRB.out HQ2.out)
           have HS3 := Lib.hid (Nat.le_trans HS2.out hk3.1)
           clear hk3
           have d0 := HR3.out.cell (i := 0) (v := .int .i64 a0) rfl; have d1 := HR3.out.cell (i := 1) (v := .int .i64 a1) rfl; have d2 := HR3.out.cell (i := 2) (v := .int .i64 a2) rfl; have d3 := HR3.out.cell (i := 3) (v := .int .i64 a3) rfl
           have f0 := HR3.out.frozen 0; have f1 := HR3.out.frozen 1; have f2 := HR3.out.frozen 2; have f3 := HR3.out.frozen 3
           gi_wp2
           clear d0 d1 d2 d3 f0 f1 f2 f3
           have hlo : W.heap.size ≤ wr.heap.size := HSZ.out
           have HR4 := Lib.hid ((((HR3.out.set 0 (.int .i64 a1)).set 1 (.int .i64 a2)).set 2 (.int .i64 a3)).set 3 (.int .i64 a0))
           have hJ4 := hJ.store 3 (.int .i64 a0) (hJ.store 2 (.int .i64 a3) (hJ.store 1 (.int .i64 a2) (hJ.store 0 (.int .i64 a1) hJ3 hlo) hlo) hlo) hlo
           clear hJ3
           go_roundw
           case rel => exact ⟨k + 1, by go_num, HK.out, by rw [show i * 4 + (k + 1) = i * 4 + k + 1 by omega, List.range_succ]; exact hJ4, by rw [← HNX.out]; exact HR4.out, by simp only [World.size_setCell]; exact HS3.out⟩
           case measure => have := HK.out; simp [intOf]; omega
     · have HI0 := Lib.hid h0
       have x0 : ∀ w : World, (Instr.index 130 (.agg #[.int .i64 0, .int .i64 2, .int .i64 4, .int .i64 6, .int .i64 0, .int .i64 6, .int .i64 4, .int .i64 2]) (.int .i64 (i : Int))).run Tryd.prog w = .ok (.agg #[.int .i64 0, .int .i64 6, .int .i64 4, .int .i64 2]) w := fun w => by rw [h0]; exact ridx8_1 w
       clear hi hlt h0
       gi_wp2
       clear x0
       have HRB : Hid (Blk (wr.alloc (.cells #[.int .i64 0, .int .i64 6, .int .i64 4, .int .i64 2] 122)) wr.heap.size 122 #[.int .i64 (rot8 i 0 0), .int .i64 (rot8 i 0 1), .int .i64 (rot8 i 0 2), .int .i64 (rot8 i 0 3)]) := Lib.hid (by rw [HI0.out]; exact Blk.new wr _ _)
       have hJa := hJ.new (.cells #[.int .i64 0, .int .i64 6, .int .i64 4, .int .i64 2] 122) hJs
       have hq2 : wr.heap.size ≠ q := by have := HSZ.out; omega
       have HQ2 := Lib.hid hq2
       have hws : (wr.alloc (.cells #[.int .i64 0, .int .i64 6, .int .i64 4, .int .i64 2] 122)).heap.size = wr.heap.size + 1 := by simp
       have HWS := Lib.hid hws
       clear hJs hq2 hws
       gi_loopw [8] (fun kk wx => ∃ k : Nat, kk = .int .i64 k ∧ k ≤ 4 ∧ J (List.range (i * 4 + k)) wx ∧ Blk wx wr.heap.size 122 #[.int .i64 (rot8 i k 0), .int .i64 (rot8 i k 1), .int .i64 (rot8 i k 2), .int .i64 (rot8 i k 3)] ∧ wr.heap.size + 1 ≤ wx.heap.size) (fun kk _ => 4 - (intOf kk).toNat)
       case atStart => exact ⟨0, rfl, by omega, hJa, HRB.out, Nat.le_of_eq HWS.out.symm⟩
       case round =>
         clear HRB hJa
         obtain ⟨k, rfl, hk, hJk, hrb, hsz2⟩ := hrel
         rename World => wx
         have HRB := Lib.hid hrb; have HS2 := Lib.hid hsz2; clear hrb hsz2
         by_cases hk4 : k < 4
         case neg =>
           obtain rfl : k = 4 := by omega
           clear hk hk4
           gi_wp2
           go_roundw
           case rel => exact ⟨i + 1, by go_num, by have := HI0.out; omega, by rw [show (i + 1) * 4 = i * 4 + 4 by omega]; exact hJk, by have := HS2.out; have := HSZ.out; omega⟩
           case measure => have := HI0.out; simp [intOf]; omega
         case pos =>
           obtain ⟨a0, ha0⟩ : ∃ a, a = rot8 i k 0 := ⟨_, rfl⟩
           obtain ⟨a1, ha1⟩ : ∃ a, a = rot8 i k 1 := ⟨_, rfl⟩
           obtain ⟨a2, ha2⟩ : ∃ a, a = rot8 i k 2 := ⟨_, rfl⟩
           obtain ⟨a3, ha3⟩ : ∃ a, a = rot8 i k 3 := ⟨_, rfl⟩
           have hen : encB8 (i * 4 + k) = #[.agg #[.int .i64 a0, .int .i64 a1, .int .i64 a2, .int .i64 a3]] := by
             unfold encB8
             rw [show (i * 4 + k) / 4 = i by omega, show (i * 4 + k) % 4 = k by omega, ← ha0, ← ha1, ← ha2, ← ha3]
           have hnx : #[Value.int .i64 a1, .int .i64 a2, .int .i64 a3, .int .i64 a0] = #[.int .i64 (rot8 i (k + 1) 0), .int .i64 (rot8 i (k + 1) 1), .int .i64 (rot8 i (k + 1) 2), .int .i64 (rot8 i (k + 1) 3)] := by
             rw [rot8_next, rot8_next, rot8_next, rot8_next, rot8_round, ← ha0, ← ha1, ← ha2, ← ha3]
           rw [← ha0, ← ha1, ← ha2, ← ha3] at HRB
           have HNX := Lib.hid hnx
           have HK := Lib.hid hk4
           have q1 : (k : Int) < 4 := by omega
           clear ha0 ha1 ha2 ha3 hnx hk hk4
           obtain ⟨fn, tmps, assign, body, hy, hR⟩ := hY _ (i * 4 + k) wx hJk (by rw [List.length_range]; have := HK.out; have := HI0.out; omega)
           rw [hen] at hy
           have d0 := HRB.out.cell (i := 0) (v := .int .i64 a0) rfl; have d1 := HRB.out.cell (i := 1) (v := .int .i64 a1) rfl; have d2 := HRB.out.cell (i := 2) (v := .int .i64 a2) rfl; have d3 := HRB.out.cell (i := 3) (v := .int .i64 a3) rfl
           clear hen
           gi_wp2
           refine ⟨fun h => (by cases h), hR.mono ?_⟩
           clear hR hy d0 d1 d2 d3
           rintro e W3 ⟨rfl, hJ3, hk3⟩
           have HR3 := Lib.hid (hk3.blk HRB.out HQ2.out)
           have HS3 := Lib.hid (Nat.le_trans HS2.out hk3.1)
           clear hk3
           have d0 := HR3.out.cell (i := 0) (v := .int .i64 a0) rfl; have d1 := HR3.out.cell (i := 1) (v := .int .i64 a1) rfl; have d2 := HR3.out.cell (i := 2) (v := .int .i64 a2) rfl; have d3 := HR3.out.cell (i := 3) (v := .int .i64 a3) rfl
           have f0 := HR3.out.frozen 0; have f1 := HR3.out.frozen 1; have f2 := HR3.out.frozen 2; have f3 := HR3.out.frozen 3
           gi_wp2
           clear d0 d1 d2 d3 f0 f1 f2 f3
           have hlo : W.heap.size ≤ wr.heap.size := HSZ.out
           have HR4 := Lib.hid ((((HR3.out.set 0 (.int .i64 a1)).set 1 (.int .i64 a2)).set 2 (.int .i64 a3)).set 3 (.int .i64 a0))
           have hJ4 := hJ.store 3 (.int .i64 a0) (hJ.store 2 (.int .i64 a3) (hJ.store 1 (.int .i64 a2) (hJ.store 0 (.int .i64 a1) hJ3 hlo) hlo) hlo) hlo
           clear hJ3
           go_roundw
           case rel => exact ⟨k + 1, by go_num, HK.out, by rw [show i * 4 + (k + 1) = i * 4 + k + 1 by omega, List.range_succ]; exact hJ4, by rw [← HNX.out]; exact HR4.out, by simp only [World.size_setCell]; exact HS3.out⟩
           case measure => have := HK.out; simp [intOf]; omega
theorem boxes_hands (n q : Nat) (w : World) (hq : q < w.heap.size) (hC : Rg8 w) : Hands Fence.wide n Tryd.prog 94 encB8 (KpQ q) (fun ys => ys = List.range 8) 8 w := fun l J W hW hJ hY h0 =>
  boxes_in n l q J W (Nat.lt_of_lt_of_le hq hW.size) hJ hY (hC.below hW (Nat.le_refl _)) h0
end Go.Proofs.YtmjcjaecaigahaaDoor
namespace Go.Proofs.YtmjcjaecaigahaaDoor
open Go.RowKit Go.Lib

/-- Nothing deferred. -/
def calmB (ops : Array Oper) : Bool := ops.all fun o => match o.op with | .defer _ => false | _ => true
theorem calmB_spec {ops : Array Oper} (h : calmB ops = true) {i : Nat} {o : Oper} (hi : ops[i]? = some o) : ∀ c, o.op ≠ .defer c := by
  have hm := Array.mem_of_getElem? hi
  unfold calmB at h
  rw [Array.all_eq_true_iff_forall_mem] at h
  have := h o hm
  intro c hc; rw [hc] at this; cases this
section
variable {lr : Nat} {n : Nat} {P : Program} {ops : Array Oper} {Q : Exit → Act → World → Prop} {md : Region.Mode} {S : World → Prop}
theorem Early.opF (hp : calmB ops = true) {i : Nat} {o : Oper} {v : Value} {a : Act} {w : World} {K : Act → World → Prop} (hi : ops[i]? = some o) (h : Early P ops S o v a) (hS : S w) (hK : ∀ w', Below w.heap.size w w' → K (a.put o.dst v) w') : wpOpIn (Fence.wide.inRound lr) n P ops Q i K a w := by
  have p2 := calmB_spec hp hi
  have hab : ∀ f, o.about P w a.eval = some f → (Fence.wide.inRound lr).fn f := fun _ _ => trivial
  unfold wpOpIn
  simp only [hi]
  rcases h with ⟨hw, h⟩ | ⟨hw, rfl⟩
  · simp only [hw, if_true]
    refine ⟨hab, ?_⟩
    rw [Oper.semAt_plain (Fence.wide.inRound lr) _ _ p2]
    rcases h w hS with h1 | ⟨f, args, h1, h2⟩
    · rw [h1]; exact hK _ (Below.refl _ _)
    · rw [h1, Oper.uponIn_enter]
      refine ⟨fun h3 => (by cases h3), (CallsIn.inRound lr (callsIn_wide.2 h2)).mono fun e w' h3 => ?_⟩
      obtain ⟨rfl, h4⟩ := h3
      exact hK _ h4
  · simp only [hw, Bool.false_eq_true, if_false]; exact ⟨hab, hK _ (Below.refl _ _)⟩
theorem wpOpIn_swapF (hp : calmB ops = true) {j : Nat} {oi oj : Oper} {v : Value} (hj : ops[j]? = some oj) (hap : oi.apart ops oj = true) (hsi : ∀ cs b, oi.op ≠ .select cs b) (hsj : ∀ cs b, oj.op ≠ .select cs b)
    (hQ : ∀ c a w, Q (.panic c) (a.put oi.dst v) w → Q (.panic c) a w) {K : Act → World → Prop} {a : Act} {w : World} (hy : Early P ops S oi v a) (h : wpOpIn (Fence.wide.inRound lr) n P ops Q j K (a.put oi.dst v) w) :
    wpOpIn (Fence.wide.inRound lr) n P ops Q j (fun a' w' => Early P ops S oi v a' ∧ K (a'.put oi.dst v) w') a w := by
  have p2 := calmB_spec hp hj
  obtain ⟨h1, h2, h3⟩ := Oper.apart_spec hap
  have kp : ∀ (a : Act), Early P ops S oi v a → ∀ u, Early P ops S oi v (a.put oj.dst u) := fun a hy u => hy.same (execOp_put oi hsi a oj.dst u h3) (wanted_put oi a oj.dst u h3)
  have kd : ∀ d, Early P ops S oi v { a with defers := d :: a.defers } := fun d => hy.same rfl rfl
  have pc : ∀ u, (a.put oi.dst v).put oj.dst u = (a.put oj.dst u).put oi.dst v := fun u => Act.put_comm a v u h2
  have hab : ∀ f, oj.about P w a.eval = some f → (Fence.wide.inRound lr).fn f := fun _ _ => trivial
  unfold wpOpIn at *
  simp only [hj] at *
  rw [wanted_put oj a oi.dst v h1] at h
  split
  · rename_i hw
    simp only [hw, if_true] at h
    unfold Oper.wpIn at *
    refine ⟨hab, ?_⟩
    have h := h.2
    rw [Oper.semAt_plain (Fence.wide.inRound lr) _ _ p2, execOp_put oj hsj a oi.dst v h1] at h
    rw [Oper.semAt_plain (Fence.wide.inRound lr) _ _ p2]
    generalize (execOp a.eval oj).run P w = r at *
    cases r with
    | ok x w' =>
      cases x <;> simp only [Oper.uponIn] at h ⊢
      case value u => exact ⟨kp a hy u, by rw [← pc u]; exact h⟩
      case skip => exact ⟨kp a hy _, by rw [← pc undef]; exact h⟩
      case defer d =>
        refine ⟨kp _ (kd d) _, ?_⟩
        rw [← Act.put_comm _ v undef h2, ← Act.put_defers]
        exact h
      case enter f args =>
        refine ⟨h.1, CallsIn.mono h.2 fun e w'' he => ?_⟩
        cases e with
        | returned u => exact ⟨kp a hy u, by rw [← pc u]; exact he⟩
        | panicked c => exact hQ _ _ _ he
        | outgrown => exact he
      case row row args => exact ⟨h.1, RowsIn.mono h.2 fun u w'' he => ⟨kp a hy u, by rw [← pc u]; exact he⟩⟩
      case round l f tmps assign body =>
        refine ⟨h.1, RoundIn.mono h.2 fun e w'' he => ?_⟩
        cases e with
        | returned u => exact ⟨kp a hy u, by rw [← pc u]; exact he⟩
        | panicked c => exact hQ _ _ _ he
        | outgrown => exact he
    | halt x w' =>
      cases x <;> simp only [Oper.uponIn] at h ⊢
      case panic u => exact hQ _ _ _ h
  · rename_i hw
    simp only [hw] at h
    exact ⟨hab, kp a hy _, by rw [← Act.put_comm a v undef h2]; exact h.2⟩
/-- In whatever order the rest comes up, from each world that meets I. -/
def GrowF (lr : Nat) (n : Nat) (P : Program) (md : Region.Mode) (ops : Array Oper) (Q : Exit → Act → World → Prop) (S : World → Prop) : Nat → Array Bool → Act → (World → Prop) → Prop
  | 0, listed, a, I => Region.ready md ops listed = [] ∧ ∀ w, I w → Q .normal a w
  | fuel + 1, listed, a, I => (Region.ready md ops listed = [] → ∀ w, I w → Q .normal a w) ∧
      ∀ i, i ∈ Region.ready md ops listed → ∀ w, I w → wpOpIn (Fence.wide.inRound lr) n P ops Q i (fun a' w' => ∃ I', Calm S I' ∧ I' w' ∧ GrowF lr n P md ops Q S fuel (listed.setIfInBounds i true) a' I') a w
theorem GrowF.any : ∀ (fuel : Nat) (listed : Array Bool) (a : Act) (I : World → Prop) (w : World), GrowF lr n P md ops Q S fuel listed a I → I w → wpAnyIn (Fence.wide.inRound lr) n P md ops Q fuel listed a w
  | 0, _, _, _, w, h, hw => ⟨h.1, h.2 w hw⟩
  | n + 1, _, _, _, w, h, hw => ⟨fun h0 => h.1 h0 w hw, fun i hi => wpOpIn_mono (fun _ _ h2 => by
      obtain ⟨I', _, h3, h4⟩ := h2
      exact GrowF.any n _ _ I' _ h4 h3) (h.2 i hi w hw)⟩
theorem GrowF.first (hp : calmB ops = true) {i : Nat} {oi : Oper} {v : Value} (hi : ops[i]? = some oi) (hsel : ∀ (j : Nat) (o : Oper) cs b, ops[j]? = some o → o.op ≠ .select cs b) (hQ : ∀ c a w, Q (.panic c) (a.put oi.dst v) w → Q (.panic c) a w) :
    ∀ (fuel : Nat) (listed : Array Bool) (a : Act) (I : World → Prop),
      (∀ j oj, ops[j]? = some oj → j ≠ i → listed.getD j true = false → (∀ e ∈ oj.after, Region.binds md e = true → e.on ≠ i) → oi.apart ops oj = true) →
      i ∈ Region.ready md ops listed → Early P ops S oi v a → Calm S I →
      GrowF lr n P md ops Q S fuel (listed.setIfInBounds i true) (a.put oi.dst v) I → GrowF lr n P md ops Q S (fuel + 1) listed a I := by
  intro fuel
  induction fuel with
  | zero =>
    intro listed a I _ hr hy hI H
    refine ⟨fun h => (by rw [h] at hr; cases hr), fun j hj w hw => ?_⟩
    by_cases hji : j = i
    · subst hji
      exact hy.opF hp hi (hI.1 w hw) fun w' hb => ⟨I, hI, hI.2 w w' hw hb, H⟩
    · have := ready_mono hj hji
      rw [H.1] at this
      cases this
  | succ fuel ih =>
    intro listed a I hfree hr hy hI H
    refine ⟨fun h => (by rw [h] at hr; cases hr), fun j hj w hw => ?_⟩
    by_cases hji : j = i
    · subst hji
      exact hy.opF hp hi (hI.1 w hw) fun w' hb => ⟨I, hI, hI.2 w w' hw hb, H⟩
    · obtain ⟨hjun, oj, hoj, hall⟩ := mem_ready.1 hj
      have hin := unlisted (mem_ready.1 hr).1
      have hnot : ∀ e ∈ oj.after, Region.binds md e = true → e.on ≠ i := fun e he hb heq => by
        have h1 := hall e he hb
        rw [heq, hin] at h1; cases h1
      have h2 := wpOpIn_swapF hp hoj (hfree j oj hoj hji hjun hnot) (fun cs b => hsel i oi cs b hi) (fun cs b => hsel j oj cs b hoj) hQ hy (H.2 j (ready_mono hj hji) w hw)
      have hfree' : ∀ k ok, ops[k]? = some ok → k ≠ i → (listed.setIfInBounds j true).getD k true = false → (∀ e ∈ ok.after, Region.binds md e = true → e.on ≠ i) → oi.apart ops ok = true := fun k ok hk hki hun hno => by
        refine hfree k ok hk hki ?_ hno
        by_cases hjk : j = k
        · subst hjk; exact hjun
        · rw [getD_set_ne true hjk] at hun; exact hun
      refine wpOpIn_mono (fun a' w' h3 => ?_) h2
      obtain ⟨hy3, I', hI', hw3, h4⟩ := h3
      refine ⟨I', hI', hw3, ih (listed.setIfInBounds j true) a' I' hfree' (ready_mono hr (Ne.symm hji)) hy3 hI' ?_⟩
      rw [Array.setIfInBounds_comm _ _ hji]
      exact h4
/-- A copy, an address, arithmetic, a load, a look-up. -/
theorem growF_take {fuel : Nat} {listed : Array Bool} {a : Act} {I : World → Prop} {oi : Oper} (hp : calmB ops = true) (i : Nat) (d : Option Nat) (v : Value) (hi : ops[i]? = some oi) (hd : oi.dst = d) (hm : mayB md ops listed i = true)
    (hQ : ∀ c a w, Q (.panic c) (a.put d v) w → Q (.panic c) a w) (hw : Region.wanted oi (yielded ops a.tmps) = true) (hI : Calm S I) (hy : ∀ w, S w → (execOp a.eval oi).run P w = .ok (.value v) w)
    (h : GrowF lr n P md ops Q S fuel (listed.setIfInBounds i true) (a.put d v) I) : GrowF lr n P md ops Q S (fuel + 1) listed a I := by
  subst hd
  simp only [mayB, Bool.and_eq_true] at hm
  exact GrowF.first hp hi (Region.noSelect_spec hm.1.1) hQ fuel listed a I (Region.free_spec hi hm.1.2) (by simpa using hm.2) (.inl ⟨hw, fun w hS => .inl (hy w hS)⟩) hI h
/-- A call that returns the same, whatever the world. -/
theorem growF_call {fuel : Nat} {listed : Array Bool} {a : Act} {I : World → Prop} {oi : Oper} (hp : calmB ops = true) (i : Nat) (d : Option Nat) (v : Value) (f : FuncId) (xs : List Operand) (ts : Array TypeId) (hi : ops[i]? = some oi) (hd : oi.dst = d) (hm : mayB md ops listed i = true)
    (hQ : ∀ c a w, Q (.panic c) (a.put d v) w → Q (.panic c) a w) (hw : Region.wanted oi (yielded ops a.tmps) = true) (hI : Calm S I)
    (hop : oi.op = Op.call { callee := Callee.value (Operand.func f), args := xs.toArray, argTypes := ts }) (eg : ∀ args w, (callFunc f args).run P w = .ok (.enter f args) w)
    {args : List Value} (hc : ∀ w, S w → Calls P f args.toArray w fun e w' => e = .returned v ∧ Below w.heap.size w w') (ha : xs.map a.eval = args)
    (h : GrowF lr n P md ops Q S fuel (listed.setIfInBounds i true) (a.put d v) I) : GrowF lr n P md ops Q S (fuel + 1) listed a I := by
  subst hd
  simp only [mayB, Bool.and_eq_true] at hm
  refine GrowF.first hp hi (Region.noSelect_spec hm.1.1) hQ fuel listed a I (Region.free_spec hi hm.1.2) (by simpa using hm.2) (.inl ⟨hw, fun w hS => .inr ⟨f, args.toArray, ?_, hc w hS⟩⟩) hI h
  subst ha
  simp only [execOp, hop, resolve, Act.eval, Sem.run_bind, Result.andThen]
  simp [invoke, eg, go_sem]
theorem growF_done {listed : Array Bool} {a : Act} {I : World → Prop} (hr : Region.ready md ops listed = []) (h : ∀ w, I w → Q .normal a w) : ∀ fuel, GrowF lr n P md ops Q S fuel listed a I
  | 0 => ⟨hr, h⟩
  | _ + 1 => ⟨fun _ => h, fun i hi => by rw [hr] at hi; cases hi⟩
theorem wpIn_region_growF {id : Nat} {a : Act} {w : World} (I : World → Prop) (hm : P.follows .mixedOrders = true) (hI : Calm S I) (h0 : I w.drew) (h : Calm S I → GrowF lr n P .any ops Q S ops.size (Array.replicate ops.size false) a I) : (Code.region id ops true).wpIn (Fence.wide.inRound lr) n P Q a w :=
  wpIn_region_any hm (GrowF.any _ _ _ I _ (h hI) h0)
end
end Go.Proofs.YtmjcjaecaigahaaDoor
namespace Go.Proofs.YtmjcjaecaigahaaDoor
open Go.RowKit Go.Shelf Go.Lib
attribute [local go_sem] Oper.semAt_some

theorem blk_own8 {β : Type} (B : Nat) (t : TypeId) (f : β → Array Value) : Own (fun (s : β) W => Blk W B t (f s)) := fun s X Y row hs hg hrow => hs.only hg (fun e => by
  obtain ⟨o, h1, h2⟩ := hrow B e.symm
  have h3 : X.heap[B]? = some (.cells (f s) t (0, 0)) := hs
  rw [h3, Option.some.injEq] at h1
  rw [← h1] at h2
  cases h2)
theorem box8_iz {W : World} {g j : Nat} {t : TypeId} (h : Blk W g t #[.int .i64 (rot8 (j / 4) (j % 4) 0), .int .i64 (rot8 (j / 4) (j % 4) 1), .int .i64 (rot8 (j / 4) (j % 4) 2), .int .i64 (rot8 (j / 4) (j % 4) 3)]) : Iz W (some ⟨g, 0, none⟩) (box8 j) := fun _ => ⟨g, 0, rfl, h.lt, fun i hi => by
  rw [Nat.zero_add]
  match i, hi with
  | 0, _ => exact h.cell (i := 0) rfl
  | 1, _ => exact h.cell (i := 1) rfl
  | 2, _ => exact h.cell (i := 2) rfl
  | 3, _ => exact h.cell (i := 3) rfl
  | i + 4, hi => exact absurd hi (by simp [box8])⟩
theorem grown_of_below8 {W W' : World} (h : Below W.heap.size W W') : W.grownBy W' none := ⟨h.os, h.tape, h.output, h.size, fun k hk _ => h.block k hk⟩
theorem keeps_of_below8 {B : Nat} {W W' : World} (h : Below W.heap.size W W') : KeepsFrom B W W' := KeepsFrom.of_grownBy (grown_of_below8 h) (fun j e => by cases e)
def lc8 (F : F8) : Int := (if F.ps.length = 1 then 30 else 6 * max 0 ((F.ps.length : Int) - 2)) + if F.cl then 20 else 0
def ls8 (a : List Int) (c : Int) (j : Nat) : Int := if c < 0 ∨ far8 a (box8 j) < c then far8 a (box8 j) else c
def lsL8 (a : List Int) (l : List Nat) : Int := l.foldl (ls8 a) (-1)
theorem lsL8_snoc (a : List Int) (l : List Nat) (j : Nat) : lsL8 a (l ++ [j]) = ls8 a (lsL8 a l) j := by simp [lsL8]
def bc8 (F : F8) : Int := lsL8 F.ss (List.range 8) + if F.cl then 0 else 25
theorem lsL8_bd {a : List Int} (ha : Ok8 a) (l : List Nat) : -1 ≤ lsL8 a l ∧ lsL8 a l ≤ 700 := by
  unfold lsL8
  have key : ∀ (l : List Nat) (c : Int), -1 ≤ c ∧ c ≤ 700 → -1 ≤ l.foldl (ls8 a) c ∧ l.foldl (ls8 a) c ≤ 700 := by
    intro l
    induction l with
    | nil => intro c hc; exact hc
    | cons j l ih =>
      intro c hc
      refine ih _ ?_
      have h1 := far8_bd ha.2 (box8_ok j).2
      have h2 := ha.1
      have h3 : (box8 j).length = 4 := rfl
      unfold ls8; split <;> omega
  exact key l (-1) (by omega)
set_option maxRecDepth 100000 in
set_option maxHeartbeats 8000000 in
theorem linecost8_any (F : F8) (v : Value) (B : Nat) (w : World) (hF : Fz8 w B v F) (hl : F.ps.length ≤ 200) : Yl 72 #[v] w (.int .i64 (lc8 F)) := by
  obtain ⟨p, q, rfl, _, _, _⟩ := hF
  have hv : lc8 F = (if F.ps.length = 1 then 30 else 6 * max 0 ((F.ps.length : Int) - 2)) + if F.cl then 20 else 0 := rfl
  obtain ⟨n, hn⟩ : ∃ n, n = F.ps.length := ⟨_, rfl⟩
  obtain ⟨m, hm⟩ : ∃ m, m = F.ss.length := ⟨_, rfl⟩
  rw [← hn] at hv hl ⊢
  rw [← hm]
  generalize F.cl = cl at *
  have e1 : IntKind.i64.wrap ((n : Int) - 2) = (n : Int) - 2 := IntWalk.i64_in _ (by omega)
  have e2 : IntKind.i64.wrap (6 * ((n : Int) - 2)) = 6 * ((n : Int) - 2) := IntWalk.i64_in _ (by omega)
  have e3 : IntKind.i64.wrap (6 * ((n : Int) - 2) + 20) = 6 * ((n : Int) - 2) + 20 := IntWalk.i64_in _ (by omega)
  have w1 : wrap64 (6 * ((n : Int) - 2)) = 6 * ((n : Int) - 2) := IntWalk.wrap64_in _ ⟨by omega, by omega⟩
  have w2 : wrap64 (6 * ((n : Int) - 2) + 20) = 6 * ((n : Int) - 2) + 20 := IntWalk.wrap64_in _ ⟨by omega, by omega⟩
  have w3 : wrap64 0 = 0 := IntWalk.wrap64_in _ ⟨by omega, by omega⟩
  have w4 : wrap64 (0 + 20) = 20 := IntWalk.wrap64_in _ ⟨by omega, by omega⟩
  have w5 : wrap64 20 = 20 := IntWalk.wrap64_in _ ⟨by omega, by omega⟩
  rw [hv]
  clear hv hn hm
  have HLL := Lib.hid hl
  clear hl
  by_cases h1 : n = 1
  case pos =>
    have h1b : ((n : Int) == 1) = true := by rw [h1]; rfl
    have h1c : (n == 1) = true := by rw [h1]; rfl
    rw [if_pos h1]
    have H1 := Lib.hid h1; clear h1
    cases cl
    case false =>
      have S_0 : Hid (Blk (w.alloc (.cells #[.slice (some ⟨p, 0, none⟩) n n, .slice (some ⟨q, 0, none⟩) m m, .bool false] 48)) w.heap.size 48 #[.slice (some ⟨p, 0, none⟩) n n, .slice (some ⟨q, 0, none⟩) m m, .bool false]) := allocs_blk [(#[.slice (some ⟨p, 0, none⟩) n n, .slice (some ⟨q, 0, none⟩) m m, .bool false], 48)] w 0 _ rfl
      have HB_0 : Hid (Below w.heap.size w (w.alloc (.cells #[.slice (some ⟨p, 0, none⟩) n n, .slice (some ⟨q, 0, none⟩) m m, .bool false] 48))) := allocs_below [(#[.slice (some ⟨p, 0, none⟩) n n, .slice (some ⟨q, 0, none⟩) m m, .bool false], 48)] w (Below.refl w.heap.size w) (Nat.le_refl _)
      go_enter Tryd.func72, Tryd.ntmps72
      have yy0 := S_0.out.cell (i := 0) (v := .slice (some ⟨p, 0, none⟩) n n) rfl; have yy1 := S_0.out.cell (i := 1) (v := .slice (some ⟨q, 0, none⟩) m m) rfl; have yy2 := S_0.out.cell (i := 2) (v := .bool false) rfl
      go_wp2_with fail
      all_goals (go_ret; refine ⟨ret_int ?_, HB_0.out⟩; first | rfl | (simp only [w1]; omega) | (simp only [w1, w2]; omega) | (simp only [w3]; omega) | (simp only [w3, w4]; omega) | (simp only [w3, Int.zero_add, w5]; omega) | omega | skip)
    case true =>
      have S_0 : Hid (Blk (w.alloc (.cells #[.slice (some ⟨p, 0, none⟩) n n, .slice (some ⟨q, 0, none⟩) m m, .bool true] 48)) w.heap.size 48 #[.slice (some ⟨p, 0, none⟩) n n, .slice (some ⟨q, 0, none⟩) m m, .bool true]) := allocs_blk [(#[.slice (some ⟨p, 0, none⟩) n n, .slice (some ⟨q, 0, none⟩) m m, .bool true], 48)] w 0 _ rfl
      have HB_0 : Hid (Below w.heap.size w (w.alloc (.cells #[.slice (some ⟨p, 0, none⟩) n n, .slice (some ⟨q, 0, none⟩) m m, .bool true] 48))) := allocs_below [(#[.slice (some ⟨p, 0, none⟩) n n, .slice (some ⟨q, 0, none⟩) m m, .bool true], 48)] w (Below.refl w.heap.size w) (Nat.le_refl _)
      go_enter Tryd.func72, Tryd.ntmps72
      have yy0 := S_0.out.cell (i := 0) (v := .slice (some ⟨p, 0, none⟩) n n) rfl; have yy1 := S_0.out.cell (i := 1) (v := .slice (some ⟨q, 0, none⟩) m m) rfl; have yy2 := S_0.out.cell (i := 2) (v := .bool true) rfl
      go_wp2_with fail
      all_goals (go_ret; refine ⟨ret_int ?_, HB_0.out⟩; first | rfl | (simp only [w1]; omega) | (simp only [w1, w2]; omega) | (simp only [w3]; omega) | (simp only [w3, w4]; omega) | (simp only [w3, Int.zero_add, w5]; omega) | omega | skip)
  case neg =>
    have h1b : ((n : Int) == 1) = false := by rw [beq_eq_false_iff_ne]; omega
    have h1c : (n == 1) = false := by rw [beq_eq_false_iff_ne]; exact h1
    rw [if_neg h1]
    cases cl
    case false =>
      have S_0 : Hid (Blk (w.alloc (.cells #[.slice (some ⟨p, 0, none⟩) n n, .slice (some ⟨q, 0, none⟩) m m, .bool false] 48)) w.heap.size 48 #[.slice (some ⟨p, 0, none⟩) n n, .slice (some ⟨q, 0, none⟩) m m, .bool false]) := allocs_blk [(#[.slice (some ⟨p, 0, none⟩) n n, .slice (some ⟨q, 0, none⟩) m m, .bool false], 48)] w 0 _ rfl
      have HB_0 : Hid (Below w.heap.size w (w.alloc (.cells #[.slice (some ⟨p, 0, none⟩) n n, .slice (some ⟨q, 0, none⟩) m m, .bool false] 48))) := allocs_below [(#[.slice (some ⟨p, 0, none⟩) n n, .slice (some ⟨q, 0, none⟩) m m, .bool false], 48)] w (Below.refl w.heap.size w) (Nat.le_refl _)
      go_enter Tryd.func72, Tryd.ntmps72
      have yy0 := S_0.out.cell (i := 0) (v := .slice (some ⟨p, 0, none⟩) n n) rfl; have yy1 := S_0.out.cell (i := 1) (v := .slice (some ⟨q, 0, none⟩) m m) rfl; have yy2 := S_0.out.cell (i := 2) (v := .bool false) rfl
      go_wp2_with fail
      all_goals (go_ret; refine ⟨ret_int ?_, HB_0.out⟩; first | rfl | (simp only [w1]; omega) | (simp only [w1, w2]; omega) | (simp only [w3]; omega) | (simp only [w3, w4]; omega) | (simp only [w3, Int.zero_add, w5]; omega) | omega | skip)
    case true =>
      have S_0 : Hid (Blk (w.alloc (.cells #[.slice (some ⟨p, 0, none⟩) n n, .slice (some ⟨q, 0, none⟩) m m, .bool true] 48)) w.heap.size 48 #[.slice (some ⟨p, 0, none⟩) n n, .slice (some ⟨q, 0, none⟩) m m, .bool true]) := allocs_blk [(#[.slice (some ⟨p, 0, none⟩) n n, .slice (some ⟨q, 0, none⟩) m m, .bool true], 48)] w 0 _ rfl
      have HB_0 : Hid (Below w.heap.size w (w.alloc (.cells #[.slice (some ⟨p, 0, none⟩) n n, .slice (some ⟨q, 0, none⟩) m m, .bool true] 48))) := allocs_below [(#[.slice (some ⟨p, 0, none⟩) n n, .slice (some ⟨q, 0, none⟩) m m, .bool true], 48)] w (Below.refl w.heap.size w) (Nat.le_refl _)
      go_enter Tryd.func72, Tryd.ntmps72
      have yy0 := S_0.out.cell (i := 0) (v := .slice (some ⟨p, 0, none⟩) n n) rfl; have yy1 := S_0.out.cell (i := 1) (v := .slice (some ⟨q, 0, none⟩) m m) rfl; have yy2 := S_0.out.cell (i := 2) (v := .bool true) rfl
      go_wp2_with fail
      all_goals (go_ret; refine ⟨ret_int ?_, HB_0.out⟩; first | rfl | (simp only [w1]; omega) | (simp only [w1, w2]; omega) | (simp only [w3]; omega) | (simp only [w3, w4]; omega) | (simp only [w3, Int.zero_add, w5]; omega) | omega | skip)
set_option maxRecDepth 100000 in
set_option maxHeartbeats 16000000 in
theorem boxcost8_any (F : F8) (v : Value) (B : Nat) (w : World) (hF : Fz8 w B v F) (hss : Ok8 F.ss) (hR : Rg8 w) : Yl 73 #[v] w (.int .i64 (bc8 F)) := by
  obtain ⟨p, q, rfl, hpq, hbp, hbq⟩ := hF
  have HSS := Lib.hid hss; have HBQ := Lib.hid hbq; have HRG := Lib.hid hR
  have HSM := Lib.hid (fun l => lsL8_bd hss l)
  clear hpq hbp hbq hss hR
  refine (callsIn_wide (n := 8)).1 ?_
  refine callsIn_of_wp_marks Tryd.func73 rfl trivial ?_ rfl
  simp only [Tryd.ntmps73, List.size_toArray, List.length_cons, List.length_nil, Nat.reduceAdd, Nat.reduceSub, Array.replicate_succ, Array.replicate_zero, List.push_toArray, List.append_toArray, List.nil_append, List.cons_append]
  gi_wp2
  have hb0 : Below w.heap.size w ((w.alloc (.cells #[.slice (some ⟨p, 0, none⟩) F.ps.length F.ps.length, .slice (some ⟨q, 0, none⟩) F.ss.length F.ss.length, .bool F.cl] 48)).alloc (.cells #[.int .i64 (-1)] 3)) := allocs_below [(#[.slice (some ⟨p, 0, none⟩) F.ps.length F.ps.length, .slice (some ⟨q, 0, none⟩) F.ss.length F.ss.length, .bool F.cl], 48), (#[.int .i64 (-1)], 3)] w (Below.refl _ _) (Nat.le_refl _)
  have hk0 : Blk ((w.alloc (.cells #[.slice (some ⟨p, 0, none⟩) F.ps.length F.ps.length, .slice (some ⟨q, 0, none⟩) F.ss.length F.ss.length, .bool F.cl] 48)).alloc (.cells #[.int .i64 (-1)] 3)) w.heap.size 48 #[.slice (some ⟨p, 0, none⟩) F.ps.length F.ps.length, .slice (some ⟨q, 0, none⟩) F.ss.length F.ss.length, .bool F.cl] := allocs_blk [(#[.slice (some ⟨p, 0, none⟩) F.ps.length F.ps.length, .slice (some ⟨q, 0, none⟩) F.ss.length F.ss.length, .bool F.cl], 48), (#[.int .i64 (-1)], 3)] w 0 _ rfl
  have hk1 : Blk ((w.alloc (.cells #[.slice (some ⟨p, 0, none⟩) F.ps.length F.ps.length, .slice (some ⟨q, 0, none⟩) F.ss.length F.ss.length, .bool F.cl] 48)).alloc (.cells #[.int .i64 (-1)] 3)) (w.heap.size + 1) 3 #[.int .i64 (-1)] := allocs_blk [(#[.slice (some ⟨p, 0, none⟩) F.ps.length F.ps.length, .slice (some ⟨q, 0, none⟩) F.ss.length F.ss.length, .bool F.cl], 48), (#[.int .i64 (-1)], 3)] w 1 _ rfl
  have hsz : ((w.alloc (.cells #[.slice (some ⟨p, 0, none⟩) F.ps.length F.ps.length, .slice (some ⟨q, 0, none⟩) F.ss.length F.ss.length, .bool F.cl] 48)).alloc (.cells #[.int .i64 (-1)] 3)).heap.size = w.heap.size + 2 := by simp
  obtain ⟨W0, hW0⟩ : ∃ W0, (w.alloc (.cells #[.slice (some ⟨p, 0, none⟩) F.ps.length F.ps.length, .slice (some ⟨q, 0, none⟩) F.ss.length F.ss.length, .bool F.cl] 48)).alloc (.cells #[.int .i64 (-1)] 3) = W0 := ⟨_, rfl⟩
  rw [hW0] at hb0 hk0 hk1 hsz ⊢
  clear hW0
  refine wpIn_range8 rfl (by omega) (gf := 94) rfl trivial (enters_of Tryd.func94 (by kernel_rfl) rfl)
    (boxes_hands (8 - 1) (w.heap.size + 1) W0 (by omega) (HRG.out.below hb0 (Nat.le_refl _))) (fun h k => h.trans k) KpQ.put (fun _ => rfl)
    (fun (pre : List Nat) W => (Blk W (w.heap.size + 1) 3 #[.int .i64 (lsL8 F.ss pre)] ∧ Blk W w.heap.size 48 #[.slice (some ⟨p, 0, none⟩) F.ps.length F.ps.length, .slice (some ⟨q, 0, none⟩) F.ss.length F.ss.length, .bool F.cl]) ∧ Below w.heap.size w W)
    (fun s X Y row hs hg hr => ⟨⟨hs.1.1.only hg (fun e => by have := hr _ e.symm; omega), hs.1.2.only hg (fun e => by have := hr _ e.symm; omega)⟩, hs.2.grown hg hs.2.size (fun r e => by have := hr r e; omega)⟩)
    ⟨⟨hk1, hk0⟩, hb0⟩
    (fun x a' W => ∃ Ba, w.heap.size + 1 < Ba ∧ Blk W Ba 122 #[.int .i64 (rot8 (x / 4) (x % 4) 0), .int .i64 (rot8 (x / 4) (x % 4) 1), .int .i64 (rot8 (x / 4) (x % 4) 2), .int .i64 (rot8 (x / 4) (x % 4) 3)] ∧ a' = { tmps := #[.agg #[.slice (some ⟨p, 0, none⟩) F.ps.length F.ps.length, .slice (some ⟨q, 0, none⟩) F.ss.length F.ss.length, .bool F.cl], .pointer (some ⟨w.heap.size, 0, none⟩), .int .i64 0, .pointer (some ⟨w.heap.size + 1, 0, none⟩), .pointer (some ⟨Ba, 0, none⟩), undef, .agg #[.int .i64 (rot8 (x / 4) (x % 4) 0), .int .i64 (rot8 (x / 4) (x % 4) 1), .int .i64 (rot8 (x / 4) (x % 4) 2), .int .i64 (rot8 (x / 4) (x % 4) 3)], undef, undef, undef, undef, undef, undef, undef, undef, undef, undef, undef, undef, undef, undef, undef, undef, undef, undef], defers := [] })
    (fun x a' _ X Y row hs hg hr => by
      obtain ⟨Ba, h1, h2, h4⟩ := hs
      exact ⟨Ba, h1, blk_own8 Ba 122 (fun (_ : Unit) => #[.int .i64 (rot8 (x / 4) (x % 4) 0), .int .i64 (rot8 (x / 4) (x % 4) 1), .int .i64 (rot8 (x / 4) (x % 4) 2), .int .i64 (rot8 (x / 4) (x % 4) 3)]) () X Y row h2 hg (fun r e => (hr r e).2), h4⟩)
    ?assign ?body ?done
  case assign =>
    rintro l2 pre x W K ⟨⟨bQ, bS⟩, hB⟩ hK
    gi_wp2
    have hls : w.heap.size + 1 < W.heap.size := bQ.lt
    exact hK _ _ ((KeepsOthers.alloc _ _).from _) (KpQ.below ((Below.refl _ W).alloc (Nat.le_refl _) _)) ⟨⟨bQ.alloc _, bS.alloc _⟩, hB.alloc hB.size _⟩ ⟨W.heap.size, hls, Blk.new W _ _, rfl⟩
  case done =>
    rintro D ys W hD rfl ⟨⟨bQ, bS⟩, hB⟩ hK
    have hsm := HSM.out (List.range 8)
    have hv : bc8 F = lsL8 F.ss (List.range 8) + if F.cl then 0 else 25 := rfl
    obtain ⟨s, hs⟩ : ∃ s, s = lsL8 F.ss (List.range 8) := ⟨_, rfl⟩
    rw [← hs] at hsm hv bQ
    have HV := Lib.hid hv
    have e1 : IntKind.i64.wrap (s + 25) = s + 25 := IntWalk.i64_in _ (by omega)
    clear hs hsm hv
    have hdq : D ≠ w.heap.size + 1 := by omega
    generalize F.cl = cl at *
    have y0 := bQ.cell (i := 0) (v := .int .i64 s) rfl; have f0 := bQ.frozen 0
    have y2 := bS.cell (i := 2) (v := .bool cl) rfl
    cases cl
    case true =>
      gi_wp2
      refine ⟨by simp, .inl ⟨_, _, rfl, run_takeDeferred hK, ?_⟩⟩
      refine ⟨.int .i64 s, ?_, by rw [HV.out]; simp, hB.trans (belowK_b (w := w) (Nat.le_refl _) W D _ _ (by omega) hK rfl rfl)⟩
      simp [results, Tryd.results73, go_sem]
    case false =>
      gi_wp2
      have hK2 : (W.setCell ⟨w.heap.size + 1, 0, none⟩ (.int .i64 (s + 25))).heap[D]? = some (.deferred (some [])) := (Below.heap_setCell W ⟨w.heap.size + 1, 0, none⟩ _ D hdq).trans hK
      refine ⟨by simp, .inl ⟨_, _, rfl, run_takeDeferred hK2, ?_⟩⟩
      refine ⟨.int .i64 (s + 25), ?_, by rw [HV.out]; simp, (hB.setCell (p := ⟨w.heap.size + 1, 0, none⟩) (by show w.heap.size ≤ w.heap.size + 1; omega) _).trans (belowK_b (w := w) (Nat.le_refl _) _ D _ _ (by omega) hK2 rfl rfl)⟩
      simp [results, Tryd.results73, go_sem]
  case body =>
    rintro lq pre x a' W hlq ⟨⟨bQ, bS⟩, hB⟩ ⟨Ba, hBa, kA, rfl⟩ hlt
    have hsn := lsL8_snoc F.ss pre x
    have hs1 := HSM.out pre
    obtain ⟨s, hs⟩ : ∃ s, s = lsL8 F.ss pre := ⟨_, rfl⟩
    rw [← hs] at hsn bQ hs1
    obtain ⟨f, hf⟩ : ∃ f, f = far8 F.ss (box8 x) := ⟨_, rfl⟩
    have hsn2 : lsL8 F.ss (pre ++ [x]) = if s < 0 ∨ f < s then f else s := by rw [hsn, hf]; rfl
    have HSN := Lib.hid hsn2; have HFV := Lib.hid hf; have HQ1 := Lib.hid bQ; have HS1 := Lib.hid bS; have HB1 := Lib.hid hB; have HKA := Lib.hid kA; have HBA := Lib.hid hBa
    have HIQ : Hid (Iz W (some ⟨q, 0, none⟩) F.ss) := Lib.hid (HBQ.out.reads.below hB (Nat.le_refl _))
    have HIB : Hid (∀ W', Below W.heap.size W W' → Iz W' (some ⟨Ba, 0, none⟩) (box8 x)) := Lib.hid (fun W' hb => box8_iz (kA.below hb kA.lt))
    have HDI : Hid (∀ W', Iz W' (some ⟨q, 0, none⟩) F.ss → Iz W' (some ⟨Ba, 0, none⟩) (box8 x) → Yl 63 #[.slice (some ⟨q, 0, none⟩) F.ss.length F.ss.length, .slice (some ⟨Ba, 0, none⟩) 4 4] W' (.int .i64 f)) := Lib.hid (fun W' h1 h2 => by rw [hf]; exact distance8_any F.ss (box8 x) _ _ _ _ W' h1 h2 HSS.out (box8_ok x))
    clear hsn hsn2 hs hf hs1 bQ bS hB kA hBa hlt hlq
    gi_wp2_with fail
    refine wpIn_region_growF (S := (fun w' => w'.cell? ⟨w.heap.size, 1, none⟩ = some (.slice (some ⟨q, 0, none⟩) F.ss.length F.ss.length) ∧ Iz w' (some ⟨q, 0, none⟩) F.ss ∧ Iz w' (some ⟨Ba, 0, none⟩) (box8 x))) ((fun w' => Below W.heap.size W w')) (by kernel_rfl) (⟨fun w2 h2 => ⟨(HS1.out.below h2 HS1.out.lt).cell (i := 1) rfl, HIQ.out.below h2 (Nat.le_refl _), HIB.out _ h2⟩, fun w2 w3 h2 hb2 => h2.trans (hb2.mono h2.size)⟩) ((Below.refl _ _).drew) (fun hCalm => ?_)
    refine growF_take (by kernel_rfl) 0 (some 7) ?_ rfl rfl (by kernel_rfl) (fun _ _ _ h => h) (by kernel_rfl) hCalm ?_ ?_
    rotate_left
    · intro wS hS; (try dsimp only at hS); go_simp <;> with_reducible rfl
    try simp only [Act.put, List.setIfInBounds_toArray, List.set_cons_zero, List.set_cons_succ]
    refine growF_take (by kernel_rfl) 1 (some 8) ?_ rfl rfl (by kernel_rfl) (fun _ _ _ h => h) (by kernel_rfl) hCalm ?_ ?_
    rotate_left
    · intro wS hS; (try dsimp only at hS); go_simp <;> with_reducible rfl
    try simp only [Act.put, List.setIfInBounds_toArray, List.set_cons_zero, List.set_cons_succ]
    refine growF_take (by kernel_rfl) 2 (some 9) ?_ rfl rfl (by kernel_rfl) (fun _ _ _ h => h) (by kernel_rfl) hCalm ?_ ?_
    rotate_left
    · intro wS hS; (try dsimp only at hS); go_simp <;> with_reducible rfl
    try simp only [Act.put, List.setIfInBounds_toArray, List.set_cons_zero, List.set_cons_succ]
    refine growF_call (by kernel_rfl) 3 (some 10) (.int .i64 f) 63 [.tmp 8, .tmp 9] #[23, 23] rfl rfl (by kernel_rfl) (fun _ _ _ h => h) (by kernel_rfl) hCalm rfl (enters_of Tryd.func63 (by kernel_rfl) rfl) (fun wz hz => HDI.out wz hz.2.1 hz.2.2) (by kernel_rfl) ?_
    try simp only [Act.put, List.setIfInBounds_toArray, List.set_cons_zero, List.set_cons_succ]
    refine growF_take (by kernel_rfl) 4 (some 5) ?_ rfl rfl (by kernel_rfl) (fun _ _ _ h => h) (by kernel_rfl) hCalm ?_ ?_
    rotate_left
    · intro wS hS; (try dsimp only at hS); go_simp <;> with_reducible rfl
    try simp only [Act.put, List.setIfInBounds_toArray, List.set_cons_zero, List.set_cons_succ]
    refine growF_done (by kernel_rfl) (fun wA hA => ?_) _
    have hb := hA; clear hA hCalm
    obtain ⟨v0, hv0⟩ : ∃ x, x = wA := ⟨_, rfl⟩
    rw [← hv0] at hb ⊢
    clear hv0
    have NQ := Lib.hid (HQ1.out.below hb HQ1.out.lt); have NS := Lib.hid (HS1.out.below hb HS1.out.lt); have NB := Lib.hid (HB1.out.trans (hb.mono HB1.out.size))
    have NK := Lib.hid (fun B => keeps_of_below8 (B := B) hb); have NP := Lib.hid (KpQ.below (q := w.heap.size + 1) hb)
    clear hb
    have y0 := NQ.out.cell (i := 0) (v := .int .i64 s) rfl; have f0 := NQ.out.frozen 0
    by_cases h1 : s < 0
    case pos =>
      have hundef := un_none
      gi_wp2
      exact ⟨(NK.out _).trans ((KeepsOthers.setCell _ _ _).from _), NP.out.trans (KpQ.store _ _ _ _), ⟨by rw [HSN.out, if_pos (Or.inl h1)]; exact NQ.out.set 0 _, NS.out.far (p := ⟨w.heap.size + 1, 0, none⟩) (by show w.heap.size ≠ w.heap.size + 1; omega) _⟩, NB.out.setCell (p := ⟨w.heap.size + 1, 0, none⟩) (by show w.heap.size ≤ w.heap.size + 1; omega) _⟩
    case neg =>
      by_cases h2 : f < s
      case pos =>
        gi_wp2
        exact ⟨(NK.out _).trans ((KeepsOthers.setCell _ _ _).from _), NP.out.trans (KpQ.store _ _ _ _), ⟨by rw [HSN.out, if_pos (Or.inr h2)]; exact NQ.out.set 0 _, NS.out.far (p := ⟨w.heap.size + 1, 0, none⟩) (by show w.heap.size ≠ w.heap.size + 1; omega) _⟩, NB.out.setCell (p := ⟨w.heap.size + 1, 0, none⟩) (by show w.heap.size ≤ w.heap.size + 1; omega) _⟩
      case neg =>
        gi_wp2
        exact ⟨NK.out _, NP.out, ⟨by rw [HSN.out, if_neg (by omega)]; exact NQ.out, NS.out⟩, NB.out⟩
end Go.Proofs.YtmjcjaecaigahaaDoor
