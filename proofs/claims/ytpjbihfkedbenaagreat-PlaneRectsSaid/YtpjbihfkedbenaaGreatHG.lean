/- What edges returns hands on the edges of a polygon, in their order. Conditions: 1 to 40 places. | The contract of plane's Area2. Conditions: valid lists of places. -/
import Derived.RangeFuncNested
import Derived.RangeFuncBound
import Derived.RangeFuncCalls
import Derived.RangeFuncLeaves
import Derived.Shelf.Abstract
import Derived.Shelf.RegionOpen
import Derived.WalkKit
import Derived.OwnWalkIn
import Derived.TacticsInMore
import Derived.LoopNIn
import Derived.LoopIn
import Derived.Test.YtpjbihfkedbenaaGreatHA
import Derived.Test.YtpjbihfkedbenaaGreatHC
namespace Go.Proofs.YtpjbihfkedbenaaGreat
open Go.RowKit Go.Shelf Go.Lib
attribute [local go_sem] Oper.semAt_some
abbrev E7 := P7 × P7
abbrev encE7 (x : E7) : Array Value := #[.agg #[.int .i64 x.1.x, .int .i64 x.1.y], .agg #[.int .i64 x.2.x, .int .i64 x.2.y]]
def pAt (l : List P7) (i : Nat) : P7 := l.getD i ⟨0, 0⟩
theorem pAt_eq {l : List P7} {i : Nat} (h : i < l.length) : pAt l i = l[i] := by
 unfold pAt; rw [List.getD_eq_getElem?_getD, List.getElem?_eq_getElem h, Option.getD_some]
def egAt (l : List P7) (i : Nat) : E7 := (pAt l i, pAt l ((i + 1) % l.length))
def egs (l : List P7) (k : Nat) : List E7 := (List.range k).map (egAt l)
theorem egs_succ (l : List P7) (k : Nat) : egs l (k + 1) = egs l k ++ [egAt l k] := by simp [egs, List.range_succ]
abbrev EIn (l : List P7) := { e : E7 // e ∈ egs l l.length }
def vls7 {l : List P7} (xs : List (EIn l)) : List E7 := xs.map (·.1)
theorem vls7_snoc {l : List P7} (xs : List (EIn l)) (x : EIn l) : vls7 (xs ++ [x]) = vls7 xs ++ [x.1] := by simp [vls7]
theorem vls7_length {l : List P7} (xs : List (EIn l)) : (vls7 xs).length = xs.length := by simp [vls7]
abbrev encI {l : List P7} (x : EIn l) : Array Value := encE7 x.1
theorem egAt_mem {l : List P7} {k : Nat} (h : k < l.length) : egAt l k ∈ egs l l.length := List.mem_map.2 ⟨k, List.mem_range.2 h, rfl⟩
theorem egs_length (l : List P7) (k : Nat) : (egs l k).length = k := by simp [egs]
def EgC (W : World) (Bl : Nat) (l : List P7) (b o c : Nat) : Prop :=
 W.cell? ⟨Bl, 0, none⟩ = some (.slice (some ⟨b, o, none⟩) l.length c) ∧
 ∀ i, i < l.length -> W.cell? ⟨b, o + i * 2, none⟩ = some (.int .i64 (pAt l i).x) /\ W.cell? ⟨b, o + i * 2 + 1, none⟩ = some (.int .i64 (pAt l i).y)
def KpX (q n₀ : Nat) (W W' : World) : Prop := W.heap.size <= W'.heap.size /\ ∀ k, k < n₀ -> k ≠ q -> W'.heap[k]? = W.heap[k]?
theorem KpX.refl (q n₀ : Nat) (W : World) : KpX q n₀ W W := ⟨Nat.le_refl _, fun _ _ _ => rfl⟩
theorem KpX.trans {q n₀ : Nat} {A B C : World} (h : KpX q n₀ A B) (h2 : KpX q n₀ B C) : KpX q n₀ A C := ⟨Nat.le_trans h.1 h2.1, fun k hk hq => (h2.2 k hk hq).trans (h.2 k hk hq)⟩
theorem KpX.of_below {q n₀ B : Nat} {W W' : World} (h : Below B W W') (hn : n₀ <= B) : KpX q n₀ W W' := ⟨h.size, fun k hk _ => h.block k (by omega)⟩
theorem KpX.store (q n₀ : Nat) (W : World) (i : Nat) (v : Value) : KpX q n₀ W (W.setCell ⟨q, i, none⟩ v) := ⟨by simp [World.setCell], fun k _ hq => Below.heap_setCell W ⟨q, i, none⟩ v k hq⟩
theorem KpX.put {q n₀ : Nat} {w : World} (hn : n₀ <= w.heap.size) (W : World) (l : Nat) (o o' : Obj) (hl : w.heap.size <= l) (_ : W.heap[l]? = some o) (_ : o.isCells = false) (_ : o.isWalk = false) : KpX q n₀ W (W.putObj l o') := ⟨by simp, fun k hk _ => World.putObj_heap_other (by omega)⟩
theorem KpX.cell {q n₀ b : Nat} {W W' : World} (h : KpX q n₀ W W') (h1 : b < n₀ /\ b ≠ q) (i : Nat) : W'.cell? ⟨b, i, none⟩ = W.cell? ⟨b, i, none⟩ := World.cell?_of_block (a := ⟨b, i, none⟩) (h.2 b h1.1 h1.2)
theorem EgC.below {W W' : World} {q Bl b o c n₀ : Nat} {l : List P7} (h : EgC W Bl l b o c) (hb : KpX q n₀ W W') (h1 : Bl < n₀ /\ Bl ≠ q) (h3 : b < n₀ /\ b ≠ q) : EgC W' Bl l b o c := by
 refine ⟨(hb.cell h1 _).trans h.1, fun i hi => ?_⟩
 obtain ⟨k0, k1⟩ := h.2 i hi
 exact ⟨(hb.cell h3 _).trans k0, (hb.cell h3 _).trans k1⟩
theorem grown_of_below {W W' : World} (h : Below W.heap.size W W') : W.grownBy W' none := ⟨h.os, h.tape, h.output, h.size, fun k hk _ => h.block k hk⟩
set_option maxRecDepth 100000 in
set_option maxHeartbeats 8000000 in
theorem edges1_in (n lw q Bl n₀ b o c : Nat) (l : List P7) (hl : 1 <= l.length /\ l.length <= 40) (hBl : Bl < n₀ /\ Bl ≠ q) (hb : b < n₀ /\ b ≠ q) (J Jx : List (EIn l) -> World -> Prop) (hJ : ∀ s W W', J s W -> Below W.heap.size W W' -> J s W')
   (hY : ∀ pre x W, J pre W -> pre.length < l.length -> YieldAt Fence.wide (n - 1) Tryz.prog lw (encI x) W fun e W' =>
     (e = .returned (.bool true) /\ J (pre ++ [x]) W' /\ KpX q n₀ W W') ∨ (e = .returned (.bool false) /\ Jx (pre ++ [x]) W'))
   (W : World) (hn₀ : n₀ <= W.heap.size) (hC : EgC W Bl l b o c) (h0 : J [] W) :
   CallsIn Fence.wide n Tryz.prog 53 #[.func (.yield lw) #[] #[], .pointer (some ⟨Bl, 0, none⟩)] W fun e W' => (∃ v, e = .returned v) ∧
     ((∃ ys, vls7 ys = egs l l.length /\ J ys W') ∨ (∃ pre, (∃ k, k <= l.length /\ vls7 pre = egs l k) /\ Jx pre W')) := by
 have HC : Hid (∀ W', KpX q n₀ W W' -> EgC W' Bl l b o c) := Lib.hid (fun W' hb2 => hC.below hb2 hBl hb)
 have HN := Lib.hid hn₀
 have HL := Lib.hid hl
 have c1 := hC.1
 have hlw : l.length <= 40 := hl.2
 clear hC hn₀ hl
 refine callsIn_of_wp Tryz.func53 rfl trivial ?_ rfl
 simp only [Tryz.ntmps53, List.size_toArray, List.length_cons, List.length_nil, Nat.reduceAdd, Nat.reduceSub, Array.replicate_succ, Array.replicate_zero, List.push_toArray, List.append_toArray, List.nil_append, List.cons_append]
 gi_wp2
 clear c1
 gi_loopw [7] (fun i wr => ∃ (k : Nat) (pre : List (EIn l)), k <= l.length /\ i = .int .i64 k /\ vls7 pre = egs l k /\ J pre wr /\ KpX q n₀ W wr) (fun i _ => l.length - (intOf i).toNat)
 case atStart => exact ⟨0, [], Nat.zero_le _, rfl, rfl, h0, KpX.refl _ _ _⟩
 case round =>
   obtain ⟨k, pre, hk, rfl, hpre, hJs, hnx⟩ := hrel
   have HPR := Lib.hid hpre
   clear hpre
   by_cases hlt : k < l.length
   case neg =>
     obtain rfl : k = l.length := by omega
     gi_wp2
     go_end0
     exact ⟨⟨_, rfl⟩, .inl ⟨_, HPR.out, hJs⟩⟩
   case pos =>
     obtain ⟨k1, hk1⟩ : ∃ k1, k1 = k + 1 := ⟨_, rfl⟩
     obtain ⟨k2, hk2⟩ : ∃ k2, k2 = (k + 1) % l.length := ⟨_, rfl⟩
     have hl0 : 0 < l.length := by omega
     have hk2l : k2 < l.length := by rw [hk2]; exact Nat.mod_lt (k + 1) hl0
     obtain ⟨d, hd⟩ : ∃ d, d = pAt l k := ⟨_, rfl⟩
     obtain ⟨f, hf⟩ : ∃ f, f = pAt l k2 := ⟨_, rfl⟩
     have hx : egAt l k = (d, f) := by unfold egAt; rw [hd, hf, hk2]
     have hmem : (d, f) ∈ egs l l.length := by rw [<- hx]; exact egAt_mem hlt
     have hD := fun (W' : World) (hb2 : KpX q n₀ W W') => (HC.out W' hb2).2 k hlt
     have hF := fun (W' : World) (hb2 : KpX q n₀ W W') => (HC.out W' hb2).2 k2 hk2l
     rw [<- hd] at hD; rw [<- hf] at hF
     obtain ⟨z0, z1⟩ := hD wr hnx
     have HD := Lib.hid hD; have HF := Lib.hid hF; have HX := Lib.hid hx
     have ek : IntKind.i64.wrap ((k : Int) + 1) = (k1 : Int) := by rw [show (k1 : Int) = (k : Int) + 1 by omega]; exact IntWalk.i64_in _ (by omega)
     have em : (k1 : Int).tmod (l.length : Int) = (k2 : Int) := by rw [hk1, hk2]; rfl
     have ez : ¬ l.length = 0 := by omega
     have ez2 : ((l.length : Int) == 0) = false := by rw [beq_eq_false_iff_ne]; omega
     have ew : IntKind.i64.wrap (k2 : Int) = (k2 : Int) := IntWalk.i64_in _ (by omega)
     have q1 : (0 : Int) <= (k : Int) := by omega
     have q2 : (k : Int) < (l.length : Int) := by omega
     have q3 : (0 : Int) <= (k2 : Int) := by omega
     have q4 : (k2 : Int) < (l.length : Int) := by omega
     have HK : Hid (k1 <= l.length) := Lib.hid (by omega)
     have HK1 : Hid (k1 = k + 1) := Lib.hid hk1
     have HKN : Hid (pre.length < l.length) := Lib.hid (by rw [<- vls7_length, HPR.out, egs_length]; exact hlt)
     have HMM := Lib.hid hmem
     clear hmem
     have HNX := Lib.hid hnx
     have HBX := Lib.hid ((Below.refl wr.heap.size wr).alloc (Nat.le_refl _) (.cells #[.int .i64 d.x, .int .i64 d.y] 31))
     have HDB := Lib.hid (Blk.new wr 31 #[.int .i64 d.x, .int .i64 d.y])
     clear hD hF hd hf hx hk1 hk2 hk2l hlt hk hnx hl0
     gi_wp2_with fail
     clear z0 z1
     obtain ⟨wp, hwp⟩ : ∃ x, x = wr.alloc (.cells #[.int .i64 d.x, .int .i64 d.y] 31) := ⟨_, rfl⟩
     rw [<- hwp] at HBX HDB ⊢
     have HNP := Lib.hid (HNX.out.trans (KpX.of_below HBX.out (Nat.le_trans HN.out HNX.out.1)))
     have hJp := hJ _ _ _ hJs HBX.out
     clear hwp
     refine wpIn_region_grow (S := (fun w' => w'.cell? ⟨Bl, 0, none⟩ = some (.slice (some ⟨b, o, none⟩) l.length c) /\ w'.cell? ⟨wr.heap.size, 0, none⟩ = some (.int .i64 d.x) /\ w'.cell? ⟨wr.heap.size, 1, none⟩ = some (.int .i64 d.y) /\ w'.cell? ⟨b, o + k2 * 2, none⟩ = some (.int .i64 f.x) /\ w'.cell? ⟨b, o + k2 * 2 + 1, none⟩ = some (.int .i64 f.y))) (Z := (([10] : List Nat).contains ·)) (fun w' => Below wp.heap.size wp w') (by kernel_rfl) (⟨fun w2 h2 => ⟨(HC.out w2 (HNP.out.trans (KpX.of_below h2 (Nat.le_trans HN.out HNP.out.1)))).1, (HDB.out.below h2 HDB.out.lt).cell (i := 0) (v := .int .i64 d.x) rfl, (HDB.out.below h2 HDB.out.lt).cell (i := 1) (v := .int .i64 d.y) rfl, (HF.out w2 (HNP.out.trans (KpX.of_below h2 (Nat.le_trans HN.out HNP.out.1)))).1, (HF.out w2 (HNP.out.trans (KpX.of_below h2 (Nat.le_trans HN.out HNP.out.1)))).2⟩, fun w2 w3 h2 hb2 => h2.trans (hb2.mono h2.size)⟩) ((Below.refl _ _).drew) (fun hCalm => ?_)
     refine growI_take (t := [(10, [0, 1, 2, 3, 4, 5, 6, 7, 8, 9]), (4, [3]), (6, [5]), (7, [3, 4, 5, 6]), (8, [2, 3, 4, 5, 6, 7]), (9, [2, 3, 4, 5, 6, 7, 8])]) (es := [0, 1, 2, 3, 4, 5, 6, 7, 8, 9]) (zs := [10]) 0 (some 12) ?_ (by kernel_rfl) rfl rfl (by kernel_rfl) (fun _ _ _ h => h) (by kernel_rfl) hCalm ?_ ?_
     rotate_left
     · intro wS hS; (try dsimp only at hS); go_simp <;> with_reducible rfl
     try simp only [Act.put, q8a, q8b, q8c]
     refine growI_take (t := [(10, [0, 1, 2, 3, 4, 5, 6, 7, 8, 9]), (4, [3]), (6, [5]), (7, [3, 4, 5, 6]), (8, [2, 3, 4, 5, 6, 7]), (9, [2, 3, 4, 5, 6, 7, 8])]) (es := [0, 1, 2, 3, 4, 5, 6, 7, 8, 9]) (zs := [10]) 1 (some 13) ?_ (by kernel_rfl) rfl rfl (by kernel_rfl) (fun _ _ _ h => h) (by kernel_rfl) hCalm ?_ ?_
     rotate_left
     · intro wS hS; (try dsimp only at hS); go_simp <;> with_reducible rfl
     try simp only [Act.put, q8a, q8b, q8c]
     refine growI_take (t := [(10, [0, 1, 2, 3, 4, 5, 6, 7, 8, 9]), (4, [3]), (6, [5]), (7, [3, 4, 5, 6]), (8, [2, 3, 4, 5, 6, 7]), (9, [2, 3, 4, 5, 6, 7, 8])]) (es := [0, 1, 2, 3, 4, 5, 6, 7, 8, 9]) (zs := [10]) 2 (some 14) ?_ (by kernel_rfl) rfl rfl (by kernel_rfl) (fun _ _ _ h => h) (by kernel_rfl) hCalm ?_ ?_
     rotate_left
     · intro wS hS; (try dsimp only at hS); go_simp <;> with_reducible rfl
     try simp only [Act.put, q8a, q8b, q8c]
     refine growI_take (t := [(10, [0, 1, 2, 3, 4, 5, 6, 7, 8, 9]), (4, [3]), (6, [5]), (7, [3, 4, 5, 6]), (8, [2, 3, 4, 5, 6, 7]), (9, [2, 3, 4, 5, 6, 7, 8])]) (es := [0, 1, 2, 3, 4, 5, 6, 7, 8, 9]) (zs := [10]) 3 (some 15) ?_ (by kernel_rfl) rfl rfl (by kernel_rfl) (fun _ _ _ h => h) (by kernel_rfl) hCalm ?_ ?_
     rotate_left
     · intro wS hS; (try dsimp only at hS); go_simp <;> with_reducible rfl
     try simp only [Act.put, q8a, q8b, q8c]
     refine growI_take (t := [(10, [0, 1, 2, 3, 4, 5, 6, 7, 8, 9]), (4, [3]), (6, [5]), (7, [3, 4, 5, 6]), (8, [2, 3, 4, 5, 6, 7]), (9, [2, 3, 4, 5, 6, 7, 8])]) (es := [0, 1, 2, 3, 4, 5, 6, 7, 8, 9]) (zs := [10]) 4 (some 16) ?_ (by kernel_rfl) rfl rfl (by kernel_rfl) (fun _ _ _ h => h) (by kernel_rfl) hCalm ?_ ?_
     rotate_left
     · intro wS hS; (try dsimp only at hS); go_simp <;> with_reducible rfl
     try simp only [Act.put, q8a, q8b, q8c]
     refine growI_take (t := [(10, [0, 1, 2, 3, 4, 5, 6, 7, 8, 9]), (4, [3]), (6, [5]), (7, [3, 4, 5, 6]), (8, [2, 3, 4, 5, 6, 7]), (9, [2, 3, 4, 5, 6, 7, 8])]) (es := [0, 1, 2, 3, 4, 5, 6, 7, 8, 9]) (zs := [10]) 5 (some 17) ?_ (by kernel_rfl) rfl rfl (by kernel_rfl) (fun _ _ _ h => h) (by kernel_rfl) hCalm ?_ ?_
     rotate_left
     · intro wS hS; (try dsimp only at hS); go_simp <;> with_reducible rfl
     try simp only [Act.put, q8a, q8b, q8c]
     refine growI_take (t := [(10, [0, 1, 2, 3, 4, 5, 6, 7, 8, 9]), (4, [3]), (6, [5]), (7, [3, 4, 5, 6]), (8, [2, 3, 4, 5, 6, 7]), (9, [2, 3, 4, 5, 6, 7, 8])]) (es := [0, 1, 2, 3, 4, 5, 6, 7, 8, 9]) (zs := [10]) 6 (some 18) ?_ (by kernel_rfl) rfl rfl (by kernel_rfl) (fun _ _ _ h => h) (by kernel_rfl) hCalm ?_ ?_
     rotate_left
     · intro wS hS; (try dsimp only at hS); go_simp <;> with_reducible rfl
     try simp only [Act.put, q8a, q8b, q8c]
     refine growI_take (t := [(10, [0, 1, 2, 3, 4, 5, 6, 7, 8, 9]), (4, [3]), (6, [5]), (7, [3, 4, 5, 6]), (8, [2, 3, 4, 5, 6, 7]), (9, [2, 3, 4, 5, 6, 7, 8])]) (es := [0, 1, 2, 3, 4, 5, 6, 7, 8, 9]) (zs := [10]) 7 (some 19) ?_ (by kernel_rfl) rfl rfl (by kernel_rfl) (fun _ _ _ h => h) (by kernel_rfl) hCalm ?_ ?_
     rotate_left
     · intro wS hS; (try dsimp only at hS); go_simp <;> with_reducible rfl
     try simp only [Act.put, q8a, q8b, q8c]
     refine growI_take (t := [(10, [0, 1, 2, 3, 4, 5, 6, 7, 8, 9]), (4, [3]), (6, [5]), (7, [3, 4, 5, 6]), (8, [2, 3, 4, 5, 6, 7]), (9, [2, 3, 4, 5, 6, 7, 8])]) (es := [0, 1, 2, 3, 4, 5, 6, 7, 8, 9]) (zs := [10]) 8 (some 20) ?_ (by kernel_rfl) rfl rfl (by kernel_rfl) (fun _ _ _ h => h) (by kernel_rfl) hCalm ?_ ?_
     rotate_left
     · intro wS hS; (try dsimp only at hS); go_simp <;> with_reducible rfl
     try simp only [Act.put, q8a, q8b, q8c]
     refine growI_take (t := [(10, [0, 1, 2, 3, 4, 5, 6, 7, 8, 9]), (4, [3]), (6, [5]), (7, [3, 4, 5, 6]), (8, [2, 3, 4, 5, 6, 7]), (9, [2, 3, 4, 5, 6, 7, 8])]) (es := [0, 1, 2, 3, 4, 5, 6, 7, 8, 9]) (zs := [10]) 9 (some 21) ?_ (by kernel_rfl) rfl rfl (by kernel_rfl) (fun _ _ _ h => h) (by kernel_rfl) hCalm ?_ ?_
     rotate_left
     · intro wS hS; (try dsimp only at hS); go_simp <;> with_reducible rfl
     try simp only [Act.put, q8a, q8b, q8c]
     refine growI_late 10 rfl (by kernel_rfl) (by kernel_rfl) (by kernel_rfl) (fun wA hA K hK => ?_)
     obtain ⟨fn, tmps, assign, body, hy, hR⟩ := hY pre ⟨(d, f), HMM.out⟩ wA (hJ _ _ _ hJp hA) HKN.out
     dsimp only [encI, encE7] at hy
     go_simp
     refine ⟨fun h => (by cases h), hR.mono ?_⟩
     clear hR hy
     rintro e W3 (⟨rfl, hJ3, hk3⟩ | ⟨rfl, hJx3⟩)
     · refine hK.out _ _ ?_
       clear hK K
       try simp only [Act.put, q8a, q8b, q8c]
       refine growI_late 11 rfl (by kernel_rfl) (by kernel_rfl) (by kernel_rfl) (fun wB hB K hK => ?_)
       subst hB
       go_simp
       refine hK.out _ _ ?_
       clear hK K
       try simp only [Act.put, q8a, q8b, q8c]
       refine growI_done (by kernel_rfl) (fun wB hB => ?_) _
       subst hB
       gi_wp2
       go_roundw
       case rel => exact ⟨k1, _, HK.out, rfl, by rw [vls7_snoc, HPR.out, HK1.out, egs_succ, HX.out], hJ3, (HNP.out.trans (KpX.of_below hA (Nat.le_trans HN.out HNP.out.1))).trans hk3⟩
       case measure => have := HK.out; have := HK1.out; simp [intOf]; omega
     · refine hK.out _ _ ?_
       clear hK K
       try simp only [Act.put, q8a, q8b, q8c]
       refine growI_late 11 rfl (by kernel_rfl) (by kernel_rfl) (by kernel_rfl) (fun wB hB K hK => ?_)
       subst hB
       go_simp
       refine hK.out _ _ ?_
       clear hK K
       try simp only [Act.put, q8a, q8b, q8c]
       refine growI_done (by kernel_rfl) (fun wB hB => ?_) _
       subst hB
       gi_wp2
       refine bodyPost_ret (results_none rfl _ _ _) rfl ?_
       exact ⟨⟨_, rfl⟩, .inr ⟨_, ⟨k1, HK.out, by rw [vls7_snoc, HPR.out, HK1.out, egs_succ, HX.out]⟩, hJx3⟩⟩
theorem edges_stops (n q Bl b o c : Nat) (l : List P7) (hl : 1 <= l.length /\ l.length <= 40) (w : World) (n₀ : Nat) (hn : n₀ <= w.heap.size) (hBl : Bl < n₀ /\ Bl ≠ q) (hb : b < n₀ /\ b ≠ q) (hC : EgC w Bl l b o c) :
   SeqStopsK Fence.wide n Tryz.prog 53 #[.pointer (some ⟨Bl, 0, none⟩)] (encI (l := l)) (KpX q n₀) (fun ys => vls7 ys = egs l l.length) (fun pre => ∃ k, k <= l.length /\ vls7 pre = egs l k) l.length w := fun lw J Jx W hW hJ _ hY h0 =>
 edges1_in n lw q Bl n₀ b o c l hl hBl hb J Jx (fun s A B hs hb2 => hJ s A B none hs (grown_of_below hb2) (fun r e => by cases e)) hY W (Nat.le_trans hn hW.size) (hC.below (KpX.of_below hW hn) hBl hb) h0
set_option maxRecDepth 100000 in
set_option maxHeartbeats 8000000 in
theorem edges_in (n : Nat) (l : List P7) (A : Option Addr) (c : Nat) (w : World) :
   CallsIn Fence.wide n Tryz.prog 39 #[.slice A l.length c] w fun e w' => e = .returned (.func (.func 53) #[] #[.pointer (some ⟨w.heap.size, 0, none⟩)]) /\ w' = w.alloc (.cells #[.slice A l.length c] 24) := by
 refine callsIn_of_wp Tryz.func39 rfl trivial ?_ rfl
 simp only [Tryz.ntmps39, List.size_toArray, List.length_cons, List.length_nil, Nat.reduceAdd, Nat.reduceSub, Array.replicate_succ, Array.replicate_zero, List.push_toArray, List.append_toArray, List.nil_append, List.cons_append]
 gi_wp2
 go_ret
 exact ⟨rfl, rfl⟩
attribute [local go_sem] Oper.semAt_some
theorem blk_own {β : Type} (B : Nat) (t : TypeId) (f : β -> Array Value) : Own (fun (s : β) W => Blk W B t (f s)) := fun s X Y row hs hg hrow => hs.only hg (fun e => by
 obtain ⟨o, h1, h2⟩ := hrow B e.symm
 have h3 : X.heap[B]? = some (.cells (f s) t (0, 0)) := hs
 rw [h3, Option.some.injEq] at h1
 rw [<- h1] at h2
 cases h2)
theorem keeps_of_below {B : Nat} {W W' : World} (h : Below W.heap.size W W') : KeepsFrom B W W' := KeepsFrom.of_grownBy (grown_of_below h) (fun j e => by cases e)
theorem cell_lt {w : World} {g i : Nat} {v : Value} (h : w.cell? ⟨g, i, none⟩ = some v) : g < w.heap.size := by
 obtain ⟨o, h1, _⟩ := cells_of_cell h
 exact (Array.getElem?_eq_some_iff.1 h1).1
theorem cell_far {w : World} {g i : Nat} {v : Value} (h : w.cell? ⟨g, i, none⟩ = some v) {p : Addr} (hp : g ≠ p.block) (u : Value) : (w.setCell p u).cell? ⟨g, i, none⟩ = some v :=
 (World.cell?_of_block (a := ⟨g, i, none⟩) (Below.heap_setCell w p u g hp)).trans h
def ar2 (es : List E7) : Int := es.foldl (fun s e => s + crs7 e.1 e.2) 0
theorem ar2_snoc (es : List E7) (e : E7) : ar2 (es ++ [e]) = ar2 es + crs7 e.1 e.2 := by simp [ar2]
theorem pAt_ok {l : List P7} (h : ∀ p ∈ l, p.ok) {i : Nat} (hi : i < l.length) : (pAt l i).ok := by rw [pAt_eq hi]; exact h _ (List.getElem_mem hi)
theorem egs_ok {l : List P7} (h : ∀ p ∈ l, p.ok) {k : Nat} (hk : k <= l.length) : ∀ e ∈ egs l k, e.1.ok /\ e.2.ok := fun e he => by
 obtain ⟨i, hi, rfl⟩ := List.mem_map.1 he
 have := List.mem_range.1 hi
 exact ⟨pAt_ok h (by omega), pAt_ok h (Nat.mod_lt _ (by omega))⟩
theorem crs7_ok {a b : P7} (ha : a.ok) (hb : b.ok) : -40000000 <= crs7 a b /\ crs7 a b <= 40000000 := by
 have h0 : P7.ok ⟨0, 0⟩ := by unfold P7.ok; simp only; omega
 unfold P7.ok at ha hb
 have h1 := mul_small (m := 4095) (n := 4095) (a := a.x) (b := b.y) (by omega) (by omega)
 have h2 := mul_small (m := 4095) (n := 4095) (a := a.y) (b := b.x) (by omega) (by omega)
 unfold crs7; omega
theorem ar2_go : ∀ (es : List E7) (s : Int), (∀ e ∈ es, e.1.ok /\ e.2.ok) -> s - 40000000 * (es.length : Int) <= es.foldl (fun s e => s + crs7 e.1 e.2) s /\ es.foldl (fun s e => s + crs7 e.1 e.2) s <= s + 40000000 * (es.length : Int)
 | [], s, _ => by simp
 | e :: es, s, h => by
   have h1 := ar2_go es (s + crs7 e.1 e.2) (fun x hx => h x (List.mem_cons_of_mem _ hx))
   have h2 := crs7_ok (h e (by simp)).1 (h e (by simp)).2
   simp only [List.foldl_cons, List.length_cons] at h1 ⊢; omega
theorem ar2_small (es : List E7) (h : ∀ e ∈ es, e.1.ok /\ e.2.ok) : -40000000 * (es.length : Int) <= ar2 es /\ ar2 es <= 40000000 * (es.length : Int) := by
 have := ar2_go es 0 h; unfold ar2; omega
theorem vls7_ok {l : List P7} (h : ∀ p ∈ l, p.ok) (xs : List (EIn l)) : ∀ e ∈ vls7 xs, e.1.ok /\ e.2.ok := fun e he => by
 obtain ⟨x, _, rfl⟩ := List.mem_map.1 he
 exact egs_ok h (Nat.le_refl _) _ x.2
set_option maxRecDepth 100000 in
set_option maxHeartbeats 8000000 in
theorem parea_yes (l : List P7) (A : Option Addr) (c : Nat) (w : World) (hA : Pz w A l) (hl : Ls7 l) : Yl 19 #[.slice A l.length c] w (.tuple #[.int .i64 (ar2 (egs l l.length)), .int .i64 0]) := by
 obtain ⟨b, o, rfl⟩ := hA.some (by have := hl.1; omega)
 have HC := Lib.hid (islist_yes l _ c w hA hl)
 have hbw : b < w.heap.size := hA.here (i := 0) (by have := hl.1; omega)
 have HL := Lib.hid hl.1
 have HOK := Lib.hid hl.2
 have HCE : Hid (∀ W, Below w.heap.size w W -> ∀ i, i < l.length -> W.cell? ⟨b, o + i * 2, none⟩ = some (.int .i64 (pAt l i).x) /\ W.cell? ⟨b, o + i * 2 + 1, none⟩ = some (.int .i64 (pAt l i).y)) := Lib.hid (fun W hW i hi => by rw [pAt_eq hi]; exact Pz.cell hA hW (Nat.le_refl _) hi)
 have HSM : Hid (∀ pre : List (EIn l), pre.length <= l.length -> -2000000000 <= ar2 (vls7 pre) /\ ar2 (vls7 pre) <= 2000000000) := Lib.hid (fun pre hp => by
   have h := ar2_small (vls7 pre) (vls7_ok hl.2 pre)
   rw [vls7_length] at h
   have := hl.1; omega)
 clear hA hl
 refine (callsIn_wide (n := 8)).1 ?_
 refine callsIn_of_wp_marks Tryz.func19 rfl trivial ?_ rfl
 simp only [Tryz.ntmps19, List.size_toArray, List.length_cons, List.length_nil, Nat.reduceAdd, Nat.reduceSub, Array.replicate_succ, Array.replicate_zero, List.push_toArray, List.append_toArray, List.nil_append, List.cons_append]
 gi_wp2_with (refine ⟨trivial, ?_⟩; first | (gi_at_call 24; refine (callsIn_wide.2 HC.out).mono ?_; rintro e v0 ⟨rfl, hb⟩; have HB := Lib.hid hb; clear hb) | (gi_at_call 39; refine (edges_in _ l _ c _).mono ?_; rintro e w1 ⟨rfl, rfl⟩))
 have hb0 : Below v0.heap.size v0 ((v0.alloc (.cells #[.int .i64 0] 3)).alloc (.cells #[.slice (some ⟨b, o, none⟩) l.length c] 24)) := allocs_below [(#[.int .i64 0], 3), (#[.slice (some ⟨b, o, none⟩) l.length c], 24)] v0 (Below.refl _ _) (Nat.le_refl _)
 have hk0 : Blk ((v0.alloc (.cells #[.int .i64 0] 3)).alloc (.cells #[.slice (some ⟨b, o, none⟩) l.length c] 24)) (v0.heap.size) 3 #[.int .i64 0] := allocs_blk [(#[.int .i64 0], 3), (#[.slice (some ⟨b, o, none⟩) l.length c], 24)] v0 0 _ rfl
 have hk1 : Blk ((v0.alloc (.cells #[.int .i64 0] 3)).alloc (.cells #[.slice (some ⟨b, o, none⟩) l.length c] 24)) (v0.heap.size + 1) 24 #[.slice (some ⟨b, o, none⟩) l.length c] := allocs_blk [(#[.int .i64 0], 3), (#[.slice (some ⟨b, o, none⟩) l.length c], 24)] v0 1 _ rfl
 have hsz : ((v0.alloc (.cells #[.int .i64 0] 3)).alloc (.cells #[.slice (some ⟨b, o, none⟩) l.length c] 24)).heap.size = v0.heap.size + 2 := by simp
 obtain ⟨W0, hW0⟩ : ∃ W0, (v0.alloc (.cells #[.int .i64 0] 3)).alloc (.cells #[.slice (some ⟨b, o, none⟩) l.length c] 24) = W0 := ⟨_, rfl⟩
 rw [hW0] at hb0 hk0 hk1 hsz ⊢
 have hwv : w.heap.size <= v0.heap.size := HB.out.size
 have hbW : Below w.heap.size w W0 := HB.out.trans (hb0.mono HB.out.size)
 have hec : EgC W0 (v0.heap.size + 1) l b o c := ⟨hk1.cell (i := 0) rfl, HCE.out W0 hbW⟩
 clear hW0 hb0
 refine wpIn_rangeFunc_ownH rfl (by omega) (gf := 53) (lb := #[.pointer (some ⟨v0.heap.size + 1, 0, none⟩)]) rfl trivial (enters_of Tryz.func53 (by kernel_rfl) rfl)
   (edges_stops (8 - 1) v0.heap.size (v0.heap.size + 1) b o c l HL.out W0 (v0.heap.size + 2) (by omega) ⟨by omega, by omega⟩ ⟨by omega, by omega⟩ hec) (fun h k => h.trans k) (KpX.put (by omega)) (Below.refl _ _) (fun _ => rfl)
   (fun pre W => ((Blk W v0.heap.size 3 #[.int .i64 (ar2 (vls7 pre))] /\ W0.heap.size <= W.heap.size) /\ Below w.heap.size w W))
   (fun _ _ _ => False)
   (OwnFrom.and (OwnFrom.and (Own.from (blk_own _ _ _) _) (fun _ X Y row hs hg _ => Nat.le_trans hs hg.size)) (ownFrom_below (Nat.le_refl _) (by omega)))
   (fun _ _ _ _ _ hs _ _ => hs)
   ⟨⟨hk0, Nat.le_refl _⟩, hbW⟩
   (fun x a' W => ∃ Ba Bb, (v0.heap.size + 1 < Ba /\ v0.heap.size + 1 < Bb) /\ Blk W Ba 31 #[.int .i64 x.1.1.x, .int .i64 x.1.1.y] /\ Blk W Bb 31 #[.int .i64 x.1.2.x, .int .i64 x.1.2.y] /\ a' = { tmps := #[.slice (some ⟨b, o, none⟩) l.length c, undef, .int .i64 0, .int .i64 0, .pointer (some ⟨v0.heap.size, 0, none⟩), .pointer (some ⟨Ba, 0, none⟩), .pointer (some ⟨Bb, 0, none⟩), .slice (some ⟨b, o, none⟩) l.length c, .bool true, .bool false, .slice (some ⟨b, o, none⟩) l.length c, .func (.func 53) #[] #[.pointer (some ⟨v0.heap.size + 1, 0, none⟩)], .agg #[.int .i64 x.1.1.x, .int .i64 x.1.1.y], .agg #[.int .i64 x.1.2.x, .int .i64 x.1.2.y], undef, undef, undef, undef, undef, undef], defers := [] })
   (fun x a' _ X Y row hs hg hr => by
     obtain ⟨Ba, Bb, h1, h2, h3, h4⟩ := hs
     exact ⟨Ba, Bb, h1, blk_own Ba 31 (fun (_ : Unit) => #[.int .i64 x.1.1.x, .int .i64 x.1.1.y]) () X Y row h2 hg (fun r e => (hr r e).2), blk_own Bb 31 (fun (_ : Unit) => #[.int .i64 x.1.2.x, .int .i64 x.1.2.y]) () X Y row h3 hg (fun r e => (hr r e).2), h4⟩)
   ?assign ?body ?done ?stop
 case assign =>
   rintro l2 pre x W K ⟨⟨bR, hLW⟩, hB⟩ hK
   gi_wp2
   have hl3 : v0.heap.size + 2 <= W.heap.size := by omega
   exact hK _ _ (((KeepsOthers.alloc _ _).trans (KeepsOthers.alloc _ _)).from _) (KpX.of_below (((Below.refl _ W).alloc (Nat.le_refl _) _).alloc (by simp) _) hl3) ⟨⟨(bR.alloc _).alloc _, by simp; omega⟩, (hB.alloc hB.size _).alloc (by have := hB.size; simp; omega) _⟩ ⟨W.heap.size, W.heap.size + 1, ⟨by omega, by omega⟩, (Blk.new W _ _).alloc _, by have h := Blk.new (W.alloc (.cells #[.int .i64 x.1.1.x, .int .i64 x.1.1.y] 31)) 31 #[.int .i64 x.1.2.x, .int .i64 x.1.2.y]; rwa [World.size_alloc] at h, rfl⟩
 case done =>
   rintro D ys W hD hys ⟨⟨bR, hLW⟩, hB⟩ hK
   rw [hys] at bR
   have y0 := bR.cell (i := 0) (v := .int .i64 (ar2 (egs l l.length))) rfl
   gi_wp2
   refine ⟨by simp, .inl ⟨_, _, rfl, run_takeDeferred hK, ?_⟩⟩
   refine ⟨.tuple #[.int .i64 (ar2 (egs l l.length)), .int .i64 0], ?_, rfl, hB.trans (belowK_b (w := w) (Nat.le_refl _) W D _ _ (by omega) hK rfl rfl)⟩
   simp [results, Tryz.results19, go_sem]
 case stop =>
   rintro D c2 pre W _ _ h _
   exact h.elim
 case body =>
   rintro lq pre x a' W hlq ⟨r, hr⟩ ⟨⟨bR, hLW⟩, hB⟩ ⟨Ba, Bb, ⟨hBa, hBb⟩, kA, kB, rfl⟩ hlt
   have hok := egs_ok HOK.out (Nat.le_refl _) x.1 x.2
   have hs1 := HSM.out pre (Nat.le_of_lt hlt); have hs2 := HSM.out (pre ++ [x]) (by rw [List.length_append]; exact hlt)
   have hsn := ar2_snoc (vls7 pre) x.1
   rw [<- vls7_snoc] at hsn
   have HCR := Lib.hid (fun W => across_any x.1.1 x.1.2 W hok.1.sm hok.2.sm)
   obtain ⟨t, ht⟩ : ∃ t, t = crs7 x.1.1 x.1.2 := ⟨_, rfl⟩
   rw [<- ht] at hsn HCR
   obtain ⟨s, hs⟩ : ∃ s, s = ar2 (vls7 pre) := ⟨_, rfl⟩
   rw [<- hs] at hsn bR hs1
   obtain ⟨s2, hs2'⟩ : ∃ s2, s2 = ar2 (vls7 (pre ++ [x])) := ⟨_, rfl⟩
   rw [<- hs2'] at hsn hs2
   have e1 : IntKind.i64.wrap (s + t) = s2 := by rw [<- hsn]; exact IntWalk.i64_in _ (by omega)
   have HS2 : Hid (ar2 (vls7 (pre ++ [x])) = s2) := Lib.hid hs2'.symm
   have HB1 := Lib.hid hB; have HBR := Lib.hid bR; have HKA := Lib.hid kA; have HKB := Lib.hid kB; have HLW := Lib.hid hLW
   have hA1 : Ba ≠ v0.heap.size := by omega
   have hA2 : Bb ≠ v0.heap.size := by omega
   have HA1 := Lib.hid hA1; have HA2 := Lib.hid hA2; have HBA := Lib.hid hBa; have HBB := Lib.hid hBb
   have HWV := Lib.hid hwv; have HSZ := Lib.hid hsz
   clear hok hs1 hs2 hsn ht hs hs2' hlt hr hB bR kA kB hLW hBa hBb hec hk0 hk1 hbW hA1 hA2 hwv hsz hbw hlq r
   gi_wp2_with fail
   refine wpIn_region_growF (S := (fun w' => w'.cell? ⟨Ba, 0, none⟩ = some (.int .i64 x.1.1.x) /\ w'.cell? ⟨Ba, 1, none⟩ = some (.int .i64 x.1.1.y) /\ w'.cell? ⟨Bb, 0, none⟩ = some (.int .i64 x.1.2.x) /\ w'.cell? ⟨Bb, 1, none⟩ = some (.int .i64 x.1.2.y))) ((fun w' => Below W.heap.size W w' /\ Blk w' v0.heap.size 3 #[.int .i64 s])) (by kernel_rfl) (⟨fun w2 h2 => ⟨(HKA.out.below h2.1 HKA.out.lt).cell (i := 0) (v := .int .i64 x.1.1.x) rfl, (HKA.out.below h2.1 HKA.out.lt).cell (i := 1) (v := .int .i64 x.1.1.y) rfl, (HKB.out.below h2.1 HKB.out.lt).cell (i := 0) (v := .int .i64 x.1.2.x) rfl, (HKB.out.below h2.1 HKB.out.lt).cell (i := 1) (v := .int .i64 x.1.2.y) rfl⟩, fun w2 w3 h2 hb2 => ⟨h2.1.trans (hb2.mono h2.1.size), h2.2.below hb2 h2.2.lt⟩⟩) (⟨(Below.refl _ _).drew, HBR.out.drew⟩) (fun hCalm => ?_)
   refine growF_take (by kernel_rfl) 1 (some 15) ?_ rfl rfl (by kernel_rfl) (fun _ _ _ h => h) (by kernel_rfl) hCalm ?_ ?_
   rotate_left
   · intro wS hS; (try dsimp only at hS); go_simp <;> with_reducible rfl
   try simp only [Act.put, q8a, q8b, q8c]
   refine growF_take (by kernel_rfl) 2 (some 16) ?_ rfl rfl (by kernel_rfl) (fun _ _ _ h => h) (by kernel_rfl) hCalm ?_ ?_
   rotate_left
   · intro wS hS; (try dsimp only at hS); go_simp <;> with_reducible rfl
   try simp only [Act.put, q8a, q8b, q8c]
   refine growF_call (by kernel_rfl) 3 (some 17) (.int .i64 t) 28 [.tmp 15, .tmp 16] #[31, 31] rfl rfl (by kernel_rfl) (fun _ _ _ h => h) (by kernel_rfl) hCalm rfl (enters_of Tryz.func28 (by kernel_rfl) rfl) (fun wz _ => HCR.out wz) (by kernel_rfl) ?_
   try simp only [Act.put, q8a, q8b, q8c]
   refine growF_each [0] (by kernel_rfl) (by decide) ?_
   refine growF_cons 0 rfl (by kernel_rfl) (fun wA hA K hK => ?_) growF_nil
   have z0 := hA.2.cell (i := 0) (v := .int .i64 s) rfl
   go_simp
   refine hK.out _ _ (fun w' => Below W.heap.size W w' /\ Blk w' v0.heap.size 3 #[.int .i64 s]) (⟨fun w2 h2 => ⟨(HKA.out.below h2.1 HKA.out.lt).cell (i := 0) (v := .int .i64 x.1.1.x) rfl, (HKA.out.below h2.1 HKA.out.lt).cell (i := 1) (v := .int .i64 x.1.1.y) rfl, (HKB.out.below h2.1 HKB.out.lt).cell (i := 0) (v := .int .i64 x.1.2.x) rfl, (HKB.out.below h2.1 HKB.out.lt).cell (i := 1) (v := .int .i64 x.1.2.y) rfl⟩, fun w2 w3 h2 hb2 => ⟨h2.1.trans (hb2.mono h2.1.size), h2.2.below hb2 h2.2.lt⟩⟩) hA ?_
   clear z0 hK K hA wA hCalm
   have hCalm : Calm (fun w' => w'.cell? ⟨Ba, 0, none⟩ = some (.int .i64 x.1.1.x) /\ w'.cell? ⟨Ba, 1, none⟩ = some (.int .i64 x.1.1.y) /\ w'.cell? ⟨Bb, 0, none⟩ = some (.int .i64 x.1.2.x) /\ w'.cell? ⟨Bb, 1, none⟩ = some (.int .i64 x.1.2.y)) (fun w' => Below W.heap.size W w' /\ Blk w' v0.heap.size 3 #[.int .i64 s]) := ⟨fun w2 h2 => ⟨(HKA.out.below h2.1 HKA.out.lt).cell (i := 0) (v := .int .i64 x.1.1.x) rfl, (HKA.out.below h2.1 HKA.out.lt).cell (i := 1) (v := .int .i64 x.1.1.y) rfl, (HKB.out.below h2.1 HKB.out.lt).cell (i := 0) (v := .int .i64 x.1.2.x) rfl, (HKB.out.below h2.1 HKB.out.lt).cell (i := 1) (v := .int .i64 x.1.2.y) rfl⟩, fun w2 w3 h2 hb2 => ⟨h2.1.trans (hb2.mono h2.1.size), h2.2.below hb2 h2.2.lt⟩⟩
   try simp only [Act.put, q8a, q8b, q8c]
   refine growF_take (by kernel_rfl) 4 (some 18) ?_ rfl rfl (by kernel_rfl) (fun _ _ _ h => h) (by kernel_rfl) hCalm ?_ ?_
   rotate_left
   · intro wS hS; (try dsimp only at hS); go_simp <;> with_reducible rfl
   try simp only [Act.put, q8a, q8b, q8c]
   refine growF_each [5] (by kernel_rfl) (by decide) ?_
   refine growF_cons 5 rfl (by kernel_rfl) (fun wA hA K hK => ?_) growF_nil
   have z0 := hA.2.cell (i := 0) (v := .int .i64 s) rfl; have f0 := hA.2.frozen 0
   go_simp
   refine hK.out _ _ (fun w' => (KpX (v0.heap.size) (v0.heap.size + 2) W w' /\ KeepsFrom W0.heap.size W w') /\ (Blk w' v0.heap.size 3 #[.int .i64 s2] /\ Below w.heap.size w w') /\ w'.cell? ⟨Ba, 0, none⟩ = some (.int .i64 x.1.1.x) /\ w'.cell? ⟨Ba, 1, none⟩ = some (.int .i64 x.1.1.y) /\ w'.cell? ⟨Bb, 0, none⟩ = some (.int .i64 x.1.2.x) /\ w'.cell? ⟨Bb, 1, none⟩ = some (.int .i64 x.1.2.y)) (⟨fun w2 h2 => h2.2.2, fun w2 w3 h2 hb2 => ⟨⟨h2.1.1.trans (KpX.of_below hb2 (Nat.le_trans (by have := HLW.out; have := HSZ.out; omega) h2.1.1.1)), h2.1.2.trans (keeps_of_below hb2)⟩, ⟨h2.2.1.1.below hb2 h2.2.1.1.lt, h2.2.1.2.trans (hb2.mono h2.2.1.2.size)⟩, ⟨(World.cell?_of_block (hb2.block _ (cell_lt (h2.2.2.1)))).trans (h2.2.2.1), (World.cell?_of_block (hb2.block _ (cell_lt (h2.2.2.2.1)))).trans (h2.2.2.2.1), (World.cell?_of_block (hb2.block _ (cell_lt (h2.2.2.2.2.1)))).trans (h2.2.2.2.2.1), (World.cell?_of_block (hb2.block _ (cell_lt (h2.2.2.2.2.2)))).trans (h2.2.2.2.2.2)⟩⟩⟩) ⟨⟨((KpX.of_below hA.1 ((by have := HLW.out; have := HSZ.out; omega))).trans (KpX.store _ _ _ _ _)), ((keeps_of_below hA.1).trans ((KeepsOthers.setCell _ _ _).from _))⟩, ⟨(hA.2.set 0 _), ((HB1.out.trans (hA.1.mono HB1.out.size)).setCell (p := ⟨v0.heap.size, 0, none⟩) HWV.out _)⟩, ⟨(cell_far ((HKA.out.below hA.1 HKA.out.lt).cell (i := 0) (v := .int .i64 x.1.1.x) rfl) (p := ⟨v0.heap.size, 0, none⟩) (by first | exact HA1.out | exact HA2.out) _), (cell_far ((HKA.out.below hA.1 HKA.out.lt).cell (i := 1) (v := .int .i64 x.1.1.y) rfl) (p := ⟨v0.heap.size, 0, none⟩) (by first | exact HA1.out | exact HA2.out) _), (cell_far ((HKB.out.below hA.1 HKB.out.lt).cell (i := 0) (v := .int .i64 x.1.2.x) rfl) (p := ⟨v0.heap.size, 0, none⟩) (by first | exact HA1.out | exact HA2.out) _), (cell_far ((HKB.out.below hA.1 HKB.out.lt).cell (i := 1) (v := .int .i64 x.1.2.y) rfl) (p := ⟨v0.heap.size, 0, none⟩) (by first | exact HA1.out | exact HA2.out) _)⟩⟩ ?_
   clear z0 f0 hK K hA wA hCalm
   have hCalm : Calm (fun w' => w'.cell? ⟨Ba, 0, none⟩ = some (.int .i64 x.1.1.x) /\ w'.cell? ⟨Ba, 1, none⟩ = some (.int .i64 x.1.1.y) /\ w'.cell? ⟨Bb, 0, none⟩ = some (.int .i64 x.1.2.x) /\ w'.cell? ⟨Bb, 1, none⟩ = some (.int .i64 x.1.2.y)) (fun w' => (KpX (v0.heap.size) (v0.heap.size + 2) W w' /\ KeepsFrom W0.heap.size W w') /\ (Blk w' v0.heap.size 3 #[.int .i64 s2] /\ Below w.heap.size w w') /\ w'.cell? ⟨Ba, 0, none⟩ = some (.int .i64 x.1.1.x) /\ w'.cell? ⟨Ba, 1, none⟩ = some (.int .i64 x.1.1.y) /\ w'.cell? ⟨Bb, 0, none⟩ = some (.int .i64 x.1.2.x) /\ w'.cell? ⟨Bb, 1, none⟩ = some (.int .i64 x.1.2.y)) := ⟨fun w2 h2 => h2.2.2, fun w2 w3 h2 hb2 => ⟨⟨h2.1.1.trans (KpX.of_below hb2 (Nat.le_trans (by have := HLW.out; have := HSZ.out; omega) h2.1.1.1)), h2.1.2.trans (keeps_of_below hb2)⟩, ⟨h2.2.1.1.below hb2 h2.2.1.1.lt, h2.2.1.2.trans (hb2.mono h2.2.1.2.size)⟩, ⟨(World.cell?_of_block (hb2.block _ (cell_lt (h2.2.2.1)))).trans (h2.2.2.1), (World.cell?_of_block (hb2.block _ (cell_lt (h2.2.2.2.1)))).trans (h2.2.2.2.1), (World.cell?_of_block (hb2.block _ (cell_lt (h2.2.2.2.2.1)))).trans (h2.2.2.2.2.1), (World.cell?_of_block (hb2.block _ (cell_lt (h2.2.2.2.2.2)))).trans (h2.2.2.2.2.2)⟩⟩⟩
   try simp only [Act.put]
   refine growF_done (by kernel_rfl) (fun wA hA => ?_) _
   have hk1 := hA.1.1; have hk2 := hA.1.2; have hk3 := hA.2.1.1; have hk4 := hA.2.1.2
   gi_wp2
   exact ⟨hk2, hk1, ⟨by rw [HS2.out]; exact hk3, Nat.le_trans HLW.out hk1.1⟩, hk4⟩
end Go.Proofs.YtpjbihfkedbenaaGreat
