/- The contracts of carried and of what it folds by. Conditions: the columns are a block of the call's own, known whole; no column is beyond 10^15 in size; their number is not negative, and needs no more groups than there are columns. -/
import Derived.Test.YtgpppjfgdbloiaaTrim
namespace Go.Proofs.Ytgpppjfgdbloiaa
open Go.RowKit Go.Lib

/-- A group has been laid, and the next carry has been returned. -/
def Laid (B g bx j k : Nat) (L : List Int) (s : Int) (w : World) (e : Ending) (w' : World) : Prop :=
  e = .returned (.int .i64 (s / 10000)) ∧ Blk w' g 3 ((L.set j (s % 10000)).map iv).toArray ∧ Blk w' bx 44 #[.slice (some ⟨g, 0, none⟩) (j + 1) k] ∧ Below B w w'

set_option maxRecDepth 100000 in
theorem carry_step (B g bx j k : Nat) (L : List Int) (x y : Int) (w : World) (hg : Blk w g 3 (L.map iv).toArray) (hb : Blk w bx 44 #[.slice (some ⟨g, 0, none⟩) j k])
    (hL : L.length = k) (hj : j < k) (_ : k ≤ 3000) (hx : -2000000000000000 ≤ x ∧ x ≤ 2000000000000000) (hy : -2000000000000000 ≤ y ∧ y ≤ 2000000000000000) (hBg : B ≤ g) (hBb : B ≤ bx) (hB : B ≤ w.heap.size) :
    Calls Try.prog 79 #[.int .i64 x, .int .i64 y, .pointer (some ⟨bx, 0, none⟩)] w (Laid B g bx j k L (x + y) w) := by
  have c0 := hb.cell (i := 0) (v := .slice (some ⟨g, 0, none⟩) j k) rfl
  have f0 := hb.frozen 0
  have hne : g ≠ bx := by
    intro e; subst e
    have h1 : Blk w g 44 _ := hb
    unfold Blk at h1 hg
    rw [hg] at h1
    simp at h1
  have r1 := rem_group (x + y)
  have r2 := quo_group (x + y)
  have q0 : 0 ≤ (x + y) % 10000 := Int.emod_nonneg _ (by omega)
  have q1 : (x + y) % 10000 < 10000 := Int.emod_lt_of_pos _ (by omega)
  have q2 : -9999 ≤ (x + y).tmod 10000 := by
    rcases Int.le_total 0 (x + y) with h | h
    · rw [Int.tmod_eq_emod_of_nonneg h]; omega
    · have h1 : (x + y).tmod 10000 = -((-(x + y)) % 10000) := by rw [← Int.tmod_eq_emod_of_nonneg (show 0 ≤ -(x + y) by omega), Int.neg_tmod, Int.neg_neg]
      rw [h1]; omega
  have q3 : (x + y).tmod 10000 ≤ 9999 := by
    rcases Int.le_total 0 (x + y) with h | h
    · rw [Int.tmod_eq_emod_of_nonneg h]; omega
    · have h1 : (x + y).tmod 10000 = -((-(x + y)) % 10000) := by rw [← Int.tmod_eq_emod_of_nonneg (show 0 ≤ -(x + y) by omega), Int.neg_tmod, Int.neg_neg]
      rw [h1]; omega
  have HG := Lib.hid hg; have HB := Lib.hid hb; have HL := Lib.hid hL
  clear hg hb hL
  go_enter Try.func79, Try.ntmps79
  go_wp2_with (at_builtin; go_loud (refine wpList_append_room rfl _ _ 44 rfl Try.underlying44 g j k ((L.map iv).toArray) rfl (HG.out.alloc _) ⟨w.heap.size, 0, none⟩ (.int .i64 ((x + y) % 10000)) rfl (World.cell?_alloc_at _ _ _ _ rfl) rfl (by omega) (by simp [HL.out]; omega) ?_; intro w1 hw1; have hG1 : Blk w1 g 3 ((L.set j ((x + y) % 10000)).map iv).toArray := (by rw [hw1, ← iv_set]; exact (HG.out.alloc _).setRow _); have hB1 : Blk w1 bx 44 #[.slice (some ⟨g, 0, none⟩) j k] := (by rw [hw1]; exact (HB.out.alloc _).farRow (Ne.symm hne) _); have f1 := hB1.frozen 0; have c1 := hB1.cell (i := 0) (v := .slice (some ⟨g, 0, none⟩) j k) rfl; have hb1 : Below B w w1 := (by rw [hw1]; exact below_setRow ((Below.refl B w).alloc hB _) hBg _); have HG1 := Lib.hid hG1; have HB1 := Lib.hid hB1; clear hw1 hG1 hB1))
  go_ret
  exact ⟨rfl, HG1.out.far hne _, HB1.out.set 0 _, hb1.setCell hBb _⟩

theorem carry_row {V j : Nat} {L : List Int} (h : j < L.length) : ((grps V j ++ L.drop j).set j (dg4 V j : Int)) = grps V (j + 1) ++ L.drop (j + 1) := by
  rw [List.set_append_right _ _ (by rw [grps_length]; exact Nat.le_refl _), grps_length, Nat.sub_self, ← List.getElem_cons_drop (h := h), List.set_cons_zero, grps_succ, List.append_assoc]
  rfl
theorem carry_at {V j : Nat} {L : List Int} (h : j < L.length) : (grps V j ++ L.drop j)[j]'(by rw [List.length_append, grps_length, List.length_drop]; omega) = L[j] := by
  rw [List.getElem_append_right (by rw [grps_length]; exact Nat.le_refl _)]
  simp [grps_length]

set_option maxRecDepth 100000 in
theorem carry_fold (B g bx k V : Nat) (L : List Int) (w : World) (hg : Blk w g 3 (L.map iv).toArray) (hb : Blk w bx 44 #[.slice (some ⟨g, 0, none⟩) 0 k])
    (hL : L.length = k) (hk : k ≤ 3000) (hV : colv L = V) (hc : ∀ c ∈ L, -1000000000000000 ≤ c ∧ c ≤ 1000000000000000) (hBg : B ≤ g) (hBb : B ≤ bx) (hB : B ≤ w.heap.size) :
    Calls Try.prog 78 #[.slice (some ⟨g, 0, none⟩) k k, .int .i64 0, .func (.func 79) #[] #[.pointer (some ⟨bx, 0, none⟩)]] w
      fun e w' => (∃ v, e = .returned v) ∧ Blk w' g 3 ((grps V k).map iv).toArray ∧ Blk w' bx 44 #[.slice (some ⟨g, 0, none⟩) k k] ∧ Below B w w' := by
  have HG := Lib.hid hg; have HB := Lib.hid hb; have HL := Lib.hid hL; have HV := Lib.hid hV; have HC := Lib.hid hc
  clear hg hb hL hV hc
  go_enter Try.func78, Try.ntmps78
  go_wp2
  go_loopw [7, 13] (fun s ii wr => ∃ j : Nat, ii = .int .i64 j ∧ j ≤ k ∧ s = .int .i64 (cry L j) ∧ Blk wr g 3 ((grps V j ++ L.drop j).map iv).toArray ∧ Blk wr bx 44 #[.slice (some ⟨g, 0, none⟩) j k] ∧ Below B w wr) (fun _ ii _ => k - (intOf ii).toNat)
  case atStart => exact ⟨0, rfl, Nat.zero_le _, (by rw [cry_zero]), HG.out, HB.out, Below.refl _ _⟩
  case round =>
    obtain ⟨j, rfl, hj, rfl, hG, hB2, hbl⟩ := hrel
    by_cases hlt : j < k
    · have hjl : j < L.length := by rw [HL.out]; exact hlt
      have hlen : (grps V j ++ L.drop j).length = k := by rw [List.length_append, grps_length, List.length_drop, HL.out]; omega
      have c0 := hG.cell (iv_at (i := j) (by rw [hlen]; exact hlt))
      rw [carry_at hjl] at c0
      have hs1 := hbl.size
      have hy := HC.out L[j] (List.getElem_mem _)
      have hx := cry_bound HC.out j (by omega)
      have e1 := cry_succ L j hjl
      have e2 := cry_group HV.out j hjl
      obtain ⟨y, hy2⟩ : ∃ y, y = L[j] := ⟨_, rfl⟩
      rw [← hy2] at c0 hy e1 e2
      obtain ⟨x, hx2⟩ : ∃ x, x = cry L j := ⟨_, rfl⟩
      rw [← hx2] at hx e1 e2 ⊢
      have hst := fun w2 (h2 : Below wr.heap.size wr w2) => carry_step B g bx j k (grps V j ++ L.drop j) x y w2
      have HST := carry_step B g bx j k (grps V j ++ L.drop j) x y wr hG hB2 hlen hlt hk (by omega) (by omega) hBg hBb (by omega)
      have HE1 := Lib.hid e1; have HE2 := Lib.hid e2; have HS := Lib.hid HST
      rw [iv] at c0
      have q1 : (0 : Int) ≤ (j : Int) := by omega
      have q2 : (j : Int) < (k : Int) := by omega
      clear e1 e2 HST hst hlen hG hB2 hx2 hy2
      go_wp2_with (go_at_call 79; refine HS.out.mono ?_; rintro e w1 ⟨rfl, hG1, hB1, hbl1⟩; rw [HE2.out, carry_row hjl] at hG1; rw [← HE1.out])
      go_roundw
      case rel => exact ⟨j + 1, by go_num, by omega, rfl, hG1, hB1, hbl.trans hbl1⟩
      case measure => simp [intOf]; omega
    · obtain rfl : j = k := by omega
      rw [List.drop_of_length_le (by rw [HL.out]; omega), List.append_nil] at hG
      go_wp2
      go_ret
      exact ⟨⟨_, rfl⟩, hG, hB2, hbl⟩

/-- The columns have been carried: a number in their place. -/
def OutC (B g V k : Nat) (w : World) (e : Ending) (w' : World) : Prop := e = .returned (.slice (some ⟨g, 0, none⟩) (glen V) k) ∧ Am w' (some ⟨g, 0, none⟩) (glen V) k V ∧ Below B w w'

set_option maxRecDepth 100000 in
theorem carried_any (B g k V : Nat) (L : List Int) (w : World) (hg : Blk w g 3 (L.map iv).toArray) (hL : L.length = k) (hk : k ≤ 3000) (hV : colv L = V) (hV2 : V < 10000 ^ k)
    (hc : ∀ c ∈ L, -1000000000000000 ≤ c ∧ c ≤ 1000000000000000) (hBg : B ≤ g) :
    Calls Try.prog 74 #[.slice (some ⟨g, 0, none⟩) k k] w (OutC B g V k w) := by
  have hs := run_upto 44 Try.underlying44 g 0 k k 0 (Nat.zero_le _)
  have hB : B ≤ w.heap.size := Nat.le_trans hBg (Nat.le_of_lt hg.lt)
  have hf : ∀ (o : Obj), o = .cells #[.slice (some ⟨g, 0, none⟩) 0 k] 44 → Hid (Calls Try.prog 78 #[.slice (some ⟨g, 0, none⟩) k k, .int .i64 0, .func (.func 79) #[] #[.pointer (some ⟨w.heap.size, 0, none⟩)]] (w.alloc o)
      fun e w' => (∃ v, e = .returned v) ∧ Blk w' g 3 ((grps V k).map iv).toArray ∧ Blk w' w.heap.size 44 #[.slice (some ⟨g, 0, none⟩) k k] ∧ Below B (w.alloc o) w') := by
    rintro o rfl
    exact carry_fold B g w.heap.size k V L _ (hg.alloc _) (Blk.new w _ _) hL hk hV hc hBg hB (by simp; omega)
  have HF := hf _ rfl
  have HV2 := Lib.hid hV2
  have hmf : ∀ (fn : Fn) (first cap : Array Value) (w : World), (Instr.makeFunc fn first cap).run Try.prog w = .ok (.func fn first cap) w := fun _ _ _ _ => rfl
  clear hf hg hL hV hc hV2
  rw [show ((0 : Nat) : Int) = 0 from rfl] at hs
  go_enter Try.func74, Try.ntmps74
  go_wp2_with fail
  refine HF.out.mono ?_
  rintro e w1 ⟨⟨v, rfl⟩, hG, hB1, hbl⟩
  have c0 := hB1.cell (i := 0) (v := .slice (some ⟨g, 0, none⟩) k k) rfl
  have hA : Am w1 (some ⟨g, 0, none⟩) k k V := by
    have := Am.of_blk hG (L := grps V k) (by rw [grps_length])
    rw [grps_length] at this; exact this
  have HA := Lib.hid hA; have HBL := Lib.hid hbl
  clear hA hG hB1 hbl
  go_wp2_with (go_at_call 71; refine (trimmed_any _ k k V _ HA.out HV2.out hk).mono ?_; rintro e w2 ⟨rfl, rfl⟩)
  go_ret
  exact ⟨rfl, HA.out.less (glen_le.2 HV2.out), ((Below.refl B w).alloc hB _).trans HBL.out⟩
end Go.Proofs.Ytgpppjfgdbloiaa
