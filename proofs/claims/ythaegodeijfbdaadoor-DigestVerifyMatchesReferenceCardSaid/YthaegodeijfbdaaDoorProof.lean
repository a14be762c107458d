/- The contracts of proofOf and Proof. Conditions: the slice reads, has at most 2^40 strings, each not longer than 2^50 bytes; the table holds what its text says. -/
import Derived.Test.YthaegodeijfbdaaDoorStep
namespace Go.Proofs.YthaegodeijfbdaaDoor
open Go.RowKit Go.Lib

theorem info_str : (Tryd.prog.info? 9).map (fun i => (i.zero, i.size, i.bytes)) = some (some (.string ⟨#[]⟩), 1, 16) := by kernel_rfl
/-- A list that the call itself has made. -/
def OwnOut (w : World) (P : List ByteArray) (e : Ending) (w' : World) : Prop := ∃ v, e = .returned v ∧ w'.ownsRow w.heap.size 9 1 v P.length (P.map sv) ∧ Below w.heap.size w w'
/-- .. in blocks from B on. -/
def OwnIn (B : Nat) (w : World) (P : List ByteArray) (e : Ending) (w' : World) : Prop := ∃ v, e = .returned v ∧ w'.ownsRow B 9 1 v P.length (P.map sv) ∧ Below w.heap.size w w'
theorem own_snoc {w : World} {base e : Nat} {v : Value} {P : List ByteArray} {x : ByteArray} (h : w.ownsRow base e 1 v (P.length + 1) (P.map sv ++ [sv x])) : w.ownsRow base e 1 v (P ++ [x]).length ((P ++ [x]).map sv) := by
  rw [List.length_append, List.map_append]; exact h
theorem own_more {w : World} {base base' e n : Nat} {v : Value} {xs : List Value} (h : w.ownsRow base e 1 v n xs) (hb : base' ≤ base) : w.ownsRow base' e 1 v n xs :=
  ⟨h.1, h.2.imp id fun ⟨g, cap, cur, a, b, r⟩ => ⟨g, cap, cur, a, Nat.le_trans hb b, r⟩⟩
theorem OwnOut.in_ {w w' : World} {P : List ByteArray} {e : Ending} {B : Nat} (hB : B ≤ w.heap.size) (h : OwnOut w P e w') : OwnIn B w P e w' := by
  obtain ⟨v, he, ho, hb⟩ := h
  exact ⟨v, he, own_more ho hB, hb⟩
theorem own_below {w w' : World} {base e n B : Nat} {v : Value} {xs : List Value} (h : w.ownsRow base e 1 v n xs) (hb : Below B w w') (hB : w.heap.size ≤ B) : w'.ownsRow base e 1 v n xs := by
  refine ⟨h.1, h.2.imp id fun ⟨g, cap, cur, a, b, hg, r⟩ => ⟨g, cap, cur, a, b, ?_, r⟩⟩
  rw [hb.block g (Nat.lt_of_lt_of_le (Array.getElem?_eq_some_iff.1 hg).1 hB)]; exact hg

set_option maxRecDepth 100000 in
set_option maxHeartbeats 1000000 in
theorem proofOf_any (N : Nat) : ∀ (L : List ByteArray) (A : Option Addr) (n c B i : Nat) (w : World), L.length ≤ N → Rd w B A n c L → B ≤ w.heap.size → n ≤ 1099511627776 → i < n → (∀ s ∈ L, Small s) → Tab w →
    Calls Tryd.prog 31 #[.slice A n c, .int .i64 i] w (OwnOut w (proofB L i)) := by
  induction N with
  | zero => intro L A n c B i w hN hR hB hn hi hs hT; have := hR.1; omega
  | succ N ih =>
    intro L A n c B i w hN hR hB hn hi hs hT
    obtain ⟨b, o, rfl, hb, hcell⟩ := hR.2.2 (by omega)
    have hl := hR.1
    by_cases h1 : n = 1
    · have HP : Hid (proofB L i = []) := proofB_one (by omega)
      subst h1
      clear hR hs hT hcell hl hN ih
      go_enter Tryd.func31, Tryd.ntmps31
      go_wp2
      go_ret
      exact ⟨_, rfl, by rw [HP.out]; exact World.ownsRow_nil _ _ _ _, Below.refl _ _⟩
    · have hk := spl_lt (n := n) (by omega)
      have hp := spl_pos n
      have HCS := Lib.hid fun w => split_any n w (by omega) (by omega)
      obtain ⟨k, hke⟩ : ∃ k, k = spl n := ⟨_, rfl⟩
      have HKE : Hid (k = spl L.length) := by show _ = _; rw [← hl]; exact hke
      rw [← hke] at hk hp HCS
      have hs1 := run_slice_to 26 9 b o n c k Tryd.underlying26 infoStr (by omega) hR.2.1
      have hs2 := run_slice_from 26 9 b o n c k Tryd.underlying26 infoStr (by omega) hR.2.1
      have n2 : ((n : Int) == 1) = false := by rw [beq_eq_false_iff_ne]; omega
      obtain ⟨i0, hi0, hz0, hz1, hz2⟩ := info_parts info_str
      have hB0 := (Below.refl w.heap.size w).drew
      by_cases hik : i < k
      · have HP : Hid (proofB L i = proofB (L.take k) i ++ [rootB (L.drop k)]) := by show _ = _; rw [proofB_lo (by omega) (by rw [← HKE.out]; exact hik), ← HKE.out]
        have C1 := Lib.hid fun W (h : Below w.heap.size w W) => (ih (L.take k) (some ⟨b, o, none⟩) k c B i W (by rw [List.length_take]; omega) ((hR.take (by omega)).below (h.mono hB)) (Nat.le_trans hB h.size) (by omega) hik (small_take hs k) (hT.below h (Nat.le_refl _))).mono fun _ _ ho => ho.in_ h.size
        have C2 := Lib.hid fun W (h : Below w.heap.size w W) => root_any N (L.drop k) (some ⟨b, o + k, none⟩) (n - k) (c - k) B W (by rw [List.length_drop]; omega) ((hR.drop (by omega)).below (h.mono hB)) (Nat.le_trans hB h.size) (by omega) (small_drop hs k) (hT.below h (Nat.le_refl _))
        have HLEN : Hid ((proofB (L.take k) i).length ≤ 1099511627776) := by
          have h1 := proofB_length (L := L.take k) (i := i) (by rw [List.length_take]; omega)
          have h2 := depth_le (L.take k).length (L.take k).length i 40 (Nat.le_refl _) (by rw [List.length_take]; omega)
          show _ ≤ _; omega
        clear hR hs hT hcell hke ih hl hN
        go_enter Tryd.func31, Tryd.ntmps31
        go_wp2_with fail
        refine (HCS.out _).mono ?_
        rintro e w' ⟨rfl, rfl⟩
        go_wp2
        go_region_law (first
          | (refine step_call rfl 31 _ _ rfl enters_proofOf (C1.out _ hB0) (by kernel_rfl) ?_; rintro e w1 ⟨v1, rfl, ho1, hb1⟩; refine ⟨_, rfl, ?_⟩; have hB1 := hB0.trans hb1)
          | (refine step_call rfl 21 _ _ rfl enters_Root (C2.out _ hB1) (by kernel_rfl) ?_; rintro e w2 ⟨rfl, hb2⟩; refine ⟨_, rfl, ?_⟩; have hB2 := hB1.trans (hb2.mono hB1.size); have ho2 := own_below ho1 hb2 (Nat.le_refl _))
          | (refine step_append_own rfl _ _ 26 rfl w.heap.size 9 i0 (.string ⟨#[]⟩) 1 16 Tryd.underlying26 hi0 hz0 hz1 hz2 rfl (by decide) _ _ _ (by kernel_rfl) (ho2.alloc _) ⟨w2.heap.size, 0, none⟩ 1 1 [sv (rootB (L.drop k))] (by kernel_rfl) rfl (cell_one_new _ _ _) (by simp [Value.oneCell', sv]) (by have := HLEN.out; unfold maxLen; omega) (by have := HLEN.out; omega) (by have := hB2.size; simp; omega) ?_; intro v3 w3 ho3 hg3; have hB3 := (hB2.alloc hB2.size _).grown hg3 (by have := hB2.size; simp; omega) (own_base ho2)))
        all_goals
          go_wp2
          go_ret
          exact ⟨_, rfl, by rw [HP.out]; exact own_snoc ho3, hB3⟩
      · have HP : Hid (proofB L i = proofB (L.drop k) (i - k) ++ [rootB (L.take k)]) := by show _ = _; rw [proofB_hi (by omega) (by rw [← HKE.out]; exact hik), ← HKE.out]
        have ihi := fun L A n c B W a1 a2 a3 a4 (a5 : i - k < n) a6 a7 => ih L A n c B (i - k) W a1 a2 a3 a4 a5 a6 a7
        rw [show ((i - k : Nat) : Int) = (i : Int) - (k : Int) from by omega] at ihi
        have C1 := Lib.hid fun W (h : Below w.heap.size w W) => (ihi (L.drop k) (some ⟨b, o + k, none⟩) (n - k) (c - k) B W (by rw [List.length_drop]; omega) ((hR.drop (by omega)).below (h.mono hB)) (Nat.le_trans hB h.size) (by omega) (by omega) (small_drop hs k) (hT.below h (Nat.le_refl _))).mono fun _ _ ho => ho.in_ h.size
        have C2 := Lib.hid fun W (h : Below w.heap.size w W) => root_any N (L.take k) (some ⟨b, o, none⟩) k c B W (by rw [List.length_take]; omega) ((hR.take (by omega)).below (h.mono hB)) (Nat.le_trans hB h.size) (by omega) (small_take hs k) (hT.below h (Nat.le_refl _))
        have HLEN : Hid ((proofB (L.drop k) (i - k)).length ≤ 1099511627776) := by
          have h1 := proofB_length (L := L.drop k) (i := i - k) (by rw [List.length_drop]; omega)
          have h2 := depth_le (L.drop k).length (L.drop k).length (i - k) 40 (Nat.le_refl _) (by rw [List.length_drop]; omega)
          show _ ≤ _; omega
        clear hR hs hT hcell hke ih ihi hl hN
        go_enter Tryd.func31, Tryd.ntmps31
        go_wp2_with fail
        refine (HCS.out _).mono ?_
        rintro e w' ⟨rfl, rfl⟩
        have q5 : IntKind.i64.wrap ((i : Int) - (k : Int)) = (i : Int) - (k : Int) := IntWalk.i64_in _ (by omega)
        go_wp2
        go_region_law (first
          | (refine step_call rfl 31 _ _ rfl enters_proofOf (C1.out _ hB0) (by kernel_rfl) ?_; rintro e w1 ⟨v1, rfl, ho1, hb1⟩; refine ⟨_, rfl, ?_⟩; have hB1 := hB0.trans hb1)
          | (refine step_call rfl 21 _ _ rfl enters_Root (C2.out _ hB1) (by kernel_rfl) ?_; rintro e w2 ⟨rfl, hb2⟩; refine ⟨_, rfl, ?_⟩; have hB2 := hB1.trans (hb2.mono hB1.size); have ho2 := own_below ho1 hb2 (Nat.le_refl _))
          | (refine step_append_own rfl _ _ 26 rfl w.heap.size 9 i0 (.string ⟨#[]⟩) 1 16 Tryd.underlying26 hi0 hz0 hz1 hz2 rfl (by decide) _ _ _ (by kernel_rfl) (ho2.alloc _) ⟨w2.heap.size, 0, none⟩ 1 1 [sv (rootB (L.take k))] (by kernel_rfl) rfl (cell_one_new _ _ _) (by simp [Value.oneCell', sv]) (by have := HLEN.out; unfold maxLen; omega) (by have := HLEN.out; omega) (by have := hB2.size; simp; omega) ?_; intro v3 w3 ho3 hg3; have hB3 := (hB2.alloc hB2.size _).grown hg3 (by have := hB2.size; simp; omega) (own_base ho2)))
        all_goals
          go_wp2
          go_ret
          exact ⟨_, rfl, by rw [HP.out]; exact own_snoc ho3, hB3⟩

/-- What Proof returns: the list, and the error's number. -/
def OwnOut2 (w : World) (P : List ByteArray) (n : Int) (e : Ending) (w' : World) : Prop := ∃ v, e = .returned (.tuple #[v, .int .i64 n]) ∧ w'.ownsRow w.heap.size 9 1 v P.length (P.map sv) ∧ Below w.heap.size w w'

theorem proof_in (L : List ByteArray) (A : Option Addr) (n c B i : Nat) (w : World) (hR : Rd w B A n c L) (hB : B ≤ w.heap.size) (hn : n ≤ 1099511627776) (hi : i < n) (hs : ∀ s ∈ L, Small s) (hT : Tab w) :
    Calls Tryd.prog 16 #[.slice A n c, .int .i64 i] w (OwnOut2 w (proofB L i) 0) := by
  have HC := Lib.hid (proofOf_any L.length L A n c B i w (Nat.le_refl _) hR hB hn hi hs hT)
  clear hR hs hT
  have h2 : (i : Int) < (n : Int) := by omega
  go_enter Tryd.func16, Tryd.ntmps16
  go_wp2_with fail
  refine HC.out.mono ?_
  rintro e w' ⟨v, rfl, ho, hb⟩
  have HO := Lib.hid ho; clear ho
  go_wp2
  go_ret2
  exact ⟨_, rfl, HO.out, hb⟩
theorem proof_out (_L : List ByteArray) (A : Option Addr) (n c : Nat) (i : Int) (w : World) (hi : ¬ (0 ≤ i ∧ i < n)) :
    Calls Tryd.prog 16 #[.slice A n c, .int .i64 i] w (OwnOut2 w [] 2) := by
  by_cases h : i < 0
  · clear hi
    go_enter Tryd.func16, Tryd.ntmps16
    go_wp2
    go_ret2
    exact ⟨_, rfl, World.ownsRow_nil _ _ _ _, Below.refl _ _⟩
  · have h2 : (n : Int) ≤ i := by omega
    clear hi
    go_enter Tryd.func16, Tryd.ntmps16
    go_wp2
    go_ret2
    exact ⟨_, rfl, World.ownsRow_nil _ _ _ _, Below.refl _ _⟩
end Go.Proofs.YthaegodeijfbdaaDoor
