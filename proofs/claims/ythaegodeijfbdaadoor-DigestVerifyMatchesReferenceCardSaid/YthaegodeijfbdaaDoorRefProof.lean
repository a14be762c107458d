/- The contract of the reference's Proof. Conditions: the slice reads, has at most 2^40 strings, each no longer than 1,000 bytes. -/
import Derived.Test.YthaegodeijfbdaaDoorRefPart
namespace Go.Proofs.YthaegodeijfbdaaDoor
open Go.RowKit Go.Lib

theorem OwnOut2.out_ {w w' : World} {P : List ByteArray} {e : Ending} {B : Nat} {x : Int} (hB : B ≤ w.heap.size) (h : OwnOut2 w P x e w') : ∃ v, e = .returned (.tuple #[v, .int .i64 x]) ∧ w'.ownsRow B 9 1 v P.length (P.map sv) ∧ Below w.heap.size w w' := by
  obtain ⟨v, he, ho, hb⟩ := h
  exact ⟨v, he, own_more ho hB, hb⟩

set_option maxRecDepth 100000 in
set_option maxHeartbeats 1000000 in
theorem refproof_in (N : Nat) : ∀ (L : List ByteArray) (A : Option Addr) (n c B i : Nat) (w : World), L.length ≤ N → Rd w B A n c L → B ≤ w.heap.size → n ≤ 1099511627776 → i < n → Tiny L →
    Calls Tryd.prog 17 #[.slice A n c, .int .i64 i] w (OwnOut2 w (proofB L i) 0) := by
  induction N with
  | zero => intro L A n c B i w hN hR hB hn hi hs; have := hR.1; omega
  | succ N ih =>
    intro L A n c B i w hN hR hB hn hi hs
    obtain ⟨b, o, rfl, hb, hcell⟩ := hR.2.2 (by omega)
    have hl := hR.1
    have q0 : (0 : Int) ≤ (i : Int) := by omega
    have q1 : (i : Int) < (n : Int) := by omega
    by_cases h1 : n = 1
    · have HP : Hid (proofB L i = []) := proofB_one (by omega)
      subst h1
      clear hR hs hcell hl hN ih
      go_enter Tryd.func17, Tryd.ntmps17
      go_wp2
      go_ret2
      exact ⟨_, rfl, by rw [HP.out]; exact World.ownsRow_nil _ _ _ _, Below.refl _ _⟩
    · have hk := spl_lt (n := n) (by omega)
      have hp := spl_pos n
      have HCS := Lib.hid fun w => refLeft_any n w (by omega) (by omega)
      obtain ⟨k, hke⟩ : ∃ k, k = spl n := ⟨_, rfl⟩
      have HKE : Hid (k = spl L.length) := by show _ = _; rw [← hl]; exact hke
      rw [← hke] at hk hp HCS
      have hs1 := run_slice_to 26 9 b o n c k Tryd.underlying26 infoStr (by omega) hR.2.1
      have hs2 := run_slice_from 26 9 b o n c k Tryd.underlying26 infoStr (by omega) hR.2.1
      have n2 : ((n : Int) == 1) = false := by rw [beq_eq_false_iff_ne]; omega
      obtain ⟨i0, hi0, hz0, hz1, hz2⟩ := info_parts info_str
      by_cases hik : i < k
      · have HP : Hid (proofB L i = proofB (L.take k) i ++ [rootB (L.drop k)]) := by show _ = _; rw [proofB_lo (by omega) (by rw [← HKE.out]; exact hik), ← HKE.out]
        have C1 := Lib.hid fun W (h : Below w.heap.size w W) => (ih (L.take k) (some ⟨b, o, none⟩) k c B i W (by rw [List.length_take]; omega) ((hR.take (by omega)).below (h.mono hB)) (Nat.le_trans hB h.size) (by omega) hik (hs.take k)).mono fun _ _ ho => ho.out_ h.size
        have C2 := Lib.hid fun W (h : Below w.heap.size w W) => refroot_any N (L.drop k) (some ⟨b, o + k, none⟩) (n - k) (c - k) B W (by rw [List.length_drop]; omega) ((hR.drop (by omega)).below (h.mono hB)) (Nat.le_trans hB h.size) (by omega) (hs.drop k)
        have HLEN : Hid ((proofB (L.take k) i).length ≤ 1099511627776) := by
          have h1 := proofB_length (L := L.take k) (i := i) (by rw [List.length_take]; omega)
          have h2 := depth_le (L.take k).length (L.take k).length i 40 (Nat.le_refl _) (by rw [List.length_take]; omega)
          show _ ≤ _; omega
        clear hR hs hcell hke ih hl hN
        go_enter Tryd.func17, Tryd.ntmps17
        go_wp2_with fail
        refine (HCS.out _).mono ?_
        rintro e w' ⟨rfl, rfl⟩
        go_wp2_with fail
        refine (C1.out _ (Below.refl _ _)).mono ?_
        rintro e w1 ⟨v1, rfl, ho1, hb1⟩
        have hB1 := hb1
        go_wp2_with fail
        refine (C2.out _ hB1).mono ?_
        rintro e w2 ⟨rfl, hb2⟩
        have hB2 := hB1.trans (hb2.mono hB1.size)
        have ho2 := own_below ho1 (show Below w1.heap.size w1 w2 from hb2) (Nat.le_refl _)
        have hl9 := HLEN.out
        have hz9 := hB2.size
        go_wp2_with (at_builtin; refine wpList_append_own _ rfl _ _ 26 rfl w.heap.size 9 i0 (.string ⟨#[]⟩) 1 16 Tryd.underlying26 hi0 hz0 hz1 hz2 rfl (by decide) _ _ _ rfl (ho2.alloc _) ⟨w2.heap.size, 0, none⟩ 1 1 [sv (rootB (L.drop k))] rfl rfl (cell_one_new _ _ _) (by simp [Value.oneCell', sv]) (by unfold maxLen; omega) (by omega) (by simp; omega) ?_; intro v3 w3 ho3 hg3 _; have hB3 := (hB2.alloc hB2.size _).grown hg3 (by simp; omega) (own_base ho2))
        go_ret2
        exact ⟨_, rfl, by rw [HP.out]; exact own_snoc ho3, hB3⟩
      · have HP : Hid (proofB L i = proofB (L.drop k) (i - k) ++ [rootB (L.take k)]) := by show _ = _; rw [proofB_hi (by omega) (by rw [← HKE.out]; exact hik), ← HKE.out]
        have ihi := fun L A n c B W a1 a2 a3 a4 (a5 : i - k < n) a6 => ih L A n c B (i - k) W a1 a2 a3 a4 a5 a6
        rw [show ((i - k : Nat) : Int) = (i : Int) - (k : Int) from by omega] at ihi
        have C1 := Lib.hid fun W (h : Below w.heap.size w W) => (ihi (L.drop k) (some ⟨b, o + k, none⟩) (n - k) (c - k) B W (by rw [List.length_drop]; omega) ((hR.drop (by omega)).below (h.mono hB)) (Nat.le_trans hB h.size) (by omega) (by omega) (hs.drop k)).mono fun _ _ ho => ho.out_ h.size
        have C2 := Lib.hid fun W (h : Below w.heap.size w W) => refroot_any N (L.take k) (some ⟨b, o, none⟩) k c B W (by rw [List.length_take]; omega) ((hR.take (by omega)).below (h.mono hB)) (Nat.le_trans hB h.size) (by omega) (hs.take k)
        have HLEN : Hid ((proofB (L.drop k) (i - k)).length ≤ 1099511627776) := by
          have h1 := proofB_length (L := L.drop k) (i := i - k) (by rw [List.length_drop]; omega)
          have h2 := depth_le (L.drop k).length (L.drop k).length (i - k) 40 (Nat.le_refl _) (by rw [List.length_drop]; omega)
          show _ ≤ _; omega
        clear hR hs hcell hke ih ihi hl hN
        go_enter Tryd.func17, Tryd.ntmps17
        go_wp2_with fail
        refine (HCS.out _).mono ?_
        rintro e w' ⟨rfl, rfl⟩
        have q5 : IntKind.i64.wrap ((i : Int) - (k : Int)) = (i : Int) - (k : Int) := IntWalk.i64_in _ (by omega)
        go_wp2_with fail
        refine (C1.out _ (Below.refl _ _)).mono ?_
        rintro e w1 ⟨v1, rfl, ho1, hb1⟩
        have hB1 := hb1
        go_wp2_with fail
        refine (C2.out _ hB1).mono ?_
        rintro e w2 ⟨rfl, hb2⟩
        have hB2 := hB1.trans (hb2.mono hB1.size)
        have ho2 := own_below ho1 (show Below w1.heap.size w1 w2 from hb2) (Nat.le_refl _)
        have hl9 := HLEN.out
        have hz9 := hB2.size
        go_wp2_with (at_builtin; refine wpList_append_own _ rfl _ _ 26 rfl w.heap.size 9 i0 (.string ⟨#[]⟩) 1 16 Tryd.underlying26 hi0 hz0 hz1 hz2 rfl (by decide) _ _ _ rfl (ho2.alloc _) ⟨w2.heap.size, 0, none⟩ 1 1 [sv (rootB (L.take k))] rfl rfl (cell_one_new _ _ _) (by simp [Value.oneCell', sv]) (by unfold maxLen; omega) (by omega) (by simp; omega) ?_; intro v3 w3 ho3 hg3 _; have hB3 := (hB2.alloc hB2.size _).grown hg3 (by simp; omega) (own_base ho2))
        go_ret2
        exact ⟨_, rfl, by rw [HP.out]; exact own_snoc ho3, hB3⟩

theorem refproof_out (_L : List ByteArray) (A : Option Addr) (n c : Nat) (i : Int) (w : World) (hi : ¬ (0 ≤ i ∧ i < n)) :
    Calls Tryd.prog 17 #[.slice A n c, .int .i64 i] w (OwnOut2 w [] 2) := by
  by_cases h : i < 0
  · clear hi
    go_enter Tryd.func17, Tryd.ntmps17
    go_wp2
    go_ret2
    exact ⟨_, rfl, World.ownsRow_nil _ _ _ _, Below.refl _ _⟩
  · have h2 : (n : Int) ≤ i := by omega
    clear hi
    go_enter Tryd.func17, Tryd.ntmps17
    go_wp2
    go_ret2
    exact ⟨_, rfl, World.ownsRow_nil _ _ _ _, Below.refl _ _⟩
end Go.Proofs.YthaegodeijfbdaaDoor
