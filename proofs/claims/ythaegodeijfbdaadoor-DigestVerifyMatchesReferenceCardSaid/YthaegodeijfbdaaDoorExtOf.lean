/- The contracts of extensionOf and Extension. Conditions: the slice reads, has at most 2^40 strings, each not longer than 2^50 bytes; the table holds what its text says. -/
import Derived.Test.YthaegodeijfbdaaDoorVerify
namespace Go.Proofs.YthaegodeijfbdaaDoor
open Go.RowKit Go.Lib

theorem own_one {w : World} {B : Nat} {e : TypeId} {x : ByteArray} (hB : B ≤ w.heap.size) : (w.alloc (.cells #[.string x] e)).ownsRow B e 1 (.slice (some ⟨w.heap.size, 0, none⟩) 1 1) [x].length ([x].map sv) :=
  ⟨rfl, .inr ⟨w.heap.size, 1, #[.string x], rfl, hB, World.alloc_heap_new w _, by simp, by unfold maxLen; omega, rfl, rfl⟩⟩

set_option maxRecDepth 100000 in
set_option maxHeartbeats 1000000 in
theorem extensionOf_any (N : Nat) : ∀ (L : List ByteArray) (A : Option Addr) (n c B m : Nat) (whole : Bool) (w : World), L.length ≤ N → Rd w B A n c L → B ≤ w.heap.size → n ≤ 1099511627776 → 1 ≤ m → m ≤ n → (∀ s ∈ L, Small s) → Tab w →
    Calls Tryd.prog 33 #[.slice A n c, .int .i64 m, .bool whole] w (OwnOut w (extB L m whole)) := by
  induction N with
  | zero => intro L A n c B m whole w hN hR hB hn hm1 hm2 hs hT; have := hR.1; omega
  | succ N ih =>
    intro L A n c B m whole w hN hR hB hn hm1 hm2 hs hT
    obtain ⟨b, o, rfl, hb, hcell⟩ := hR.2.2 (by omega)
    have hl := hR.1
    by_cases h1 : m = n
    · have HP : Hid (extB L m whole = if whole then [] else [rootB L]) := extB_all (by omega)
      have hmn : ((m : Int) == (n : Int)) = true := by rw [beq_iff_eq]; omega
      have CR := Lib.hid (root_any L.length L (some ⟨b, o, none⟩) n c B w (Nat.le_refl _) hR hB hn hs hT)
      cases whole
      · obtain ⟨i0, hi0, hz0, hz1, hz2⟩ := info_parts info_str
        clear hR hs hT hcell hl hN ih h1
        go_enter Tryd.func33, Tryd.ntmps33
        go_wp2_with fail
        refine CR.out.mono ?_
        rintro e w1 ⟨rfl, hb1⟩
        go_wp2
        go_ret
        exact ⟨_, rfl, by rw [HP.out]; exact own_one (hb1.size), hb1.alloc hb1.size _⟩
      · clear hR hs hT hcell hl hN ih h1
        go_enter Tryd.func33, Tryd.ntmps33
        go_wp2
        go_ret
        exact ⟨_, rfl, by rw [HP.out]; exact World.ownsRow_nil _ _ _ _, Below.refl _ _⟩
    · have hk := spl_lt (n := n) (by omega)
      have hp := spl_pos n
      have HCS := Lib.hid fun w => split_any n w (by omega) (by omega)
      obtain ⟨k, hke⟩ : ∃ k, k = spl n := ⟨_, rfl⟩
      have HKE : Hid (k = spl L.length) := by show _ = _; rw [← hl]; exact hke
      rw [← hke] at hk hp HCS
      have hs1 := run_slice_to 26 9 b o n c k Tryd.underlying26 infoStr (by omega) hR.2.1
      have hs2 := run_slice_from 26 9 b o n c k Tryd.underlying26 infoStr (by omega) hR.2.1
      have n2 : ((m : Int) == (n : Int)) = false := by rw [beq_eq_false_iff_ne]; omega
      obtain ⟨i0, hi0, hz0, hz1, hz2⟩ := info_parts info_str
      have hB0 := (Below.refl w.heap.size w).drew
      by_cases hik : m ≤ k
      · have HP : Hid (extB L m whole = extB (L.take k) m whole ++ [rootB (L.drop k)]) := by show _ = _; rw [extB_lo (by omega) (by omega) (by rw [← HKE.out]; exact hik), ← HKE.out]
        have C1 := Lib.hid fun W (h : Below w.heap.size w W) => (ih (L.take k) (some ⟨b, o, none⟩) k c B m whole W (by rw [List.length_take]; omega) ((hR.take (by omega)).below (h.mono hB)) (Nat.le_trans hB h.size) (by omega) hm1 hik (small_take hs k) (hT.below h (Nat.le_refl _))).mono fun _ _ ho => ho.in_ h.size
        have C2 := Lib.hid fun W (h : Below w.heap.size w W) => root_any N (L.drop k) (some ⟨b, o + k, none⟩) (n - k) (c - k) B W (by rw [List.length_drop]; omega) ((hR.drop (by omega)).below (h.mono hB)) (Nat.le_trans hB h.size) (by omega) (small_drop hs k) (hT.below h (Nat.le_refl _))
        have HLEN : Hid ((extB (L.take k) m whole).length ≤ 1099511627776) := by
          have h1 := extB_length (L.take k).length (L.take k) m 40 whole (Nat.le_refl _) (by rw [List.length_take]; omega)
          show _ ≤ _; omega
        clear hR hs hT hcell hke ih hl hN
        go_enter Tryd.func33, Tryd.ntmps33
        go_wp2_with fail
        refine (HCS.out _).mono ?_
        rintro e w' ⟨rfl, rfl⟩
        go_wp2
        go_region_law (first
          | (refine step_call rfl 33 _ _ rfl enters_extensionOf (C1.out _ hB0) (by kernel_rfl) ?_; rintro e w1 ⟨v1, rfl, ho1, hb1⟩; refine ⟨_, rfl, ?_⟩; have hB1 := hB0.trans hb1)
          | (refine step_call rfl 21 _ _ rfl enters_Root (C2.out _ hB1) (by kernel_rfl) ?_; rintro e w2 ⟨rfl, hb2⟩; refine ⟨_, rfl, ?_⟩; have hB2 := hB1.trans (hb2.mono hB1.size); have ho2 := own_below ho1 hb2 (Nat.le_refl _))
          | (refine step_append_own rfl _ _ 26 rfl w.heap.size 9 i0 (.string ⟨#[]⟩) 1 16 Tryd.underlying26 hi0 hz0 hz1 hz2 rfl (by decide) _ _ _ (by kernel_rfl) (ho2.alloc _) ⟨w2.heap.size, 0, none⟩ 1 1 [sv (rootB (L.drop k))] (by kernel_rfl) rfl (cell_one_new _ _ _) (by simp [Value.oneCell', sv]) (by have := HLEN.out; unfold maxLen; omega) (by have := HLEN.out; omega) (by have := hB2.size; simp; omega) ?_; intro v3 w3 ho3 hg3; have hB3 := (hB2.alloc hB2.size _).grown hg3 (by have := hB2.size; simp; omega) (own_base ho2)))
        all_goals
          go_wp2
          go_ret
          exact ⟨_, rfl, by rw [HP.out]; exact own_snoc ho3, hB3⟩
      · have HP : Hid (extB L m whole = extB (L.drop k) (m - k) false ++ [rootB (L.take k)]) := by show _ = _; rw [extB_hi (by omega) (by omega) (by rw [← HKE.out]; exact hik), ← HKE.out]
        have ihi := fun L A n c B W a1 a2 a3 a4 (a5 : m - k ≤ n) a6 a7 => ih L A n c B (m - k) false W a1 a2 a3 a4 (by omega) a5 a6 a7
        rw [show ((m - k : Nat) : Int) = (m : Int) - (k : Int) from by omega] at ihi
        have C1 := Lib.hid fun W (h : Below w.heap.size w W) => (ihi (L.drop k) (some ⟨b, o + k, none⟩) (n - k) (c - k) B W (by rw [List.length_drop]; omega) ((hR.drop (by omega)).below (h.mono hB)) (Nat.le_trans hB h.size) (by omega) (by omega) (small_drop hs k) (hT.below h (Nat.le_refl _))).mono fun _ _ ho => ho.in_ h.size
        have C2 := Lib.hid fun W (h : Below w.heap.size w W) => root_any N (L.take k) (some ⟨b, o, none⟩) k c B W (by rw [List.length_take]; omega) ((hR.take (by omega)).below (h.mono hB)) (Nat.le_trans hB h.size) (by omega) (small_take hs k) (hT.below h (Nat.le_refl _))
        have HLEN : Hid ((extB (L.drop k) (m - k) false).length ≤ 1099511627776) := by
          have h1 := extB_length (L.drop k).length (L.drop k) (m - k) 40 false (Nat.le_refl _) (by rw [List.length_drop]; omega)
          show _ ≤ _; omega
        clear hR hs hT hcell hke ih ihi hl hN
        go_enter Tryd.func33, Tryd.ntmps33
        go_wp2_with fail
        refine (HCS.out _).mono ?_
        rintro e w' ⟨rfl, rfl⟩
        have q5 : IntKind.i64.wrap ((m : Int) - (k : Int)) = (m : Int) - (k : Int) := IntWalk.i64_in _ (by omega)
        go_wp2
        go_region_law (first
          | (refine step_call rfl 33 _ _ rfl enters_extensionOf (C1.out _ hB0) (by kernel_rfl) ?_; rintro e w1 ⟨v1, rfl, ho1, hb1⟩; refine ⟨_, rfl, ?_⟩; have hB1 := hB0.trans hb1)
          | (refine step_call rfl 21 _ _ rfl enters_Root (C2.out _ hB1) (by kernel_rfl) ?_; rintro e w2 ⟨rfl, hb2⟩; refine ⟨_, rfl, ?_⟩; have hB2 := hB1.trans (hb2.mono hB1.size); have ho2 := own_below ho1 hb2 (Nat.le_refl _))
          | (refine step_append_own rfl _ _ 26 rfl w.heap.size 9 i0 (.string ⟨#[]⟩) 1 16 Tryd.underlying26 hi0 hz0 hz1 hz2 rfl (by decide) _ _ _ (by kernel_rfl) (ho2.alloc _) ⟨w2.heap.size, 0, none⟩ 1 1 [sv (rootB (L.take k))] (by kernel_rfl) rfl (cell_one_new _ _ _) (by simp [Value.oneCell', sv]) (by have := HLEN.out; unfold maxLen; omega) (by have := HLEN.out; omega) (by have := hB2.size; simp; omega) ?_; intro v3 w3 ho3 hg3; have hB3 := (hB2.alloc hB2.size _).grown hg3 (by have := hB2.size; simp; omega) (own_base ho2)))
        all_goals
          go_wp2
          go_ret
          exact ⟨_, rfl, by rw [HP.out]; exact own_snoc ho3, hB3⟩

theorem ext_in (L : List ByteArray) (A : Option Addr) (n c B m : Nat) (w : World) (hR : Rd w B A n c L) (hB : B ≤ w.heap.size) (hn : n ≤ 1099511627776) (h1 : 1 ≤ m) (h2 : m ≤ n) (hs : ∀ s ∈ L, Small s) (hT : Tab w) :
    Calls Tryd.prog 18 #[.slice A n c, .int .i64 m] w (OwnOut2 w (extB L m true) 0) := by
  have HC := Lib.hid (extensionOf_any L.length L A n c B m true w (Nat.le_refl _) hR hB hn h1 h2 hs hT)
  clear hR hs hT
  have h2 : (m : Int) ≤ (n : Int) := by omega
  have h3 : ((m : Int) == 0) = false := by rw [beq_eq_false_iff_ne]; omega
  go_enter Tryd.func18, Tryd.ntmps18
  go_wp2_with fail
  refine HC.out.mono ?_
  rintro e w' ⟨v, rfl, ho, hb⟩
  have HO := Lib.hid ho; clear ho
  go_wp2
  go_ret2
  exact ⟨_, rfl, HO.out, hb⟩
theorem ext_zero (A : Option Addr) (n c : Nat) (w : World) :
    Calls Tryd.prog 18 #[.slice A n c, .int .i64 0] w (OwnOut2 w [] 0) := by
  have h2 : (0 : Int) ≤ (n : Int) := by omega
  go_enter Tryd.func18, Tryd.ntmps18
  go_wp2
  go_ret2
  exact ⟨_, rfl, World.ownsRow_nil _ _ _ _, Below.refl _ _⟩
theorem ext_out (A : Option Addr) (n c : Nat) (m : Int) (w : World) (hm : ¬ (0 ≤ m ∧ m ≤ n)) :
    Calls Tryd.prog 18 #[.slice A n c, .int .i64 m] w (OwnOut2 w [] 2) := by
  by_cases h : m < 0
  · clear hm
    go_enter Tryd.func18, Tryd.ntmps18
    go_wp2
    go_ret2
    exact ⟨_, rfl, World.ownsRow_nil _ _ _ _, Below.refl _ _⟩
  · have h2 : (n : Int) < m := by omega
    clear hm
    go_enter Tryd.func18, Tryd.ntmps18
    go_wp2
    go_ret2
    exact ⟨_, rfl, World.ownsRow_nil _ _ _ _, Below.refl _ _⟩
end Go.Proofs.YthaegodeijfbdaaDoor
