/- The contracts of the reference's part and Extension. Conditions: the slice reads, has at most 2^40 strings, each no longer than 1,000 bytes. -/
import Derived.Test.YthaegodeijfbdaaDoorRefRoot
namespace Go.Proofs.YthaegodeijfbdaaDoor
open Go.RowKit Go.Lib

theorem enters_refpart : ∀ args w, (callFunc 34 args).run Tryd.prog w = .ok (.enter 34 args) w := enters_of Tryd.func34 (by kernel_rfl) rfl
theorem enters_refRoot : ∀ args w, (callFunc 22 args).run Tryd.prog w = .ok (.enter 22 args) w := enters_of Tryd.func22 (by kernel_rfl) rfl

set_option maxRecDepth 100000 in
set_option maxHeartbeats 1000000 in
theorem refpart_any (N : Nat) : ∀ (L : List ByteArray) (A : Option Addr) (n c B m : Nat) (whole : Bool) (w : World), L.length ≤ N → Rd w B A n c L → B ≤ w.heap.size → n ≤ 1099511627776 → 1 ≤ m → m ≤ n → Tiny L →
    Calls Tryd.prog 34 #[.slice A n c, .int .i64 m, .bool whole] w (OwnOut w (extB L m whole)) := by
  induction N with
  | zero => intro L A n c B m whole w hN hR hB hn hm1 hm2 hs ; have := hR.1; omega
  | succ N ih =>
    intro L A n c B m whole w hN hR hB hn hm1 hm2 hs 
    obtain ⟨b, o, rfl, hb, hcell⟩ := hR.2.2 (by omega)
    have hl := hR.1
    by_cases h1 : m = n
    · have HP : Hid (extB L m whole = if whole then [] else [rootB L]) := extB_all (by omega)
      have hmn : ((m : Int) == (n : Int)) = true := by rw [beq_iff_eq]; omega
      have CR := Lib.hid (refroot_any L.length L (some ⟨b, o, none⟩) n c B w (Nat.le_refl _) hR hB hn hs )
      cases whole
      · obtain ⟨i0, hi0, hz0, hz1, hz2⟩ := info_parts info_str
        clear hR hs  hcell hl hN ih h1
        go_enter Tryd.func34, Tryd.ntmps34
        go_wp2_with fail
        refine CR.out.mono ?_
        rintro e w1 ⟨rfl, hb1⟩
        go_wp2
        go_ret
        exact ⟨_, rfl, by rw [HP.out]; exact own_one (hb1.size), hb1.alloc hb1.size _⟩
      · clear hR hs  hcell hl hN ih h1
        go_enter Tryd.func34, Tryd.ntmps34
        go_wp2
        go_ret
        exact ⟨_, rfl, by rw [HP.out]; exact World.ownsRow_nil _ _ _ _, Below.refl _ _⟩
    · have hk := spl_lt (n := n) (by omega)
      have hp := spl_pos n
      have HCS := Lib.hid fun w => refLeft_any n w (by omega) (by omega)
      obtain ⟨k, hke⟩ : ∃ k, k = spl n := ⟨_, rfl⟩
      have HKE : Hid (k = spl L.length) := by show _ = _; rw [← hl]; exact hke
      rw [← hke] at hk hp HCS
      have hs1 := run_slice_to 26 9 b o n c k Tryd.underlying26 infoStr (by omega) hR.2.1
      have hs2 := run_slice_from 26 9 b o n c k Tryd.underlying26 infoStr (by omega) hR.2.1
      have n2 : ((m : Int) == (n : Int)) = false := by rw [beq_eq_false_iff_ne]; omega
      obtain ⟨i0, hi0, hz0, hz1, hz2⟩ := info_parts info_str
      have hB0 := (Below.refl w.heap.size w).drew
      by_cases hik : m ≤ k
      · have HP : Hid (extB L m whole = extB (L.take k) m whole ++ [rootB (L.drop k)]) := by show _ = _; rw [extB_lo (by omega) (by omega) (by rw [← HKE.out]; exact hik), ← HKE.out]
        have C1 := Lib.hid fun W (h : Below w.heap.size w W) => (ih (L.take k) (some ⟨b, o, none⟩) k c B m whole W (by rw [List.length_take]; omega) ((hR.take (by omega)).below (h.mono hB)) (Nat.le_trans hB h.size) (by omega) hm1 hik (hs.take k)).mono fun _ _ ho => ho.in_ h.size
        have C2 := Lib.hid fun W (h : Below w.heap.size w W) => refroot_any N (L.drop k) (some ⟨b, o + k, none⟩) (n - k) (c - k) B W (by rw [List.length_drop]; omega) ((hR.drop (by omega)).below (h.mono hB)) (Nat.le_trans hB h.size) (by omega) (hs.drop k)
        have HLEN : Hid ((extB (L.take k) m whole).length ≤ 1099511627776) := by
          have h1 := extB_length (L.take k).length (L.take k) m 40 whole (Nat.le_refl _) (by rw [List.length_take]; omega)
          show _ ≤ _; omega
        clear hR hs  hcell hke ih hl hN
        go_enter Tryd.func34, Tryd.ntmps34
        go_wp2_with fail
        refine (HCS.out _).mono ?_
        rintro e w' ⟨rfl, rfl⟩
        go_wp2
        go_region_law (first
          | (refine step_call rfl 34 _ _ rfl enters_refpart (C1.out _ hB0) (by kernel_rfl) ?_; rintro e w1 ⟨v1, rfl, ho1, hb1⟩; refine ⟨_, rfl, ?_⟩; have hB1 := hB0.trans hb1)
          | (refine step_call rfl 22 _ _ rfl enters_refRoot (C2.out _ hB1) (by kernel_rfl) ?_; rintro e w2 ⟨rfl, hb2⟩; refine ⟨_, rfl, ?_⟩; have hB2 := hB1.trans (hb2.mono hB1.size); have ho2 := own_below ho1 hb2 (Nat.le_refl _))
          | (refine step_append_own rfl _ _ 26 rfl w.heap.size 9 i0 (.string ⟨#[]⟩) 1 16 Tryd.underlying26 hi0 hz0 hz1 hz2 rfl (by decide) _ _ _ (by kernel_rfl) (ho2.alloc _) ⟨w2.heap.size, 0, none⟩ 1 1 [sv (rootB (L.drop k))] (by kernel_rfl) rfl (cell_one_new _ _ _) (by simp [Value.oneCell', sv]) (by have := HLEN.out; unfold maxLen; omega) (by have := HLEN.out; omega) (by have := hB2.size; simp; omega) ?_; intro v3 w3 ho3 hg3; have hB3 := (hB2.alloc hB2.size _).grown hg3 (by have := hB2.size; simp; omega) (own_base ho2)))
        all_goals
          go_wp2
          go_ret
          exact ⟨_, rfl, by rw [HP.out]; exact own_snoc ho3, hB3⟩
      · have HP : Hid (extB L m whole = extB (L.drop k) (m - k) false ++ [rootB (L.take k)]) := by show _ = _; rw [extB_hi (by omega) (by omega) (by rw [← HKE.out]; exact hik), ← HKE.out]
        have ihi := fun L A n c B W a1 a2 a3 a4 (a5 : m - k ≤ n) a6 => ih L A n c B (m - k) false W a1 a2 a3 a4 (by omega) a5 a6
        rw [show ((m - k : Nat) : Int) = (m : Int) - (k : Int) from by omega] at ihi
        have C1 := Lib.hid fun W (h : Below w.heap.size w W) => (ihi (L.drop k) (some ⟨b, o + k, none⟩) (n - k) (c - k) B W (by rw [List.length_drop]; omega) ((hR.drop (by omega)).below (h.mono hB)) (Nat.le_trans hB h.size) (by omega) (by omega) (hs.drop k)).mono fun _ _ ho => ho.in_ h.size
        have C2 := Lib.hid fun W (h : Below w.heap.size w W) => refroot_any N (L.take k) (some ⟨b, o, none⟩) k c B W (by rw [List.length_take]; omega) ((hR.take (by omega)).below (h.mono hB)) (Nat.le_trans hB h.size) (by omega) (hs.take k)
        have HLEN : Hid ((extB (L.drop k) (m - k) false).length ≤ 1099511627776) := by
          have h1 := extB_length (L.drop k).length (L.drop k) (m - k) 40 false (Nat.le_refl _) (by rw [List.length_drop]; omega)
          show _ ≤ _; omega
        clear hR hs  hcell hke ih ihi hl hN
        go_enter Tryd.func34, Tryd.ntmps34
        go_wp2_with fail
        refine (HCS.out _).mono ?_
        rintro e w' ⟨rfl, rfl⟩
        have q5 : IntKind.i64.wrap ((m : Int) - (k : Int)) = (m : Int) - (k : Int) := IntWalk.i64_in _ (by omega)
        go_wp2
        go_region_law (first
          | (refine step_call rfl 34 _ _ rfl enters_refpart (C1.out _ hB0) (by kernel_rfl) ?_; rintro e w1 ⟨v1, rfl, ho1, hb1⟩; refine ⟨_, rfl, ?_⟩; have hB1 := hB0.trans hb1)
          | (refine step_call rfl 22 _ _ rfl enters_refRoot (C2.out _ hB1) (by kernel_rfl) ?_; rintro e w2 ⟨rfl, hb2⟩; refine ⟨_, rfl, ?_⟩; have hB2 := hB1.trans (hb2.mono hB1.size); have ho2 := own_below ho1 hb2 (Nat.le_refl _))
          | (refine step_append_own rfl _ _ 26 rfl w.heap.size 9 i0 (.string ⟨#[]⟩) 1 16 Tryd.underlying26 hi0 hz0 hz1 hz2 rfl (by decide) _ _ _ (by kernel_rfl) (ho2.alloc _) ⟨w2.heap.size, 0, none⟩ 1 1 [sv (rootB (L.take k))] (by kernel_rfl) rfl (cell_one_new _ _ _) (by simp [Value.oneCell', sv]) (by have := HLEN.out; unfold maxLen; omega) (by have := HLEN.out; omega) (by have := hB2.size; simp; omega) ?_; intro v3 w3 ho3 hg3; have hB3 := (hB2.alloc hB2.size _).grown hg3 (by have := hB2.size; simp; omega) (own_base ho2)))
        all_goals
          go_wp2
          go_ret
          exact ⟨_, rfl, by rw [HP.out]; exact own_snoc ho3, hB3⟩

theorem refext_in (L : List ByteArray) (A : Option Addr) (n c B m : Nat) (w : World) (hR : Rd w B A n c L) (hB : B ≤ w.heap.size) (hn : n ≤ 1099511627776) (h1 : 1 ≤ m) (h2 : m ≤ n) (hs : Tiny L) :
    Calls Tryd.prog 19 #[.slice A n c, .int .i64 m] w (OwnOut2 w (extB L m true) 0) := by
  have HC := Lib.hid (refpart_any L.length L A n c B m true w (Nat.le_refl _) hR hB hn h1 h2 hs )
  clear hR hs 
  have h2 : (m : Int) ≤ (n : Int) := by omega
  have h3 : ((m : Int) == 0) = false := by rw [beq_eq_false_iff_ne]; omega
  go_enter Tryd.func19, Tryd.ntmps19
  go_wp2_with fail
  refine HC.out.mono ?_
  rintro e w' ⟨v, rfl, ho, hb⟩
  have HO := Lib.hid ho; clear ho
  go_wp2
  go_ret2
  exact ⟨_, rfl, HO.out, hb⟩
theorem refext_zero (A : Option Addr) (n c : Nat) (w : World) :
    Calls Tryd.prog 19 #[.slice A n c, .int .i64 0] w (OwnOut2 w [] 0) := by
  have h2 : (0 : Int) ≤ (n : Int) := by omega
  go_enter Tryd.func19, Tryd.ntmps19
  go_wp2
  go_ret2
  exact ⟨_, rfl, World.ownsRow_nil _ _ _ _, Below.refl _ _⟩
theorem refext_out (A : Option Addr) (n c : Nat) (m : Int) (w : World) (hm : ¬ (0 ≤ m ∧ m ≤ n)) :
    Calls Tryd.prog 19 #[.slice A n c, .int .i64 m] w (OwnOut2 w [] 2) := by
  by_cases h : m < 0
  · clear hm
    go_enter Tryd.func19, Tryd.ntmps19
    go_wp2
    go_ret2
    exact ⟨_, rfl, World.ownsRow_nil _ _ _ _, Below.refl _ _⟩
  · have h2 : (n : Int) < m := by omega
    clear hm
    go_enter Tryd.func19, Tryd.ntmps19
    go_wp2
    go_ret2
    exact ⟨_, rfl, World.ownsRow_nil _ _ _ _, Below.refl _ _⟩
end Go.Proofs.YthaegodeijfbdaaDoor
