/- The contracts of value and Verify. Conditions: the slice reads, has at most 2^40 strings; numbers are of their Go types; the table holds what its text says. -/
import Derived.Test.YthaegodeijfbdaaDoorProof
import Derived.Lib.Strings
namespace Go.Proofs.YthaegodeijfbdaaDoor
open Go.RowKit Go.Lib

theorem read_cut {W : World} {B b o n c : Nat} {P : List ByteArray} {x : ByteArray} (h : Rd W B (some ⟨b, o, none⟩) n c (P ++ [x])) : Rd W B (some ⟨b, o, none⟩) (n - 1) c P := by
  have hl := h.1
  rw [List.length_append, List.length_singleton] at hl
  have := h.take (k := n - 1) (by omega)
  rw [show n - 1 = P.length from by omega, List.take_left] at this
  rw [show n - 1 = P.length from by omega]
  exact this
theorem valueB_empty {n i : Nat} {s : ByteArray} (h : n ≠ 1) : valueB n i s [] = (⟨#[]⟩, false) := by rw [valueB_nil, if_neg h]

set_option maxRecDepth 100000 in
set_option maxHeartbeats 1000000 in
theorem value_any (N : Nat) : ∀ (P : List ByteArray) (A : Option Addr) (n c B num i : Nat) (s : ByteArray) (w : World), P.length ≤ N → Rd w B A n c P → B ≤ w.heap.size → n ≤ 1099511627776 → 1 ≤ num → num ≤ 9223372036854775807 → i < num → Small s → (∀ x ∈ P, Small x) → Tab w →
    Calls Tryd.prog 37 #[.int .i64 num, .int .i64 i, .string s, .slice A n c] w fun e w' => e = .returned (.tuple #[.string (valueB num i s P).1, .bool (valueB num i s P).2]) ∧ Below w.heap.size w w' := by
  induction N with
  | zero =>
    intro P A n c B num i s w hN hR hB hn h1 h2 hi hs hP hT
    have hP0 : P = [] := List.eq_nil_of_length_eq_zero (by omega)
    subst hP0
    have hn0 : n = 0 := hR.1
    subst hn0
    by_cases hnum : num = 1
    · have HC := Lib.hid (leafB_any s w hs hT)
      have HV := Lib.hid (valueB_one i s [])
      subst hnum
      clear hR hs hT hP hN
      go_enter Tryd.func37, Tryd.ntmps37
      go_wp2_with fail
      refine HC.out.mono ?_
      rintro e w' ⟨rfl, hb⟩
      go_wp2
      go_ret2
      exact ⟨by rw [HV.out]; rfl, hb⟩
    · have hn1 : ((num : Int) == 1) = false := by rw [beq_eq_false_iff_ne]; omega
      have HV := Lib.hid (valueB_empty (i := i) (s := s) hnum)
      clear hR hs hT hP hN hnum
      go_enter Tryd.func37, Tryd.ntmps37
      go_wp2
      go_ret2
      exact ⟨by rw [HV.out]; rfl, Below.refl _ _⟩
  | succ N ih =>
    intro P A n c B num i s w hN hR hB hn h1 h2 hi hs hP hT
    rcases List.eq_nil_or_concat P with hP0 | ⟨P', x, hP0⟩
    · exact ih P A n c B num i s w (by rw [hP0]; simp) hR hB hn h1 h2 hi hs hP hT
    · rw [List.concat_eq_append] at hP0
      subst hP0
      have hl := hR.1
      rw [List.length_append, List.length_singleton] at hl hN
      by_cases hnum : num = 1
      · have HC := Lib.hid (leafB_any s w hs hT)
        have HV : Hid (valueB 1 i s (P' ++ [x]) = (leafB s, false)) := by show _ = _; rw [valueB_one]; simp
        have hn1 : ((n : Int) == 0) = false := by rw [beq_eq_false_iff_ne]; omega
        subst hnum
        clear hR hs hT hP hN hl
        go_enter Tryd.func37, Tryd.ntmps37
        go_wp2_with fail
        refine HC.out.mono ?_
        rintro e w' ⟨rfl, hb⟩
        go_wp2
        go_ret2
        exact ⟨by rw [HV.out]; rfl, hb⟩
      · obtain ⟨b, o, rfl, hb, hcell⟩ := hR.2.2 (by omega)
        have hk := spl_lt (n := num) (by omega)
        have hp := spl_pos num
        have HCC := Lib.hid (cutLast_any b o n c P' x B w hR hn)
        have HCS := Lib.hid fun w => split_any num w (by omega) h2
        obtain ⟨k, hke⟩ : ∃ k, k = spl num := ⟨_, rfl⟩
        have HKE := Lib.hid hke
        rw [← hke] at hk hp HCS
        have hR2 := read_cut hR
        have hx : Small x := hP x (by simp)
        have hP2 : ∀ y ∈ P', Small y := fun y hy => hP y (by simp [hy])
        have n1 : ((num : Int) == 1) = false := by rw [beq_eq_false_iff_ne]; omega
        have n2 : ((n : Int) == 0) = false := by rw [beq_eq_false_iff_ne]; omega
        by_cases hik : i < k
        · have HV : Hid (valueB num i s (P' ++ [x]) = (nodeB (valueB k i s P').1 x, (valueB k i s P').2)) := by show _ = _; rw [valueB_lo hnum (by rw [← hke]; exact hik), ← hke]
          have C1 := Lib.hid fun W (h : Below w.heap.size w W) => ih P' (some ⟨b, o, none⟩) (n - 1) c B k i s W (by omega) (hR2.below (h.mono hB)) (Nat.le_trans hB h.size) (by omega) (by omega) (by omega) hik hs hP2 (hT.below h (Nat.le_refl _))
          have C2 := Lib.hid fun W (h : Below w.heap.size w W) => nodeB_any (valueB k i s P').1 x W (small_32 (valueB_size _ _ _ _)) hx (hT.below h (Nat.le_refl _))
          generalize valueB k i s P' = r at *
          obtain ⟨r1, r2⟩ := r
          clear hR hs hT hP hN hl hR2 hP2 hcell hke hnum ih hx
          go_enter Tryd.func37, Tryd.ntmps37
          go_wp2_with fail
          refine HCC.out.mono ?_
          rintro e w' ⟨rfl, q, rfl⟩
          go_wp2_with fail
          refine (HCS.out _).mono ?_
          rintro e w' ⟨rfl, rfl⟩
          have hB0 := below_drewN (Below.refl w.heap.size w) q
          go_wp2_with fail
          refine (C1.out _ hB0).mono ?_
          rintro e w1 ⟨rfl, hb1⟩
          have hB1 := hB0.trans hb1
          go_wp2_with fail
          refine (C2.out _ hB1).mono ?_
          rintro e w2 ⟨rfl, hb2⟩
          have hB2 := hB1.trans (hb2.mono hB1.size)
          go_wp2
          go_ret2
          exact ⟨by rw [HV.out]; rfl, hB2⟩
        · have HV : Hid (valueB num i s (P' ++ [x]) = (nodeB x (valueB (num - k) (i - k) s P').1, (valueB (num - k) (i - k) s P').2)) := by show _ = _; rw [valueB_hi hnum (by rw [← hke]; exact hik), ← hke]
          have C1 : Hid (∀ W, Below w.heap.size w W → Calls Tryd.prog 37 #[.int .i64 ((num : Int) - k), .int .i64 ((i : Int) - k), .string s, .slice (some ⟨b, o, none⟩) (n - 1) c] W fun e w' => e = .returned (.tuple #[.string (valueB (num - k) (i - k) s P').1, .bool (valueB (num - k) (i - k) s P').2]) ∧ Below W.heap.size W w') := Lib.hid fun W h => by
            have := ih P' (some ⟨b, o, none⟩) (n - 1) c B (num - k) (i - k) s W (by omega) (hR2.below (h.mono hB)) (Nat.le_trans hB h.size) (by omega) (by omega) (by omega) (by omega) hs hP2 (hT.below h (Nat.le_refl _))
            rw [show ((num - k : Nat) : Int) = (num : Int) - k from by omega, show ((i - k : Nat) : Int) = (i : Int) - k from by omega] at this
            exact this
          have C2 := Lib.hid fun W (h : Below w.heap.size w W) => nodeB_any x (valueB (num - k) (i - k) s P').1 W hx (small_32 (valueB_size _ _ _ _)) (hT.below h (Nat.le_refl _))
          generalize valueB (num - k) (i - k) s P' = r at *
          obtain ⟨r1, r2⟩ := r
          clear hR hs hT hP hN hl hR2 hP2 hcell hke hnum ih hx
          go_enter Tryd.func37, Tryd.ntmps37
          go_wp2_with fail
          refine HCC.out.mono ?_
          rintro e w' ⟨rfl, q, rfl⟩
          go_wp2_with fail
          refine (HCS.out _).mono ?_
          rintro e w' ⟨rfl, rfl⟩
          have hB0 := below_drewN (Below.refl w.heap.size w) q
          go_wp2_with fail
          refine (C1.out _ hB0).mono ?_
          rintro e w1 ⟨rfl, hb1⟩
          have hB1 := hB0.trans hb1
          go_wp2_with fail
          refine (C2.out _ hB1).mono ?_
          rintro e w2 ⟨rfl, hb2⟩
          have hB2 := hB1.trans (hb2.mono hB1.size)
          go_wp2
          go_ret2
          exact ⟨by rw [HV.out]; rfl, hB2⟩

/-- What Verify returns. -/
def verB (root : ByteArray) (n i : Int) (s : ByteArray) (P : List ByteArray) : Bool :=
  decide (0 ≤ i ∧ i < n) && (all32 P && ((valueB n.toNat i.toNat s P).2 && decide ((valueB n.toNat i.toNat s P).1 = root)))
theorem verB_out {root : ByteArray} {n i : Int} {s : ByteArray} {P : List ByteArray} (h : ¬ (0 ≤ i ∧ i < n)) : verB root n i s P = false := by unfold verB; simp [h]
theorem verB_not {root : ByteArray} {n i : Int} {s : ByteArray} {P : List ByteArray} (h : all32 P = false) : verB root n i s P = false := by unfold verB; simp [h]
theorem verB_in {root : ByteArray} {n i : Nat} {s : ByteArray} {P : List ByteArray} (hi : i < n) (h : all32 P = true) : verB root n i s P = ((valueB n i s P).2 && decide ((valueB n i s P).1 = root)) := by
  unfold verB
  rw [h, decide_eq_true (show (0 : Int) ≤ i ∧ (i : Int) < n by omega)]
  simp
/-- Strings as the program compares them. -/
theorem str_beq (a b : ByteArray) : (a.toList == b.toList) = decide (a = b) := by
  rw [Lib.toList_data, Lib.toList_data, Bool.eq_iff_iff, beq_iff_eq, decide_eq_true_iff]
  exact ⟨list_inj, fun h => by rw [h]⟩

set_option maxRecDepth 100000 in
set_option maxHeartbeats 1000000 in
theorem verify_any (root : ByteArray) (num i : Int) (s : ByteArray) (A : Option Addr) (n c B : Nat) (P : List ByteArray) (w : World) (hnum : num ≤ 9223372036854775807) (hR : Rd w B A n c P) (hB : B ≤ w.heap.size) (hn : n ≤ 1099511627776)
    (hs : Small s) (hP : ∀ x ∈ P, x.size ≤ 9223372036854775807) (hT : Tab w) :
    Calls Tryd.prog 23 #[.string root, .int .i64 num, .int .i64 i, .string s, .slice A n c] w fun e w' => e = .returned (.bool (verB root num i s P)) ∧ Below w.heap.size w w' := by
  by_cases hi0 : i < 0
  · have HV : Hid (verB root num i s P = false) := verB_out (by omega)
    clear hR hs hP hT
    go_enter Tryd.func23, Tryd.ntmps23
    go_wp2
    go_ret
    exact ⟨by rw [HV.out]; rfl, Below.refl _ _⟩
  · by_cases hi1 : num ≤ i
    · have HV : Hid (verB root num i s P = false) := verB_out (by omega)
      clear hR hs hP hT
      go_enter Tryd.func23, Tryd.ntmps23
      go_wp2
      go_ret
      exact ⟨by rw [HV.out]; rfl, Below.refl _ _⟩
    · have hi2 : i < num := by omega
      have CD := allDigests_any A n c P B w hR hn hP
      rcases hall : all32 P with _ | _
      · have HV : Hid (verB root num i s P = false) := verB_not hall
        rw [hall] at CD
        have CD := Lib.hid CD
        clear hR hs hP hT hall
        go_enter Tryd.func23, Tryd.ntmps23
        go_wp2_with (go_at_call 36; refine CD.out.mono ?_; rintro e w' ⟨rfl, rfl⟩)
        go_ret
        exact ⟨by rw [HV.out]; rfl, Below.refl _ _⟩
      · obtain ⟨I, rfl⟩ := Int.eq_ofNat_of_zero_le (show 0 ≤ i by omega)
        obtain ⟨M, rfl⟩ := Int.eq_ofNat_of_zero_le (show 0 ≤ num by omega)
        have HV := Lib.hid (verB_in (root := root) (s := s) (i := I) (n := M) (by omega) hall)
        have CV := Lib.hid (value_any P.length P A n c B M I s w (Nat.le_refl _) hR hB hn (by omega) (by omega) (by omega) hs (fun x hx => small_32 (by rw [all32_mem hall x hx]; omega)) hT)
        rw [hall] at CD
        have CD := Lib.hid CD
        generalize valueB M I s P = r at *
        obtain ⟨r1, r2⟩ := r
        clear hR hs hP hT hall
        dsimp only at HV CV
        cases r2
        · go_enter Tryd.func23, Tryd.ntmps23
          go_wp2_with (go_at_call 36; refine CD.out.mono ?_; rintro e w' ⟨rfl, rfl⟩)
          refine CV.out.mono ?_
          rintro e w1 ⟨rfl, hb1⟩
          go_wp2
          go_ret
          exact ⟨by rw [HV.out]; rfl, hb1⟩
        · have HQ := Lib.hid (str_beq r1 root)
          go_enter Tryd.func23, Tryd.ntmps23
          go_wp2_with (go_at_call 36; refine CD.out.mono ?_; rintro e w' ⟨rfl, rfl⟩)
          refine CV.out.mono ?_
          rintro e w1 ⟨rfl, hb1⟩
          go_wp2
          go_ret
          exact ⟨by rw [HV.out, ← HQ.out]; rfl, hb1⟩
end Go.Proofs.YthaegodeijfbdaaDoor
