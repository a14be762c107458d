/- The contracts of sameValues, twoValues and VerifyExtension. Conditions: the slice reads, has at most 2^40 strings; numbers are of their Go types; the table holds what its text says. -/
import Derived.Test.YthaegodeijfbdaaDoorExtOf
namespace Go.Proofs.YthaegodeijfbdaaDoor
open Go.RowKit Go.Lib

/-- Two strings and a bool, as the program returns them. -/
def three (r : ByteArray × ByteArray × Bool) : Ending := .returned (.tuple #[.string r.1, .string r.2.1, .bool r.2.2])

set_option maxRecDepth 100000 in
theorem same_any (old : ByteArray) (A : Option Addr) (n c B m : Nat) (P : List ByteArray) (whole : Bool) (w : World) (hR : Rd w B A n c P) :
    Calls Tryd.prog 48 #[.string old, .slice A n c, .bool whole] w fun e w' => e = three (twoB old m m P whole) ∧ ∃ k, w' = w.drewN k := by
  have hl := hR.1
  cases whole
  · have HV := Lib.hid (twoB_part old m P)
    match P, hl with
    | [], hl =>
      have hn : n = 0 := hl
      subst hn
      clear hR hl
      go_enter Tryd.func48, Tryd.ntmps48
      go_wp2
      go_ret3
      exact ⟨by rw [HV.out]; rfl, 0, rfl⟩
    | [x], hl =>
      have hn : n = 1 := hl
      subst hn
      obtain ⟨b, o, rfl, -, hcell⟩ := hR.2.2 (by omega)
      have hc0 : w.cell? ⟨b, o, none⟩ = some (.string x) := hcell 0 (by simp)
      clear hR hl hcell
      go_enter Tryd.func48, Tryd.ntmps48
      go_wp2
      go_quiet (fail)
      go_wp2
      go_ret3
      exact ⟨by rw [HV.out]; rfl, _, rfl⟩
    | x :: y :: r, hl =>
      have hn : 2 ≤ n := by rw [hl]; simp
      have h2 : ((n : Int) == 1) = false := by rw [beq_eq_false_iff_ne]; omega
      have h3 : ((n : Int) != 1) = true := by rw [bne, h2]; rfl
      clear hR hl
      go_enter Tryd.func48, Tryd.ntmps48
      go_wp2
      go_ret3
      exact ⟨by rw [HV.out]; rfl, 0, rfl⟩
  · have HV := Lib.hid (twoB_whole old m P)
    rcases P with _ | ⟨x, r⟩
    · have hn : n = 0 := hl
      subst hn
      clear hR hl
      go_enter Tryd.func48, Tryd.ntmps48
      go_wp2
      go_ret3
      exact ⟨by rw [HV.out]; rfl, 0, rfl⟩
    · have h2 : ((n : Int) == 0) = false := by rw [beq_eq_false_iff_ne]; rw [hl]; simp; omega
      clear hR hl
      go_enter Tryd.func48, Tryd.ntmps48
      go_wp2
      go_ret3
      exact ⟨by rw [HV.out]; rfl, 0, rfl⟩

set_option maxRecDepth 100000 in
set_option maxHeartbeats 2000000 in
theorem two_any (N : Nat) : ∀ (P : List ByteArray) (A : Option Addr) (n c B m num : Nat) (old : ByteArray) (whole : Bool) (w : World), P.length ≤ N → Rd w B A n c P → B ≤ w.heap.size → n ≤ 1099511627776 → 1 ≤ m → m ≤ num → num ≤ 9223372036854775807 → old.size ≤ 32 → (∀ x ∈ P, x.size ≤ 32) → Tab w →
    Calls Tryd.prog 40 #[.string old, .int .i64 m, .int .i64 num, .slice A n c, .bool whole] w fun e w' => e = three (twoB old m num P whole) ∧ Below w.heap.size w w' := by
  induction N with
  | zero =>
    intro P A n c B m num old whole w hN hR hB hn h1 h2 h3 ho hP hT
    have hP0 : P = [] := List.eq_nil_of_length_eq_zero (by omega)
    subst hP0
    by_cases hm : m = num
    · subst hm
      have CS := Lib.hid (same_any old A n c B m [] whole w hR)
      generalize twoB old m m [] whole = r at *
      clear hR hT hP hN
      go_enter Tryd.func40, Tryd.ntmps40
      go_wp2_with fail
      refine CS.out.mono ?_
      rintro e w' ⟨rfl, k, rfl⟩
      unfold three
      go_wp2
      go_ret3
      exact ⟨rfl, below_drewN (Below.refl _ _) _⟩
    · have hn0 : n = 0 := hR.1
      subst hn0
      have hmn : ((m : Int) == (num : Int)) = false := by rw [beq_eq_false_iff_ne]; omega
      have HV := Lib.hid (twoB_nil (old := old) (whole := whole) hm)
      clear hR hT hP hN hm
      go_enter Tryd.func40, Tryd.ntmps40
      go_wp2
      go_ret3
      exact ⟨by rw [HV.out]; rfl, Below.refl _ _⟩
  | succ N ih =>
    intro P A n c B m num old whole w hN hR hB hn h1 h2 h3 ho hP hT
    rcases List.eq_nil_or_concat P with hP0 | ⟨P', x, hP0⟩
    · exact ih P A n c B m num old whole w (by rw [hP0]; simp) hR hB hn h1 h2 h3 ho hP hT
    · rw [List.concat_eq_append] at hP0
      subst hP0
      by_cases hm : m = num
      · subst hm
        have CS := Lib.hid (same_any old A n c B m (P' ++ [x]) whole w hR)
        generalize twoB old m m (P' ++ [x]) whole = r at *
        clear hR hT hP hN
        go_enter Tryd.func40, Tryd.ntmps40
        go_wp2_with fail
        refine CS.out.mono ?_
        rintro e w' ⟨rfl, k, rfl⟩
        unfold three
        go_wp2
        go_ret3
        exact ⟨rfl, below_drewN (Below.refl _ _) _⟩
      · have hl := hR.1
        rw [List.length_append, List.length_singleton] at hl hN
        obtain ⟨b, o, rfl, hb, hcell⟩ := hR.2.2 (by omega)
        have hk := spl_lt (n := num) (by omega)
        have hp := spl_pos num
        have HCC := Lib.hid (cutLast_any b o n c P' x B w hR hn)
        have HCS := Lib.hid fun w => split_any num w (by omega) h3
        obtain ⟨k, hke⟩ : ∃ k, k = spl num := ⟨_, rfl⟩
        rw [← hke] at hk hp HCS
        have hR2 := read_cut hR
        have hx : x.size ≤ 32 := hP x (by simp)
        have hP2 : ∀ y ∈ P', y.size ≤ 32 := fun y hy => hP y (by simp [hy])
        have n1 : ((m : Int) == (num : Int)) = false := by rw [beq_eq_false_iff_ne]; omega
        have n2 : ((n : Int) == 0) = false := by rw [beq_eq_false_iff_ne]; omega
        by_cases hik : m ≤ k
        · have HV : Hid (twoB old m num (P' ++ [x]) whole = ((twoB old m k P' whole).1, nodeB (twoB old m k P' whole).2.1 x, (twoB old m k P' whole).2.2)) := by show _ = _; rw [twoB_lo hm (by rw [← hke]; exact hik), ← hke]
          have C1 := Lib.hid fun W (h : Below w.heap.size w W) => ih P' (some ⟨b, o, none⟩) (n - 1) c B m k old whole W (by omega) (hR2.below (h.mono hB)) (Nat.le_trans hB h.size) (by omega) h1 hik (by omega) ho hP2 (hT.below h (Nat.le_refl _))
          have hsz := twoB_size ho hP2 m k whole
          have C2 := Lib.hid fun W (h : Below w.heap.size w W) => nodeB_any (twoB old m k P' whole).2.1 x W (small_32 hsz.2) (small_32 hx) (hT.below h (Nat.le_refl _))
          clear hsz
          generalize twoB old m k P' whole = r at *
          obtain ⟨r1, r2, r3⟩ := r
          unfold three at C1
          dsimp only at C1 C2 HV
          clear hR hT hP hN hl hR2 hP2 hcell hke hm ih hx ho
          go_enter Tryd.func40, Tryd.ntmps40
          go_wp2_with fail
          refine HCC.out.mono ?_
          rintro e w' ⟨rfl, q, rfl⟩
          go_wp2_with fail
          refine (HCS.out _).mono ?_
          rintro e w' ⟨rfl, rfl⟩
          have hB0 := below_drewN (Below.refl w.heap.size w) q
          go_wp2_with fail
          refine (C1.out _ hB0).mono ?_
          rintro e w1 ⟨rfl, hb1⟩
          have hB1 := hB0.trans hb1
          go_wp2_with fail
          refine (C2.out _ hB1).mono ?_
          rintro e w2 ⟨rfl, hb2⟩
          have hB2 := hB1.trans (hb2.mono hB1.size)
          go_wp2
          go_ret3
          exact ⟨by rw [HV.out]; rfl, hB2⟩
        · have HV : Hid (twoB old m num (P' ++ [x]) whole = (nodeB x (twoB old (m - k) (num - k) P' false).1, nodeB x (twoB old (m - k) (num - k) P' false).2.1, (twoB old (m - k) (num - k) P' false).2.2)) := by show _ = _; rw [twoB_hi hm (by rw [← hke]; exact hik), ← hke]
          have C1 : Hid (∀ W, Below w.heap.size w W → Calls Tryd.prog 40 #[.string old, .int .i64 ((m : Int) - k), .int .i64 ((num : Int) - k), .slice (some ⟨b, o, none⟩) (n - 1) c, .bool false] W fun e w' => e = three (twoB old (m - k) (num - k) P' false) ∧ Below W.heap.size W w') := Lib.hid fun W h => by
            have := ih P' (some ⟨b, o, none⟩) (n - 1) c B (m - k) (num - k) old false W (by omega) (hR2.below (h.mono hB)) (Nat.le_trans hB h.size) (by omega) (by omega) (by omega) (by omega) ho hP2 (hT.below h (Nat.le_refl _))
            rw [show ((num - k : Nat) : Int) = (num : Int) - k from by omega, show ((m - k : Nat) : Int) = (m : Int) - k from by omega] at this
            exact this
          have hsz := twoB_size ho hP2 (m - k) (num - k) false
          have C2 := Lib.hid fun W (h : Below w.heap.size w W) => nodeB_any x (twoB old (m - k) (num - k) P' false).1 W (small_32 hx) (small_32 hsz.1) (hT.below h (Nat.le_refl _))
          have C3 := Lib.hid fun W (h : Below w.heap.size w W) => nodeB_any x (twoB old (m - k) (num - k) P' false).2.1 W (small_32 hx) (small_32 hsz.2) (hT.below h (Nat.le_refl _))
          clear hsz
          generalize twoB old (m - k) (num - k) P' false = r at *
          obtain ⟨r1, r2, r3⟩ := r
          unfold three at C1
          dsimp only at C1 C2 C3 HV
          clear hR hT hP hN hl hR2 hP2 hcell hke hm ih hx ho
          go_enter Tryd.func40, Tryd.ntmps40
          go_wp2_with fail
          refine HCC.out.mono ?_
          rintro e w' ⟨rfl, q, rfl⟩
          go_wp2_with fail
          refine (HCS.out _).mono ?_
          rintro e w' ⟨rfl, rfl⟩
          have hB0 := below_drewN (Below.refl w.heap.size w) q
          go_wp2_with fail
          refine (C1.out _ hB0).mono ?_
          rintro e w1 ⟨rfl, hb1⟩
          have hB1 := hB0.trans hb1
          go_wp2_with fail
          refine (C2.out _ hB1).mono ?_
          rintro e w2 ⟨rfl, hb2⟩
          have hB2 := hB1.trans (hb2.mono hB1.size)
          go_wp2_with fail
          refine (C3.out _ hB2).mono ?_
          rintro e w3 ⟨rfl, hb3⟩
          have hB3 := hB2.trans (hb3.mono hB2.size)
          go_wp2
          go_ret3
          exact ⟨by rw [HV.out]; rfl, hB3⟩
end Go.Proofs.YthaegodeijfbdaaDoor
