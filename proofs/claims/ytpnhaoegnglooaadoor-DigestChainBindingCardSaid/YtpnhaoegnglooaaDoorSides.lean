/- The contract of the statements' helper sides. Conditions: the slice reads and is short; the strings are no longer than 1,000 bytes; the numbers are of their Go type; the table holds what its text says. -/
import Derived.Test.YtpnhaoegnglooaaDoorBinding
namespace Go.Proofs.YtpnhaoegnglooaaDoor
open Go.RowKit Go.Lib

theorem sidesR_small (old : ByteArray) (ho : old.size ≤ 1000) : ∀ (q : List ByteArray) (m n : Nat) (whole : Bool), (∀ x ∈ q, x.size ≤ 1000) → (sidesR old m n whole q).2.size ≤ 1000
  | [], m, n, whole, hq => ho
  | x :: q, m, n, whole, hq => by
    unfold sidesR
    split
    · cases whole
      · exact hq _ (List.getLast_mem _)
      · exact ho
    · split <;> (show (nodeB _ _).size ≤ 1000; rw [nodeB, dg_size]; omega)
theorem sidesB_small {old : ByteArray} {P : List ByteArray} (ho : old.size ≤ 1000) (hP : ∀ x ∈ P, x.size ≤ 1000) (m n : Nat) (whole : Bool) : (sidesB old m n P whole).2.size ≤ 1000 :=
  sidesR_small old ho P.reverse m n whole (fun x hx => hP x (by simpa using hx))
theorem mk1_size (b : UInt8) (r t : ByteArray) : (mk (b :: (r.data.toList ++ t.data.toList))).size = 1 + r.size + t.size := by rw [← cat3, ByteArray.size_append, ByteArray.size_append]; rfl
theorem sides_smalls (old : ByteArray) (ho : old.size ≤ 1000) : ∀ (q : List ByteArray) (m n : Nat) (whole : Bool), (∀ x ∈ q, x.size ≤ 1000) → ∀ z ∈ (sidesR old m n whole q).1, Small z
  | [], m, n, whole, _, z, hz => by simp [sidesR] at hz
  | x :: q, m, n, whole, hq, z, hz => by
    have hx := hq x (by simp)
    have hq2 : ∀ y ∈ q, y.size ≤ 1000 := fun y hy => hq y (by simp [hy])
    unfold sidesR at hz
    split at hz
    · simp at hz
    · split at hz
      · simp only [List.mem_cons] at hz
        rcases hz with rfl | hz
        · have := sidesR_small old ho q m (spl n) whole hq2
          unfold Small; rw [mk1_size]; omega
        · exact sides_smalls old ho q _ _ _ hq2 z hz
      · simp only [List.mem_cons] at hz
        rcases hz with rfl | hz
        · have := sidesR_small old ho q (m - spl n) (n - spl n) false hq2
          unfold Small; rw [mk1_size]; omega
        · exact sides_smalls old ho q _ _ _ hq2 z hz

set_option maxRecDepth 100000 in
set_option maxHeartbeats 4000000 in
theorem sides_any (N : Nat) : ∀ (P : List ByteArray) (A : Option Addr) (n c B m num : Nat) (old : ByteArray) (whole : Bool) (w : World), P.length ≤ N → Rd w B A n c P → B ≤ w.heap.size → n ≤ 1000 → 1 ≤ m → m ≤ num → num ≤ 9223372036854775807 → old.size ≤ 1000 → (∀ x ∈ P, x.size ≤ 1000) → Tab w →
    Calls Tryd.prog 37 #[.string old, .int .i64 m, .int .i64 num, .slice A n c, .bool whole] w (Two w (sidesB old m num P whole)) := by
  induction N with
  | zero =>
    intro P A n c B m num old whole w hN hR hB hn h1 h2 h3 ho hP hT
    have hP0 : P = [] := List.eq_nil_of_length_eq_zero (by omega)
    subst hP0
    have hn0 : n = 0 := hR.1
    subst hn0
    have HW := Lib.hid (sidesB_nil old m num whole)
    clear hR hT hP hN
    by_cases hm : m = num
    · subst hm
      cases whole <;>
      · go_enter Tryd.func37, Tryd.ntmps37
        go_wp2
        go_ret2
        exact ⟨_, by rw [HW.out]; rfl, by rw [HW.out]; exact World.ownsRow_nil _ _ _ _, Below.refl _ _⟩
    · have hm2 : m < num := by omega
      clear hm
      cases whole <;>
      · go_enter Tryd.func37, Tryd.ntmps37
        go_wp2
        go_ret2
        exact ⟨_, by rw [HW.out]; rfl, by rw [HW.out]; exact World.ownsRow_nil _ _ _ _, Below.refl _ _⟩
  | succ N ih =>
    intro P A n c B m num old whole w hN hR hB hn h1 h2 h3 ho hP hT
    rcases List.eq_nil_or_concat P with hP0 | ⟨P', x, hP0⟩
    · exact ih P A n c B m num old whole w (by rw [hP0]; simp) hR hB hn h1 h2 h3 ho hP hT
    · rw [List.concat_eq_append] at hP0
      by_cases hm : m = num
      · have HW := Lib.hid (sidesB_end (old := old) (p := P) (whole := whole) (show num ≤ m by omega))
        have hn1 : 0 < n := by have := hR.1; rw [hP0] at this; simp at this; omega
        subst hm
        obtain ⟨b, o, rfl, hb, hcell⟩ := hR.2.2 hn1
        have hc0 : w.cell? ⟨b, o, none⟩ = some (.string (P.headD old)) := by
          have hl : 0 < P.length := by have := hR.1; omega
          have := hcell 0 hl
          rw [show o + 0 = o from rfl] at this
          rw [this, List.headD_eq_head?_getD, List.head?_eq_getElem?, List.getElem?_eq_getElem hl]; rfl
        obtain ⟨y, hy⟩ : ∃ y, y = P.headD old := ⟨_, rfl⟩
        rw [← hy] at hc0
        have HY := Lib.hid hy
        have n2 : ((n : Int) == 0) = false := by rw [beq_eq_false_iff_ne]; omega
        have q1 : (0 : Int) < (n : Int) := by omega
        clear hR hT hP hN hcell hP0 ih hy
        cases whole
        · go_enter Tryd.func37, Tryd.ntmps37
          go_wp2_with fail
          go_quiet (fail)
          go_wp2
          go_ret2
          exact ⟨_, by rw [HW.out, HY.out]; rfl, by rw [HW.out]; exact World.ownsRow_nil _ _ _ _, below_drewN (Below.refl _ _) _⟩
        · go_enter Tryd.func37, Tryd.ntmps37
          go_wp2
          go_ret2
          exact ⟨_, by rw [HW.out]; rfl, by rw [HW.out]; exact World.ownsRow_nil _ _ _ _, Below.refl _ _⟩
      · subst hP0
        have hl := hR.1
        rw [List.length_append, List.length_singleton] at hl hN
        obtain ⟨b, o, rfl, hb, hcell⟩ := hR.2.2 (by omega)
        have hk := spl_lt (n := num) (by omega)
        have hp := spl_pos num
        have HCS := Lib.hid fun w => left_any num w (by omega) h3
        obtain ⟨k, hke⟩ : ∃ k, k = spl num := ⟨_, rfl⟩
        rw [← hke] at hk hp HCS
        have hR2 := read_cut hR
        have hcl : w.cell? ⟨b, o + (n - 1), none⟩ = some (.string x) := by
          have := (hR.at_ (i := n - 1) (by rw [List.length_append, List.length_singleton]; omega)).2
          rw [this, List.getElem_append_right (by omega)]; simp
        have hsl := run_slice_to 26 9 b o n c (n - 1) Tryd.underlying26 infoStr (by omega) hR.2.1
        rw [show ((n - 1 : Nat) : Int) = (n : Int) - 1 from by omega] at hsl
        have p1 : (1 : Int) ≤ (n : Int) := by omega
        have p2 : (n : Int) - 1 < (n : Int) := by omega
        have p3 : (0 : Int) ≤ (n : Int) - 1 := by omega
        have p4 : ((n : Int) - 1).toNat = n - 1 := by omega
        have hx : x.size ≤ 1000 := hP x (by simp)
        have hP2 : ∀ y ∈ P', y.size ≤ 1000 := fun y hy => hP y (by simp [hy])
        have n2 : ((n : Int) == 0) = false := by rw [beq_eq_false_iff_ne]; omega
        have hm2 : m < num := by omega
        have hB0 := Below.refl w.heap.size w
        by_cases hik : m ≤ k
        · have HW := sidesB_lo (old := old) (x := x) (p := P') (whole := whole) hm2 (by rw [← hke]; exact hik)
          rw [← hke] at HW
          have C1 := ih P' (some ⟨b, o, none⟩) (n - 1) c B m k old whole w (by omega) hR2 hB (by omega) h1 hik (by omega) ho hP2 hT
          have HSZ := sidesB_small ho hP2 m k whole
          have C2 := Lib.hid fun W (h : Below w.heap.size w W) => nodeB_any (sidesB old m k P' whole).2 x W (by unfold Small; omega) (by unfold Small; omega) (hT.below h (Nat.le_refl _))
          have HLEN := sidesB_length old m k P' whole
          obtain ⟨r, hr⟩ : ∃ r, r = sidesB old m k P' whole := ⟨_, rfl⟩
          rw [← hr] at HW C1 C2 HLEN HSZ
          clear hr
          obtain ⟨r1, r2⟩ := r
          dsimp only at HW C1 C2 HLEN HSZ
          obtain ⟨lr, hlr⟩ : ∃ lr, r1.length = lr := ⟨_, rfl⟩
          have hlr2 : lr ≤ 1000 := by omega
          have HLR := Lib.hid hlr
          have HW := Lib.hid HW
          have C1 := Lib.hid C1
          clear hR hT hP hN hl hR2 hP2 hcell hke hm ih HLEN hlr
          cases whole <;>
          · go_enter Tryd.func37, Tryd.ntmps37
            go_wp2_with fail
            refine (HCS.out _).mono ?_
            rintro e w' ⟨rfl, rfl⟩
            go_wp2_with fail
            refine C1.out.mono ?_
            rintro e w1 ⟨v1, he, ho1, hb1⟩
            dsimp only at he ho1
            subst he
            obtain ⟨A5, c5, rfl, hA5, hX5⟩ := own_slice ho1 HLR.out
            have HX5 := Lib.hid hX5; have HA5 := Lib.hid hA5
            clear ho1 hX5 hA5
            have hsz := hb1.size
            go_wp2_with (at_builtin; refine wpList_append_strs _ rfl _ _ rfl w.heap.size _ 1 [⟨#[1]⟩ ++ r2 ++ x] rfl (own_lit1 w1 (⟨#[1]⟩ ++ r2 ++ x) hb1.size) A5 lr c5 _ r1 rfl (HX5.out.below ((Below.refl _ _).alloc (Nat.le_refl _) _)) HA5.out (by omega) (by simp; omega) ?_; intro v3 w3 ho3 hg3; have hb3 := (hb1.alloc hb1.size (.cells #[.string (⟨#[1]⟩ ++ r2 ++ x)] 9)).grown hg3 (by have := hb1.size; simp; omega) (own_base (own_lit1 w1 (⟨#[1]⟩ ++ r2 ++ x) hb1.size)); have HO3 := Lib.hid ho3; clear ho3 hg3)
            refine (C2.out _ hb3).mono ?_
            rintro e w4 ⟨rfl, hb4⟩
            have hb5 := hb3.trans (hb4.mono hb3.size)
            have HO4 := Lib.hid (own_below HO3.out hb4 (Nat.le_refl _))
            go_wp2
            go_ret2
            exact ⟨_, by rw [HW.out]; rfl, by rw [HW.out, ← cat3]; have := HO4.out; rw [show 1 + lr = ((⟨#[1]⟩ ++ r2 ++ x) :: r1).length from by rw [List.length_cons, HLR.out]; omega] at this; exact this, hb5⟩
        · have HW := sidesB_hi (old := old) (x := x) (p := P') (whole := whole) hm2 (by rw [← hke]; exact hik)
          rw [← hke] at HW
          have C1 := ih P' (some ⟨b, o, none⟩) (n - 1) c B (m - k) (num - k) old false w (by omega) hR2 hB (by omega) (by omega) (by omega) (by omega) ho hP2 hT
          rw [show ((num - k : Nat) : Int) = (num : Int) - k from by omega, show ((m - k : Nat) : Int) = (m : Int) - k from by omega] at C1
          have HSZ := sidesB_small ho hP2 (m - k) (num - k) false
          have C2 := Lib.hid fun W (h : Below w.heap.size w W) => nodeB_any x (sidesB old (m - k) (num - k) P' false).2 W (by unfold Small; omega) (by unfold Small; omega) (hT.below h (Nat.le_refl _))
          have HLEN := sidesB_length old (m - k) (num - k) P' false
          obtain ⟨r, hr⟩ : ∃ r, r = sidesB old (m - k) (num - k) P' false := ⟨_, rfl⟩
          rw [← hr] at HW C1 C2 HLEN HSZ
          clear hr
          obtain ⟨r1, r2⟩ := r
          dsimp only at HW C1 C2 HLEN HSZ
          obtain ⟨lr, hlr⟩ : ∃ lr, r1.length = lr := ⟨_, rfl⟩
          have hlr2 : lr ≤ 1000 := by omega
          have HLR := Lib.hid hlr
          have HW := Lib.hid HW
          have C1 := Lib.hid C1
          clear hR hT hP hN hl hR2 hP2 hcell hke hm ih HLEN hlr
          cases whole <;>
          · go_enter Tryd.func37, Tryd.ntmps37
            go_wp2_with fail
            refine (HCS.out _).mono ?_
            rintro e w' ⟨rfl, rfl⟩
            go_wp2_with fail
            refine C1.out.mono ?_
            rintro e w1 ⟨v1, he, ho1, hb1⟩
            dsimp only at he ho1
            subst he
            obtain ⟨A5, c5, rfl, hA5, hX5⟩ := own_slice ho1 HLR.out
            have HX5 := Lib.hid hX5; have HA5 := Lib.hid hA5
            clear ho1 hX5 hA5
            have hsz := hb1.size
            go_wp2_with (at_builtin; refine wpList_append_strs _ rfl _ _ rfl w.heap.size _ 1 [⟨#[1]⟩ ++ x ++ r2] rfl (own_lit1 w1 (⟨#[1]⟩ ++ x ++ r2) hb1.size) A5 lr c5 _ r1 rfl (HX5.out.below ((Below.refl _ _).alloc (Nat.le_refl _) _)) HA5.out (by omega) (by simp; omega) ?_; intro v3 w3 ho3 hg3; have hb3 := (hb1.alloc hb1.size (.cells #[.string (⟨#[1]⟩ ++ x ++ r2)] 9)).grown hg3 (by have := hb1.size; simp; omega) (own_base (own_lit1 w1 (⟨#[1]⟩ ++ x ++ r2) hb1.size)); have HO3 := Lib.hid ho3; clear ho3 hg3)
            refine (C2.out _ hb3).mono ?_
            rintro e w4 ⟨rfl, hb4⟩
            have hb5 := hb3.trans (hb4.mono hb3.size)
            have HO4 := Lib.hid (own_below HO3.out hb4 (Nat.le_refl _))
            go_wp2
            go_ret2
            exact ⟨_, by rw [HW.out]; rfl, by rw [HW.out, ← cat3]; have := HO4.out; rw [show 1 + lr = ((⟨#[1]⟩ ++ x ++ r2) :: r1).length from by rw [List.length_cons, HLR.out]; omega] at this; exact this, hb5⟩
end Go.Proofs.YtpnhaoegnglooaaDoor
