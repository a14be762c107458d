/- The contracts of the statements' helpers way and collide. Conditions: the slices read and are short; the strings are no longer than 2^50 bytes; the numbers are of their Go type; the table holds what its text says. -/
import Derived.Test.YtpnhaoegnglooaaDoorProofAcc
import Derived.Test.YtpnhaoegnglooaaDoorBind
namespace Go.Proofs.YtpnhaoegnglooaaDoor
open Go.RowKit Go.Lib

theorem cat2 (b : UInt8) (s : ByteArray) : (⟨#[b]⟩ : ByteArray) ++ s = mk (b :: s.data.toList) := by
  apply list_inj; rw [ByteArray.data_append, Array.toList_append]; rfl
theorem cat3 (b : UInt8) (s t : ByteArray) : (⟨#[b]⟩ : ByteArray) ++ s ++ t = mk (b :: (s.data.toList ++ t.data.toList)) := by
  apply list_inj; rw [ByteArray.data_append, ByteArray.data_append, Array.toList_append, Array.toList_append]; rfl
theorem enters_Sum : ∀ args w, (callFunc 13 args).run Tryd.prog w = .ok (.enter 13 args) w := enters_of Tryd.func13 (by kernel_rfl) rfl

/-- What way, heads and sides return: a list of the call's own, and a string. -/
def Two (w : World) (r : List ByteArray × ByteArray) (e : Ending) (w' : World) : Prop := ∃ v, e = .returned (.tuple #[v, .string r.2]) ∧ w'.ownsRow w.heap.size 9 1 v r.1.length (r.1.map sv) ∧ Below w.heap.size w w'
theorem wayR_length : ∀ (q : List ByteArray) (n i : Nat) (s : ByteArray), (wayR n i s q).1.length ≤ q.length + 1
  | [], n, i, s => Nat.le_refl _
  | x :: q, n, i, s => by
    unfold wayR
    split
    · simp
    · split
      · have := wayR_length q (spl n) i s; simp; omega
      · have := wayR_length q (n - spl n) (i - spl n) s; simp; omega
theorem wayB_length (n i : Nat) (s : ByteArray) (p : List ByteArray) : (wayB n i s p).1.length ≤ p.length + 1 := by
  have := wayR_length p.reverse n i s
  rw [List.length_reverse] at this; exact this
theorem wayB_size (n i : Nat) (s : ByteArray) (p : List ByteArray) : (wayB n i s p).2.size = 32 := wayR_size _ _ _ _

set_option maxRecDepth 100000 in
set_option maxHeartbeats 1000000 in
theorem way_any (N : Nat) : ∀ (P : List ByteArray) (A : Option Addr) (n c B num i : Nat) (s : ByteArray) (w : World), P.length ≤ N → Rd w B A n c P → B ≤ w.heap.size → n ≤ 1000 → 1 ≤ num → num ≤ 9223372036854775807 → i < num → s.size ≤ 1000 → (∀ x ∈ P, x.size ≤ 1000) → Tab w →
    Calls Tryd.prog 34 #[.int .i64 num, .int .i64 i, .string s, .slice A n c] w (Two w (wayB num i s P)) := by
  induction N with
  | zero =>
    intro P A n c B num i s w hN hR hB hn h1 h2 hi hs hP hT
    have hP0 : P = [] := List.eq_nil_of_length_eq_zero (by omega)
    subst hP0
    have hn0 : n = 0 := hR.1
    subst hn0
    have HW := Lib.hid (wayB_end (n := num) (i := i) (s := s) (p := []) (Or.inr rfl))
    have HL := Lib.hid fun t => leafB_any s (w.alloc (.cells #[.string (⟨#[0]⟩ ++ s)] t)) (by unfold Small; omega) (hT.below ((Below.refl _ w).alloc (Nat.le_refl _) _) (Nat.le_refl _))
    clear hR hT hP hN
    have hd : (decide (num ≤ 1) || true) = true := by simp
    go_enter Tryd.func34, Tryd.ntmps34
    by_cases hnum : num ≤ 1
    · go_wp2_with fail
      refine (HL.out _).mono ?_
      rintro e w' ⟨rfl, hb⟩
      have ho := own_below (own_lit1 w (⟨#[0]⟩ ++ s) (Nat.le_refl _)) hb (Nat.le_refl _)
      have HO := Lib.hid ho
      clear ho
      go_wp2
      go_ret2
      exact ⟨_, by rw [HW.out]; rfl, by rw [HW.out, ← cat2]; exact HO.out, ((Below.refl _ w).alloc (Nat.le_refl _) _).trans (hb.mono (by simp))⟩
    · go_wp2_with fail
      refine (HL.out _).mono ?_
      rintro e w' ⟨rfl, hb⟩
      have ho := own_below (own_lit1 w (⟨#[0]⟩ ++ s) (Nat.le_refl _)) hb (Nat.le_refl _)
      have HO := Lib.hid ho
      clear ho
      go_wp2
      go_ret2
      exact ⟨_, by rw [HW.out]; rfl, by rw [HW.out, ← cat2]; exact HO.out, ((Below.refl _ w).alloc (Nat.le_refl _) _).trans (hb.mono (by simp))⟩
  | succ N ih =>
    intro P A n c B num i s w hN hR hB hn h1 h2 hi hs hP hT
    rcases List.eq_nil_or_concat P with hP0 | ⟨P', x, hP0⟩
    · exact ih P A n c B num i s w (by rw [hP0]; simp) hR hB hn h1 h2 hi hs hP hT
    · rw [List.concat_eq_append] at hP0
      subst hP0
      have hl := hR.1
      rw [List.length_append, List.length_singleton] at hl hN
      by_cases hnum : num ≤ 1
      · have HW := Lib.hid (wayB_end (n := num) (i := i) (s := s) (p := P' ++ [x]) (Or.inl hnum))
        have HL := Lib.hid fun t => leafB_any s (w.alloc (.cells #[.string (⟨#[0]⟩ ++ s)] t)) (by unfold Small; omega) (hT.below ((Below.refl _ w).alloc (Nat.le_refl _) _) (Nat.le_refl _))
        clear hR hT hP hN hl
        go_enter Tryd.func34, Tryd.ntmps34
        go_wp2_with fail
        refine (HL.out _).mono ?_
        rintro e w' ⟨rfl, hb⟩
        have ho := own_below (own_lit1 w (⟨#[0]⟩ ++ s) (Nat.le_refl _)) hb (Nat.le_refl _)
        have HO := Lib.hid ho
        clear ho
        go_wp2
        go_ret2
        exact ⟨_, by rw [HW.out]; rfl, by rw [HW.out, ← cat2]; exact HO.out, ((Below.refl _ w).alloc (Nat.le_refl _) _).trans (hb.mono (by simp))⟩
      · obtain ⟨b, o, rfl, hb, hcell⟩ := hR.2.2 (by omega)
        have hk := spl_lt (n := num) (by omega)
        have hp := spl_pos num
        have HCS := Lib.hid fun w => left_any num w (by omega) h2
        obtain ⟨k, hke⟩ : ∃ k, k = spl num := ⟨_, rfl⟩
        have HKE := Lib.hid hke
        rw [← hke] at hk hp HCS
        have hR2 := read_cut hR
        have hcl : w.cell? ⟨b, o + (n - 1), none⟩ = some (.string x) := by
          have := (hR.at_ (i := n - 1) (by rw [List.length_append, List.length_singleton]; omega)).2
          rw [this, List.getElem_append_right (by omega)]; simp
        have hsl := run_slice_to 26 9 b o n c (n - 1) Tryd.underlying26 infoStr (by omega) hR.2.1
        rw [show ((n - 1 : Nat) : Int) = (n : Int) - 1 from by omega] at hsl
        have p1 : (1 : Int) ≤ (n : Int) := by omega
        have p2 : (n : Int) - 1 < (n : Int) := by omega
        have p3 : (0 : Int) ≤ (n : Int) - 1 := by omega
        have p4 : ((n : Int) - 1).toNat = n - 1 := by omega
        have hx : x.size ≤ 1000 := hP x (by simp)
        have hP2 : ∀ y ∈ P', y.size ≤ 1000 := fun y hy => hP y (by simp [hy])
        have n1 : decide ((num : Int) ≤ 1) = false := decide_eq_false (by omega)
        have n2 : ((n : Int) == 0) = false := by rw [beq_eq_false_iff_ne]; omega
        have hB0 := Below.refl w.heap.size w
        by_cases hik : i < k
        · have HW := wayB_lo (i := i) (s := s) (x := x) (p := P') (show 2 ≤ num by omega) (by rw [← hke]; exact hik)
          rw [← hke] at HW
          have C1 := ih P' (some ⟨b, o, none⟩) (n - 1) c B k i s w (by omega) hR2 hB (by omega) (by omega) (by omega) hik hs hP2 hT
          have C2 := Lib.hid fun W (h : Below w.heap.size w W) => nodeB_any (wayB k i s P').2 x W (small_32 (by rw [wayB_size]; omega)) (by unfold Small; omega) (hT.below h (Nat.le_refl _))
          have HLEN := wayB_length k i s P'
          have HSZ := wayB_size k i s P'
          obtain ⟨r, hr⟩ : ∃ r, r = wayB k i s P' := ⟨_, rfl⟩
          rw [← hr] at HW C1 C2 HLEN HSZ
          clear hr
          obtain ⟨r1, r2⟩ := r
          dsimp only at HW C1 C2 HLEN HSZ
          have hr2 : r2.size ≤ 32 := by omega
          obtain ⟨lr, hlr⟩ : ∃ lr, r1.length = lr := ⟨_, rfl⟩
          have hlr2 : lr ≤ 1000 := by omega
          have HLR := Lib.hid hlr
          have HW := Lib.hid HW
          have C1 := Lib.hid C1
          clear hR hT hP hN hl hR2 hP2 hcell hke hnum ih HLEN HSZ hlr
          go_enter Tryd.func34, Tryd.ntmps34
          go_wp2_with fail
          refine (HCS.out _).mono ?_
          rintro e w' ⟨rfl, rfl⟩
          go_wp2_with fail
          refine C1.out.mono ?_
          rintro e w1 ⟨v1, he, ho1, hb1⟩
          dsimp only at he ho1
          subst he
          obtain ⟨A5, c5, rfl, hA5, hX5⟩ := own_slice ho1 HLR.out
          have HX5 := Lib.hid hX5; have HA5 := Lib.hid hA5
          clear ho1 hX5 hA5
          have hsz := hb1.size
          go_wp2_with (at_builtin; refine wpList_append_strs _ rfl _ _ rfl w.heap.size _ 1 [⟨#[1]⟩ ++ r2 ++ x] rfl (own_lit1 w1 (⟨#[1]⟩ ++ r2 ++ x) hb1.size) A5 lr c5 _ r1 rfl (HX5.out.below ((Below.refl _ _).alloc (Nat.le_refl _) _)) HA5.out (by omega) (by simp; omega) ?_; intro v3 w3 ho3 hg3; have hb3 := (hb1.alloc hb1.size (.cells #[.string (⟨#[1]⟩ ++ r2 ++ x)] 9)).grown hg3 (by have := hb1.size; simp; omega) (own_base (own_lit1 w1 (⟨#[1]⟩ ++ r2 ++ x) hb1.size)); have HO3 := Lib.hid ho3; clear ho3 hg3)
          refine (C2.out _ hb3).mono ?_
          rintro e w4 ⟨rfl, hb4⟩
          have hb5 := hb3.trans (hb4.mono hb3.size)
          have HO4 := Lib.hid (own_below HO3.out hb4 (Nat.le_refl _))
          go_wp2
          go_ret2
          exact ⟨_, by rw [HW.out]; rfl, by rw [HW.out, ← cat3]; have := HO4.out; rw [show 1 + lr = ((⟨#[1]⟩ ++ r2 ++ x) :: r1).length from by rw [List.length_cons, HLR.out]; omega] at this; exact this, hb5⟩
        · have HW := wayB_hi (i := i) (s := s) (x := x) (p := P') (show 2 ≤ num by omega) (by rw [← hke]; exact hik)
          rw [← hke] at HW
          have C1 := ih P' (some ⟨b, o, none⟩) (n - 1) c B (num - k) (i - k) s w (by omega) hR2 hB (by omega) (by omega) (by omega) (by omega) hs hP2 hT
          rw [show ((num - k : Nat) : Int) = (num : Int) - k from by omega, show ((i - k : Nat) : Int) = (i : Int) - k from by omega] at C1
          have C2 := Lib.hid fun W (h : Below w.heap.size w W) => nodeB_any x (wayB (num - k) (i - k) s P').2 W (by unfold Small; omega) (small_32 (by rw [wayB_size]; omega)) (hT.below h (Nat.le_refl _))
          have HLEN := wayB_length (num - k) (i - k) s P'
          have HSZ := wayB_size (num - k) (i - k) s P'
          obtain ⟨r, hr⟩ : ∃ r, r = wayB (num - k) (i - k) s P' := ⟨_, rfl⟩
          rw [← hr] at HW C1 C2 HLEN HSZ
          clear hr
          obtain ⟨r1, r2⟩ := r
          dsimp only at HW C1 C2 HLEN HSZ
          have hr2 : r2.size ≤ 32 := by omega
          obtain ⟨lr, hlr⟩ : ∃ lr, r1.length = lr := ⟨_, rfl⟩
          have hlr2 : lr ≤ 1000 := by omega
          have HLR := Lib.hid hlr
          have HW := Lib.hid HW
          have C1 := Lib.hid C1
          clear hR hT hP hN hl hR2 hP2 hcell hke hnum ih HLEN HSZ hlr
          go_enter Tryd.func34, Tryd.ntmps34
          go_wp2_with fail
          refine (HCS.out _).mono ?_
          rintro e w' ⟨rfl, rfl⟩
          go_wp2_with fail
          refine C1.out.mono ?_
          rintro e w1 ⟨v1, he, ho1, hb1⟩
          dsimp only at he ho1
          subst he
          obtain ⟨A5, c5, rfl, hA5, hX5⟩ := own_slice ho1 HLR.out
          have HX5 := Lib.hid hX5; have HA5 := Lib.hid hA5
          clear ho1 hX5 hA5
          have hsz := hb1.size
          go_wp2_with (at_builtin; refine wpList_append_strs _ rfl _ _ rfl w.heap.size _ 1 [⟨#[1]⟩ ++ x ++ r2] rfl (own_lit1 w1 (⟨#[1]⟩ ++ x ++ r2) hb1.size) A5 lr c5 _ r1 rfl (HX5.out.below ((Below.refl _ _).alloc (Nat.le_refl _) _)) HA5.out (by omega) (by simp; omega) ?_; intro v3 w3 ho3 hg3; have hb3 := (hb1.alloc hb1.size (.cells #[.string (⟨#[1]⟩ ++ x ++ r2)] 9)).grown hg3 (by have := hb1.size; simp; omega) (own_base (own_lit1 w1 (⟨#[1]⟩ ++ x ++ r2) hb1.size)); have HO3 := Lib.hid ho3; clear ho3 hg3)
          refine (C2.out _ hb3).mono ?_
          rintro e w4 ⟨rfl, hb4⟩
          have hb5 := hb3.trans (hb4.mono hb3.size)
          have HO4 := Lib.hid (own_below HO3.out hb4 (Nat.le_refl _))
          go_wp2
          go_ret2
          exact ⟨_, by rw [HW.out]; rfl, by rw [HW.out, ← cat3]; have := HO4.out; rw [show 1 + lr = ((⟨#[1]⟩ ++ x ++ r2) :: r1).length from by rw [List.length_cons, HLR.out]; omega] at this; exact this, hb5⟩
end Go.Proofs.YtpnhaoegnglooaaDoor
