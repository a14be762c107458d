/- The contract of VerifyExtension. Conditions: the slice reads, has at most 2^40 strings; numbers are of their Go types; the table holds what its text says. -/
import Derived.Test.YthaegodeijfbdaaDoorTwo
namespace Go.Proofs.YthaegodeijfbdaaDoor
open Go.RowKit Go.Lib

/-- What VerifyExtension returns. -/
def extOk (old : ByteArray) (m : Int) (root : ByteArray) (n : Int) (P : List ByteArray) : Bool :=
  decide (0 ≤ m ∧ m ≤ n) && (all32 [old, root] && (all32 P && (if m = 0 then decide (P.length = 0) && decide (old = rootB []) else
    (twoB old m.toNat n.toNat P true).2.2 && (decide ((twoB old m.toNat n.toNat P true).1 = old) && decide ((twoB old m.toNat n.toNat P true).2.1 = root)))))
section
variable {old root : ByteArray} {m n : Int} {P : List ByteArray}
theorem extOk_out (h : ¬ (0 ≤ m ∧ m ≤ n)) : extOk old m root n P = false := by unfold extOk; simp [h]
theorem extOk_not1 (h : all32 [old, root] = false) : extOk old m root n P = false := by unfold extOk; simp [h]
theorem extOk_not2 (h : all32 P = false) : extOk old m root n P = false := by unfold extOk; simp [h]
theorem extOk_zero (hn : 0 ≤ n) (h1 : all32 [old, root] = true) (h2 : all32 P = true) : extOk old 0 root n P = (decide (P.length = 0) && decide (old = rootB [])) := by
  unfold extOk
  rw [h1, h2, decide_eq_true (show (0 : Int) ≤ 0 ∧ (0 : Int) ≤ n by omega)]
  simp
theorem extOk_in {m n : Nat} (hm : 1 ≤ m) (hn : m ≤ n) (h1 : all32 [old, root] = true) (h2 : all32 P = true) :
    extOk old m root n P = ((twoB old m n P true).2.2 && (decide ((twoB old m n P true).1 = old) && decide ((twoB old m n P true).2.1 = root))) := by
  unfold extOk
  rw [h1, h2, decide_eq_true (show (0 : Int) ≤ m ∧ (m : Int) ≤ n by omega), if_neg (by omega)]
  simp
end

theorem read_two (w : World) (x y : ByteArray) (t : TypeId) : Rd (w.alloc (.cells #[.string x, .string y] t)) (w.heap.size + 1) (some ⟨w.heap.size, 0, none⟩) 2 2 [x, y] :=
  ⟨rfl, Nat.le_refl _, fun _ => ⟨w.heap.size, 0, rfl, by omega, fun i hi => by
    refine (Blk.new w t _).cell ?_
    rw [Nat.zero_add]
    match i, hi with
    | 0, _ => rfl
    | 1, _ => rfl⟩⟩

set_option maxRecDepth 100000 in
set_option maxHeartbeats 2000000 in
theorem verExt_any (old root : ByteArray) (m num : Int) (A : Option Addr) (n c B : Nat) (P : List ByteArray) (w : World) (hnum : num ≤ 9223372036854775807) (hR : Rd w B A n c P) (hB : B ≤ w.heap.size) (hn : n ≤ 1099511627776)
    (ho : old.size ≤ 9223372036854775807) (hr : root.size ≤ 9223372036854775807) (hP : ∀ x ∈ P, x.size ≤ 9223372036854775807) (hT : Tab w) :
    Calls Tryd.prog 25 #[.string old, .int .i64 m, .string root, .int .i64 num, .slice A n c] w fun e w' => e = .returned (.bool (extOk old m root num P)) ∧ Below w.heap.size w w' := by
  by_cases hm0 : m < 0
  · have HV : Hid (extOk old m root num P = false) := extOk_out (by omega)
    clear hR hP hT
    go_enter Tryd.func25, Tryd.ntmps25
    go_wp2
    go_ret
    exact ⟨by rw [HV.out]; rfl, Below.refl _ _⟩
  by_cases hm1 : num < m
  · have HV : Hid (extOk old m root num P = false) := extOk_out (by omega)
    clear hR hP hT
    go_enter Tryd.func25, Tryd.ntmps25
    go_wp2
    go_ret
    exact ⟨by rw [HV.out]; rfl, Below.refl _ _⟩
  have hm2 : m ≤ num := by omega
  have C2 := fun t => allDigests_any (some ⟨w.heap.size, 0, none⟩) 2 2 [old, root] (w.heap.size + 1) (w.alloc (.cells #[.string old, .string root] t)) (read_two w old root t) (by omega) (fun s hs => by simp at hs; rcases hs with rfl | rfl <;> assumption)
  have hb0 := fun t => (Below.refl w.heap.size w).alloc (Nat.le_refl _) (.cells #[.string old, .string root] t)
  rcases hall1 : all32 [old, root] with _ | _
  · have HV : Hid (extOk old m root num P = false) := extOk_not1 hall1
    rw [hall1] at C2
    have C2 := Lib.hid C2
    clear hR hP hT hall1 ho hr
    go_enter Tryd.func25, Tryd.ntmps25
    go_wp2_with (go_at_call 36; refine (C2.out _).mono ?_; rintro e w' ⟨rfl, rfl⟩)
    go_ret
    exact ⟨by rw [HV.out]; rfl, hb0 _⟩
  rw [hall1] at C2
  have CD := fun t => allDigests_any A n c P B (w.alloc (.cells #[.string old, .string root] t)) (hR.below ((hb0 t).mono hB)) hn hP
  rcases hall2 : all32 P with _ | _
  · have HV : Hid (extOk old m root num P = false) := extOk_not2 hall2
    rw [hall2] at CD
    have C2 := Lib.hid C2; have CD := Lib.hid CD
    clear hR hP hT hall1 hall2 ho hr
    go_enter Tryd.func25, Tryd.ntmps25
    go_wp2_with (go_at_call 36; first | ((with_reducible refine (C2.out _).mono ?_); rintro e w' ⟨rfl, rfl⟩) | ((with_reducible refine (CD.out _).mono ?_); rintro e w' ⟨rfl, rfl⟩))
    go_ret
    exact ⟨by rw [HV.out]; rfl, hb0 _⟩
  rw [hall2] at CD
  have hP32 : ∀ x ∈ P, x.size ≤ 32 := fun x hx => by rw [all32_mem hall2 x hx]; omega
  have ho32 : old.size ≤ 32 := by rw [all32_mem hall1 old (by simp)]; omega
  by_cases hmz : m = 0
  · subst hmz
    have HV := Lib.hid (extOk_zero (n := num) (by omega) hall1 hall2)
    have C2 := Lib.hid C2; have CD := Lib.hid CD
    by_cases hP0 : P = []
    · subst hP0
      have hn0 : n = 0 := hR.1
      subst hn0
      have CR := Lib.hid fun W (h : Below w.heap.size w W) => root_any 0 [] none 0 0 0 W (Nat.le_refl _) Rd.nil (Nat.zero_le _) (by omega) (fun s hs => by simp at hs) (hT.below h (Nat.le_refl _))
      have HQ := Lib.hid (str_beq old (rootB []))
      obtain ⟨R0, hR0⟩ : ∃ R0, R0 = rootB [] := ⟨_, rfl⟩
      rw [← hR0] at CR HQ HV
      have HB0 := Lib.hid hb0
      clear hR hP hT hall1 hall2 ho hr hP32 ho32 hR0 hb0
      go_enter Tryd.func25, Tryd.ntmps25
      go_wp2_with (first
        | (go_at_call 36; first | ((with_reducible refine (C2.out _).mono ?_); rintro e w' ⟨rfl, rfl⟩) | ((with_reducible refine (CD.out _).mono ?_); rintro e w' ⟨rfl, rfl⟩))
        | (go_at_call 21; refine (CR.out _ (HB0.out _)).mono ?_; rintro e w1 ⟨rfl, hb1⟩; have HB1 := Lib.hid ((HB0.out _).trans (hb1.mono (HB0.out _).size)); clear hb1))
      go_ret
      exact ⟨by rw [HV.out, ← HQ.out]; rfl, HB1.out⟩
    · have hn0 : ((n : Int) == 0) = false := by
        rw [beq_eq_false_iff_ne]
        have := hR.1
        have := List.length_pos_iff.2 hP0
        omega
      have HP0 : Hid (decide (P.length = 0) = false) := decide_eq_false (fun h => hP0 (List.eq_nil_of_length_eq_zero h))
      clear hR hP hT hall1 hall2 ho hr hP32 ho32 hP0
      go_enter Tryd.func25, Tryd.ntmps25
      go_wp2_with (go_at_call 36; first | ((with_reducible refine (C2.out _).mono ?_); rintro e w' ⟨rfl, rfl⟩) | ((with_reducible refine (CD.out _).mono ?_); rintro e w' ⟨rfl, rfl⟩))
      go_ret
      exact ⟨by rw [HV.out, HP0.out]; rfl, hb0 _⟩
  obtain ⟨M, rfl⟩ := Int.eq_ofNat_of_zero_le (show 0 ≤ m by omega)
  obtain ⟨U, rfl⟩ := Int.eq_ofNat_of_zero_le (show 0 ≤ num by omega)
  have HV := Lib.hid (extOk_in (m := M) (n := U) (by omega) (by omega) hall1 hall2)
  have CT := Lib.hid fun W (h : Below w.heap.size w W) => two_any P.length P A n c B M U old true W (Nat.le_refl _) (hR.below (h.mono hB)) (Nat.le_trans hB h.size) hn (by omega) (by omega) (by omega) ho32 hP32 (hT.below h (Nat.le_refl _))
  have hmz2 : ((M : Int) == 0) = false := by rw [beq_eq_false_iff_ne]; omega
  have C2 := Lib.hid C2; have CD := Lib.hid CD; have HB0 := Lib.hid hb0
  generalize twoB old M U P true = r at *
  obtain ⟨r1, r2, r3⟩ := r
  unfold three at CT
  dsimp only at CT HV
  clear hR hP hT hall1 hall2 ho hr hP32 ho32 hb0 hmz
  cases r3
  · go_enter Tryd.func25, Tryd.ntmps25
    go_wp2_with (first
      | (go_at_call 36; first | ((with_reducible refine (C2.out _).mono ?_); rintro e w' ⟨rfl, rfl⟩) | ((with_reducible refine (CD.out _).mono ?_); rintro e w' ⟨rfl, rfl⟩))
      | (go_at_call 40; refine (CT.out _ (HB0.out _)).mono ?_; rintro e w1 ⟨rfl, hb1⟩; have HB1 := Lib.hid ((HB0.out _).trans (hb1.mono (HB0.out _).size)); clear hb1))
    go_ret
    exact ⟨by rw [HV.out]; rfl, HB1.out⟩
  · have h1 := str_beq r1 old
    have h2 := str_beq r2 root
    by_cases e1 : r1 = old
    · rw [decide_eq_true e1] at h1 HV
      have H2 := Lib.hid h2; clear h2 e1
      go_enter Tryd.func25, Tryd.ntmps25
      go_wp2_with (first
        | (go_at_call 36; first | ((with_reducible refine (C2.out _).mono ?_); rintro e w' ⟨rfl, rfl⟩) | ((with_reducible refine (CD.out _).mono ?_); rintro e w' ⟨rfl, rfl⟩))
        | (go_at_call 40; refine (CT.out _ (HB0.out _)).mono ?_; rintro e w1 ⟨rfl, hb1⟩; have HB1 := Lib.hid ((HB0.out _).trans (hb1.mono (HB0.out _).size)); clear hb1))
      go_ret
      exact ⟨by rw [HV.out, ← H2.out]; rfl, HB1.out⟩
    · rw [decide_eq_false e1] at h1 HV
      clear h2 e1
      go_enter Tryd.func25, Tryd.ntmps25
      go_wp2_with (first
        | (go_at_call 36; first | ((with_reducible refine (C2.out _).mono ?_); rintro e w' ⟨rfl, rfl⟩) | ((with_reducible refine (CD.out _).mono ?_); rintro e w' ⟨rfl, rfl⟩))
        | (go_at_call 40; refine (CT.out _ (HB0.out _)).mono ?_; rintro e w1 ⟨rfl, hb1⟩; have HB1 := Lib.hid ((HB0.out _).trans (hb1.mono (HB0.out _).size)); clear hb1))
      go_ret
      exact ⟨by rw [HV.out]; rfl, HB1.out⟩
end Go.Proofs.YthaegodeijfbdaaDoor
