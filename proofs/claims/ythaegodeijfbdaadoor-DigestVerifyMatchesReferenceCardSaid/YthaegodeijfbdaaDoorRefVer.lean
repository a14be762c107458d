/- The contracts of the reference's Verify and VerifyExtension. Conditions: the slice reads, has at most 2^40 strings; numbers are of their Go types. -/
import Derived.Test.YthaegodeijfbdaaDoorRefBoth
namespace Go.Proofs.YthaegodeijfbdaaDoor
open Go.RowKit Go.Lib

set_option maxRecDepth 100000 in
set_option maxHeartbeats 1000000 in
theorem refverify_any (root : ByteArray) (num i : Int) (s : ByteArray) (A : Option Addr) (n c B : Nat) (P : List ByteArray) (w : World) (hnum : num ≤ 9223372036854775807) (hR : Rd w B A n c P) (hB : B ≤ w.heap.size) (hn : n ≤ 1099511627776)
    (hs : s.size ≤ 1000) (hP : ∀ x ∈ P, x.size ≤ 9223372036854775807) :
    Calls Tryd.prog 24 #[.string root, .int .i64 num, .int .i64 i, .string s, .slice A n c] w fun e w' => e = .returned (.bool (verB root num i s P)) ∧ Below w.heap.size w w' := by
  have CD := refdigests_any A n c P B w hR hn hP
  by_cases hi0 : i < 0
  · have HV : Hid (verB root num i s P = false) := verB_out (by omega)
    have CD := Lib.hid CD
    clear hR hs hP
    go_enter Tryd.func24, Tryd.ntmps24
    go_wp2_with fail
    refine CD.out.mono ?_
    rintro e w' ⟨rfl, rfl⟩
    go_wp2_with fail
    go_ret
    exact ⟨by rw [HV.out]; rfl, Below.refl _ _⟩
  · by_cases hi1 : num ≤ i
    · have HV : Hid (verB root num i s P = false) := verB_out (by omega)
      have CD := Lib.hid CD
      clear hR hs hP
      go_enter Tryd.func24, Tryd.ntmps24
      go_wp2_with fail
      refine CD.out.mono ?_
      rintro e w' ⟨rfl, rfl⟩
      go_wp2_with fail
      go_ret
      exact ⟨by rw [HV.out]; rfl, Below.refl _ _⟩
    · have hi2 : i < num := by omega
      rcases hall : all32 P with _ | _
      · have HV : Hid (verB root num i s P = false) := verB_not hall
        rw [hall] at CD
        have CD := Lib.hid CD
        clear hR hs hP hall
        go_enter Tryd.func24, Tryd.ntmps24
        go_wp2_with fail
        refine CD.out.mono ?_
        rintro e w' ⟨rfl, rfl⟩
        go_wp2_with fail
        go_ret
        exact ⟨by rw [HV.out]; rfl, Below.refl _ _⟩
      · obtain ⟨I, rfl⟩ := Int.eq_ofNat_of_zero_le (show 0 ≤ i by omega)
        obtain ⟨M, rfl⟩ := Int.eq_ofNat_of_zero_le (show 0 ≤ num by omega)
        have HV := Lib.hid (verB_in (root := root) (s := s) (i := I) (n := M) (by omega) hall)
        have CV := Lib.hid (refvalue_any P.length P A n c B M I s w (Nat.le_refl _) hR hB hn (by omega) (by omega) (by omega) hs (fun x hx => by rw [all32_mem hall x hx]; omega))
        rw [hall] at CD
        have CD := Lib.hid CD
        generalize valueB M I s P = r at *
        obtain ⟨r1, r2⟩ := r
        clear hR hs hP hall
        dsimp only at HV CV
        cases r2
        · go_enter Tryd.func24, Tryd.ntmps24
          go_wp2_with fail
          refine CD.out.mono ?_
          rintro e w' ⟨rfl, rfl⟩
          go_wp2_with fail
          refine CV.out.mono ?_
          rintro e w1 ⟨rfl, hb1⟩
          go_wp2
          go_ret
          exact ⟨by rw [HV.out]; rfl, hb1⟩
        · have HQ := Lib.hid (str_beq r1 root)
          go_enter Tryd.func24, Tryd.ntmps24
          go_wp2_with fail
          refine CD.out.mono ?_
          rintro e w' ⟨rfl, rfl⟩
          go_wp2_with fail
          refine CV.out.mono ?_
          rintro e w1 ⟨rfl, hb1⟩
          go_wp2
          go_ret
          exact ⟨by rw [HV.out, ← HQ.out]; rfl, hb1⟩

theorem all32_two (a b : ByteArray) : all32 [a, b] = (decide (a.size = 32) && decide (b.size = 32)) := by
  unfold all32; simp [List.all_cons]; rfl
set_option maxRecDepth 100000 in
set_option maxHeartbeats 2000000 in
theorem refverExt_any (old root : ByteArray) (m num : Int) (A : Option Addr) (n c B : Nat) (P : List ByteArray) (w : World) (hnum : num ≤ 9223372036854775807) (hR : Rd w B A n c P) (hB : B ≤ w.heap.size) (hn : n ≤ 1099511627776)
    (ho : old.size ≤ 9223372036854775807) (hr : root.size ≤ 9223372036854775807) (hP : ∀ x ∈ P, x.size ≤ 9223372036854775807) :
    Calls Tryd.prog 26 #[.string old, .int .i64 m, .string root, .int .i64 num, .slice A n c] w fun e w' => e = .returned (.bool (extOk old m root num P)) ∧ Below w.heap.size w w' := by
  have CD := refdigests_any A n c P B w hR hn hP
  by_cases hm0 : m < 0
  · have HV : Hid (extOk old m root num P = false) := extOk_out (by omega)
    have CD := Lib.hid CD
    clear hR hP
    go_enter Tryd.func26, Tryd.ntmps26
    go_wp2_with fail
    refine CD.out.mono ?_
    rintro e w' ⟨rfl, rfl⟩
    go_wp2_with fail
    go_ret
    exact ⟨by rw [HV.out]; rfl, Below.refl _ _⟩
  by_cases hm1 : num < m
  · have HV : Hid (extOk old m root num P = false) := extOk_out (by omega)
    have CD := Lib.hid CD
    clear hR hP
    go_enter Tryd.func26, Tryd.ntmps26
    go_wp2_with fail
    refine CD.out.mono ?_
    rintro e w' ⟨rfl, rfl⟩
    go_wp2_with fail
    go_ret
    exact ⟨by rw [HV.out]; rfl, Below.refl _ _⟩
  have hm2 : m ≤ num := by omega
  rcases hall2 : all32 P with _ | _
  · have HV : Hid (extOk old m root num P = false) := extOk_not2 hall2
    rw [hall2] at CD
    have CD := Lib.hid CD
    clear hR hP hall2 ho hr
    go_enter Tryd.func26, Tryd.ntmps26
    go_wp2_with fail
    refine CD.out.mono ?_
    rintro e w' ⟨rfl, rfl⟩
    go_wp2_with fail
    go_ret
    exact ⟨by rw [HV.out]; rfl, Below.refl _ _⟩
  rw [hall2] at CD
  have CD := Lib.hid CD
  by_cases ho2 : old.size ≠ 32
  · have HV : Hid (extOk old m root num P = false) := extOk_not1 (by rw [all32_two, decide_eq_false ho2]; rfl)
    have h3 : ((old.size : Int) == 32) = false := by rw [beq_eq_false_iff_ne]; omega
    have h4 : ((old.size : Int) != 32) = true := by rw [bne, h3]; rfl
    clear hR hP hall2 hr ho2
    go_enter Tryd.func26, Tryd.ntmps26
    go_wp2_with fail
    refine CD.out.mono ?_
    rintro e w' ⟨rfl, rfl⟩
    go_wp2_with fail
    go_ret
    exact ⟨by rw [HV.out]; rfl, Below.refl _ _⟩
  replace ho2 : old.size = 32 := Decidable.not_not.1 ho2
  have h3 : ((old.size : Int) == 32) = true := by rw [beq_iff_eq]; omega
  have h4 : ((old.size : Int) != 32) = false := by rw [bne, h3]; rfl
  by_cases hr2 : root.size ≠ 32
  · have HV : Hid (extOk old m root num P = false) := extOk_not1 (by rw [all32_two, decide_eq_false hr2, Bool.and_false])
    have h5 : ((root.size : Int) == 32) = false := by rw [beq_eq_false_iff_ne]; omega
    have h6 : ((root.size : Int) != 32) = true := by rw [bne, h5]; rfl
    clear hR hP hall2 ho2 hr2
    go_enter Tryd.func26, Tryd.ntmps26
    go_wp2_with fail
    refine CD.out.mono ?_
    rintro e w' ⟨rfl, rfl⟩
    go_wp2_with fail
    go_ret
    exact ⟨by rw [HV.out]; rfl, Below.refl _ _⟩
  replace hr2 : root.size = 32 := Decidable.not_not.1 hr2
  have h5 : ((root.size : Int) == 32) = true := by rw [beq_iff_eq]; omega
  have h6 : ((root.size : Int) != 32) = false := by rw [bne, h5]; rfl
  have hall1 : all32 [old, root] = true := by rw [all32_two, decide_eq_true ho2, decide_eq_true hr2]; rfl
  have hP32 : ∀ x ∈ P, x.size ≤ 32 := fun x hx => by rw [all32_mem hall2 x hx]; omega
  have ho32 : old.size ≤ 32 := by omega
  clear ho2 hr2
  by_cases hmz : m = 0
  · subst hmz
    have HV := Lib.hid (extOk_zero (n := num) (by omega) hall1 hall2)
    by_cases hP0 : P = []
    · subst hP0
      have hn0 : n = 0 := hR.1
      subst hn0
      have CR := Lib.hid fun W => refsum_any ⟨#[]⟩ W (by show 0 ≤ _; omega)
      have HQ := Lib.hid (str_beq old (dg (ByteArray.mk #[]).data.toList))
      have HE : Hid (rootB [] = dg (ByteArray.mk #[]).data.toList) := rootB_nil
      clear hR hP hall1 hall2 ho hr hP32 ho32
      go_enter Tryd.func26, Tryd.ntmps26
      go_wp2_with fail
      refine CD.out.mono ?_
      rintro e w' ⟨rfl, rfl⟩
      go_wp2_with fail
      refine (CR.out _).mono ?_
      rintro e w1 ⟨rfl, hb1⟩
      go_wp2_with fail
      go_ret
      exact ⟨by rw [HV.out, HE.out, ← HQ.out]; rfl, hb1⟩
    · have hn0 : ((n : Int) == 0) = false := by
        rw [beq_eq_false_iff_ne]
        have := hR.1
        have := List.length_pos_iff.2 hP0
        omega
      have HP0 : Hid (decide (P.length = 0) = false) := decide_eq_false (fun h => hP0 (List.eq_nil_of_length_eq_zero h))
      clear hR hP hall1 hall2 ho hr hP32 ho32 hP0
      go_enter Tryd.func26, Tryd.ntmps26
      go_wp2_with fail
      refine CD.out.mono ?_
      rintro e w' ⟨rfl, rfl⟩
      go_wp2_with fail
      go_ret
      exact ⟨by rw [HV.out, HP0.out]; rfl, Below.refl _ _⟩
  obtain ⟨M, rfl⟩ := Int.eq_ofNat_of_zero_le (show 0 ≤ m by omega)
  obtain ⟨U, rfl⟩ := Int.eq_ofNat_of_zero_le (show 0 ≤ num by omega)
  have HV := Lib.hid (extOk_in (m := M) (n := U) (by omega) (by omega) hall1 hall2)
  have hmz2 : ((M : Int) == 0) = false := by rw [beq_eq_false_iff_ne]; omega
  by_cases hmU : M = U
  · subst hmU
    have HW := Lib.hid (twoB_whole old M P)
    by_cases hP0 : P = []
    · subst hP0
      have hn0 : n = 0 := hR.1
      subst hn0
      have HQ := Lib.hid (str_beq old root)
      have q1 : ((M : Int) == (M : Int)) = true := beq_self_eq_true _
      clear hR hP hall1 hall2 ho hr hP32 ho32 hmz
      go_enter Tryd.func26, Tryd.ntmps26
      go_wp2_with fail
      refine CD.out.mono ?_
      rintro e w' ⟨rfl, rfl⟩
      go_wp2_with fail
      go_ret
      refine ⟨?_, Below.refl _ _⟩
      rw [HV.out, HW.out, decide_eq_true (rfl : old = old), ← HQ.out]; rfl
    · have hn0 : ((n : Int) == 0) = false := by
        rw [beq_eq_false_iff_ne]
        have := hR.1
        have := List.length_pos_iff.2 hP0
        omega
      have HP0 : Hid (decide (P.length = 0) = false) := decide_eq_false (fun h => hP0 (List.eq_nil_of_length_eq_zero h))
      clear hR hP hall1 hall2 ho hr hP32 ho32 hP0 hmz
      go_enter Tryd.func26, Tryd.ntmps26
      go_wp2_with fail
      refine CD.out.mono ?_
      rintro e w' ⟨rfl, rfl⟩
      go_wp2_with fail
      go_ret
      refine ⟨?_, Below.refl _ _⟩
      rw [HV.out, HW.out]
      dsimp only
      rw [HP0.out]; rfl
  have q1 : ((M : Int) == (U : Int)) = false := by rw [beq_eq_false_iff_ne]; omega
  have CT := Lib.hid (both_any P.length P A n c B M U old true w (Nat.le_refl _) hR hB hn (by omega) (by omega) (by omega) ho32 hP32)
  generalize twoB old M U P true = r at *
  obtain ⟨r1, r2, r3⟩ := r
  unfold three at CT
  dsimp only at CT HV
  clear hR hP hall1 hall2 ho hr hP32 ho32 hmz hmU
  cases r3
  · go_enter Tryd.func26, Tryd.ntmps26
    go_wp2_with fail
    refine CD.out.mono ?_
    rintro e w' ⟨rfl, rfl⟩
    go_wp2_with fail
    refine CT.out.mono ?_
    rintro e w1 ⟨rfl, hb1⟩
    go_wp2_with fail
    go_ret
    exact ⟨by rw [HV.out]; rfl, hb1⟩
  · have e1 := str_beq r1 old
    have e2 := str_beq r2 root
    by_cases e3 : r1 = old
    · rw [decide_eq_true e3] at e1 HV
      have H2 := Lib.hid e2; clear e2 e3
      go_enter Tryd.func26, Tryd.ntmps26
      go_wp2_with fail
      refine CD.out.mono ?_
      rintro e w' ⟨rfl, rfl⟩
      go_wp2_with fail
      refine CT.out.mono ?_
      rintro e w1 ⟨rfl, hb1⟩
      go_wp2_with fail
      go_ret
      exact ⟨by rw [HV.out, ← H2.out]; rfl, hb1⟩
    · rw [decide_eq_false e3] at e1 HV
      clear e2 e3
      go_enter Tryd.func26, Tryd.ntmps26
      go_wp2_with fail
      refine CD.out.mono ?_
      rintro e w' ⟨rfl, rfl⟩
      go_wp2_with fail
      refine CT.out.mono ?_
      rintro e w1 ⟨rfl, hb1⟩
      go_wp2_with fail
      go_ret
      exact ⟨by rw [HV.out]; rfl, hb1⟩
end Go.Proofs.YthaegodeijfbdaaDoor
