/- The contracts of plus, minus, times and gcd of numbers, by the integers that they are. Conditions: the amounts read, and have at most 500 groups. -/
import Derived.Test.YtgpppjfgdbloiaaNops
namespace Go.Proofs.Ytgpppjfgdbloiaa
open Go.RowKit Go.Lib

theorem below_todrew {B : Nat} {w w' : World} (h : Below B w w') : Below B w.drew w' := ⟨h.os, h.tape, h.output, h.size, h.block⟩
/-- An integer has been returned as a number. -/
def OutZ (z : Int) (w : World) (e : Ending) (w' : World) : Prop := ∃ s X A c, e = .returned (.agg #[.bool s, .slice A (glen X) c]) ∧ sg s X = z ∧ (s = true → 0 < X) ∧ Am w' A (glen X) c X ∧ Below w.heap.size w w'
theorem sg_sb (s : Bool) (V : Nat) : sg (sb s V) V = sg s V := by
  rcases Nat.eq_zero_or_pos V with h | h
  · subst h; cases s <;> rfl
  · cases s with
    | false => rfl
    | true => rw [sb_true h]
theorem sb_pos {s : Bool} {V : Nat} (h : sb s V = true) : 0 < V := by
  rcases Nat.eq_zero_or_pos V with h1 | h1
  · subst h1; rw [sb_zero] at h; cases h
  · exact h1
theorem OutS.z {s : Bool} {V : Nat} {z : Int} {w : World} {e : Ending} {w' : World} (h : OutS (sb s V) V w e w') (hz : sg s V = z) : OutZ z w e w' := by
  obtain ⟨A, c, rfl, hA, hb⟩ := h
  exact ⟨_, _, A, c, rfl, by rw [sg_sb, hz], sb_pos, hA, hb⟩
section
variable (s t : Bool) (A A' : Option Addr) (c c' X Y : Nat) (w : World) (hA : Am w A (glen X) c X) (hB : Am w A' (glen Y) c' Y) (hX : glen X ≤ 500) (hY : glen Y ≤ 500)
include hA hB hX hY
theorem nplus_any : Calls Try.prog 39 #[.agg #[.bool s, .slice A (glen X) c], .agg #[.bool t, .slice A' (glen Y) c']] w (OutZ (sg s X + sg t Y) w) := by
  by_cases hst : s = t
  · subst hst
    refine (nplus_same s A A' c c' X Y w hA hB hX hY).mono fun e w' h => h.z ?_
    cases s <;> simp [sg] <;> omega
  · have h : (s == t) = false := by simpa using hst
    rcases Nat.lt_or_ge X Y with hl | hl
    · refine (nplus_less s t h A A' c c' X Y w hA hB hX hY hl).mono fun e w' h => h.z ?_
      cases s <;> cases t <;> simp [sg] at * <;> omega
    · refine (nplus_more s t h A A' c c' X Y w hA hB hX hY hl).mono fun e w' h => h.z ?_
      cases s <;> cases t <;> simp [sg] at * <;> omega
theorem ntimes_z : Calls Try.prog 43 #[.agg #[.bool s, .slice A (glen X) c], .agg #[.bool t, .slice A' (glen Y) c']] w (OutZ (sg s X * sg t Y) w) := by
  refine (ntimes_any s t _ rfl A A' c c' X Y w hA hB hX hY).mono fun e w' h => h.z ?_
  cases s <;> cases t <;> simp [sg, Int.natCast_mul, Int.neg_mul, Int.mul_neg]
set_option maxRecDepth 100000 in
set_option maxHeartbeats 1000000 in
theorem nminus_any : Calls Try.prog 42 #[.agg #[.bool s, .slice A (glen X) c], .agg #[.bool t, .slice A' (glen Y) c']] w (OutZ (sg s X - sg t Y) w) := by
  obtain ⟨hb, hsz, hcl⟩ := numW_spec w s t A A' (glen X) c (glen Y) c'
  have hb' := hb
  unfold numW at hb' hsz hcl
  obtain ⟨u, hu⟩ : ∃ u, u = !t := ⟨_, rfl⟩
  have hsg := signed_any u A' c' Y _ (hB.below hb'.drew)
  have hz : sg s X - sg t Y = sg s X + sg (sb u Y) Y := by rw [sg_sb, hu]; cases t <;> simp [sg] <;> omega
  have hpl : ∀ w2, Below w.heap.size w w2 → Calls Try.prog 39 #[.agg #[.bool s, .slice A (glen X) c], .agg #[.bool (sb u Y), .slice A' (glen Y) c']] w2 (OutZ (sg s X + sg (sb u Y) Y) w2) :=
    fun w2 h2 => nplus_any s (sb u Y) A A' c c' X Y w2 (hA.below h2) (hB.below h2) hX hY
  rw [hz]
  have hu' : (!t) = u := hu.symm
  have HC1 := Lib.hid hsg; have HPL := Lib.hid hpl
  have HB := Lib.hid hb'.drew; have HK := Lib.hid hcl; have HSZ := Lib.hid hsz
  clear hb hb' hcl hA hB hsz hsg hpl hz hu
  go_enter Try.func42, Try.ntmps42
  go_wp2_with fail
  go_region_held3 (fun w' => w'.cell? ⟨w.heap.size, 0, none⟩ = some (.bool s) ∧ w'.cell? ⟨w.heap.size, 1, none⟩ = some (.slice A (glen X) c) ∧ w'.cell? ⟨w.heap.size + 1, 0, none⟩ = some (.bool t) ∧ w'.cell? ⟨w.heap.size + 1, 1, none⟩ = some (.slice A' (glen Y) c'))
    (first | exact ⟨(far_two _ (by omega) _ _ _).trans (HK.out _ hb6).1, (far_two _ (by omega) _ _ _).trans (HK.out _ hb6).2.1, (far_two _ (by omega) _ _ _).trans (HK.out _ hb6).2.2.1, (far_two _ (by omega) _ _ _).trans (HK.out _ hb6).2.2.2.1⟩ | exact ⟨(HK.out _ hb6).1, (HK.out _ hb6).2.1, (HK.out _ hb6).2.2.1, (HK.out _ hb6).2.2.2.1⟩ | exact ⟨(HK.out _ hb4).1, (HK.out _ hb4).2.1, (HK.out _ hb4).2.2.1, (HK.out _ hb4).2.2.2.1⟩ | go_keep)
    (first
      | (go_at_call 64; (with_reducible refine HC1.out.mono ?_); rintro e w2 ⟨rfl, hb2⟩; have hb4 := (hb2.mono (Nat.le_of_eq HSZ.out.symm)); have hb5 := HB.out.trans (hb2.mono HB.out.size); have HC2 := Lib.hid (HPL.out w2 hb5); clear hb2)
      | (go_at_call 39; (with_reducible refine HC2.out.mono ?_); rintro e w3 ⟨s3, V, A2, c2, rfl, hz3, hs3, hA3, hb3⟩; have hb6 := hb4.trans (hb3.mono (Nat.le_trans (Nat.le_of_eq HSZ.out.symm) hb4.size)); have hb7 := hb5.trans (hb3.mono hb5.size); have HA3 := Lib.hid hA3; have HZ3 := Lib.hid hz3; have HS3 := Lib.hid hs3; clear hb3 hA3 hz3 hs3; obtain ⟨-, -, -, -, k0, k1, kb⟩ := HK.out _ hb6; have k2 := kb.frozen 0; have k3 := kb.frozen 1))
  rename_i hh
  have HA4 := Lib.hid (HA3.out.store (u := s3) (A' := A2) (n' := glen V) (c' := c2) kb)
  have hb9 := Lib.hid ((hb7.setCell (p := ⟨w.heap.size + 1 + 1, 0, none⟩) (by simp; omega) (.bool s3)).setCell (p := ⟨w.heap.size + 1 + 1, 1, none⟩) (by simp; omega) (.slice A2 (glen V) c2))
  obtain ⟨r0, r1⟩ := kb.two (u := .bool s3) (v := .slice A2 (glen V) c2)
  clear hh k0 k1 k2 k3 kb HA3 hb7 hb6 hb5 hb4 HC2
  go_wp2_with fail
  exact bodyPost_ret (v := .agg #[.bool s3, .slice A2 (glen V) c2]) (by simp [results, Try.results42, go_sem, r0, r1]) rfl ⟨s3, V, A2, c2, rfl, HZ3.out, HS3.out, HA4.out, hb9.out⟩
set_option maxRecDepth 100000 in
set_option maxHeartbeats 1000000 in
theorem ngcd_any : Calls Try.prog 54 #[.agg #[.bool s, .slice A (glen X) c], .agg #[.bool t, .slice A' (glen Y) c']] w (OutZ (Nat.gcd X Y : Nat) w) := by
  obtain ⟨hb, hsz, hcl⟩ := numW_spec w s t A A' (glen X) c (glen Y) c'
  have hb' := hb
  unfold numW at hb' hsz hcl
  have hgc := agcd_any A A' c c' X Y _ (hA.below hb') (hB.below hb') (by omega) (by omega)
  have HC1 := Lib.hid hgc
  have HB := Lib.hid hb'; have HK := Lib.hid hcl; have HSZ := Lib.hid hsz
  clear hb hb' hcl hA hB hsz hgc
  go_enter Try.func54, Try.ntmps54
  go_wp2_with fail
  refine HC1.out.mono ?_
  rintro e w2 ⟨A2, c2, rfl, hA2, hb2⟩
  have hb4 := (hb2.mono (Nat.le_of_eq HSZ.out.symm))
  have hb5 := HB.out.trans (hb2.mono HB.out.size)
  have hsg := signed_any false A2 c2 (Nat.gcd X Y) w2 hA2
  have HC2 := Lib.hid hsg; have HA2 := Lib.hid hA2
  clear hsg hA2 hb2
  go_wp2_with fail
  refine HC2.out.mono ?_
  rintro e w3 ⟨rfl, hb3⟩
  have hb6 := hb4.trans (hb3.mono (Nat.le_trans (Nat.le_of_eq HSZ.out.symm) hb4.size))
  have hb7 := hb5.trans (hb3.mono hb5.size)
  have HA3 := Lib.hid (HA2.out.below hb3)
  obtain ⟨-, -, -, -, k0, k1, kb⟩ := HK.out _ (below_todrew hb6)
  have k2 := kb.frozen 0; have k3 := kb.frozen 1
  have HA4 := Lib.hid (HA3.out.store (u := sb false (Nat.gcd X Y)) (A' := A2) (n' := glen (Nat.gcd X Y)) (c' := c2) kb)
  have hb9 := Lib.hid ((hb7.setCell (p := ⟨w.heap.size + 1 + 1, 0, none⟩) (by simp; omega) (.bool (sb false (Nat.gcd X Y)))).setCell (p := ⟨w.heap.size + 1 + 1, 1, none⟩) (by simp; omega) (.slice A2 (glen (Nat.gcd X Y)) c2))
  obtain ⟨r0, r1⟩ := kb.two (u := .bool (sb false (Nat.gcd X Y))) (v := .slice A2 (glen (Nat.gcd X Y)) c2)
  clear kb HA3 hb7 hb6 hb5 hb4 hb3 HC2 HA2
  go_wp2_with fail
  exact bodyPost_ret (v := .agg #[.bool (sb false (Nat.gcd X Y)), .slice A2 (glen (Nat.gcd X Y)) c2]) (by simp [results, Try.results54, go_sem, r0, r1]) rfl ⟨sb false (Nat.gcd X Y), Nat.gcd X Y, A2, c2, rfl, by rw [sg_sb]; rfl, sb_pos, HA4.out, hb9.out⟩
end
end Go.Proofs.Ytgpppjfgdbloiaa
