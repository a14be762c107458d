/- The contract of the statements' helper sane. No conditions. -/
import Derived.Test.YtgpppjfgdbloiaaMade
namespace Go.Proofs.Ytgpppjfgdbloiaa
open Go.RowKit Go.Lib

theorem lit_op {r : Option Int} {z : Int} {L : List UInt8} {w : World} {e : Ending} {w' : World} (h : OutO r w e w') (hr : r = some z) (hL : rd L = some z) :
    e = .returned (.tuple #[.string (bs L), .int .i64 0]) ∧ Below w.heap.size w w' := by
  obtain ⟨rfl, hb⟩ := h
  subst hr
  have : bs L = zS z := by unfold bs zS; rw [(rd_some hL).1]
  rw [this]
  exact ⟨rfl, hb⟩
theorem lit_no {r : Option Int} {w : World} {e : Ending} {w' : World} (h : OutO r w e w') (hr : r = none) :
    e = .returned (.tuple #[.string ⟨#[]⟩, .int .i64 30]) ∧ Below w.heap.size w w' := by
  obtain ⟨rfl, hb⟩ := h
  subst hr
  exact ⟨rfl, hb⟩
theorem lit_div {r : Option (Int × Int)} {q p : Int} {L M : List UInt8} {w : World} {e : Ending} {w' : World} (h : OutDP r w e w') (hr : r = some (q, p)) (hL : rd L = some q) (hM : rd M = some p) :
    e = .returned (.tuple #[.string (bs L), .string (bs M), .int .i64 0]) ∧ Below w.heap.size w w' := by
  obtain ⟨rfl, hb⟩ := h
  subst hr
  have h1 : bs L = zS q := by unfold bs zS; rw [(rd_some hL).1]
  have h2 : bs M = zS p := by unfold bs zS; rw [(rd_some hM).1]
  rw [h1, h2]
  exact ⟨rfl, hb⟩
theorem root_unique {X m k : Nat} (h : IsRoot X m) (h2 : IsRoot X k) : m = k := by
  obtain ⟨a, b⟩ := h
  obtain ⟨c, d⟩ := h2
  rcases Nat.lt_trichotomy m k with h | h | h
  · have := Nat.mul_le_mul (show m + 1 ≤ k from h) (show m + 1 ≤ k from h); omega
  · exact h
  · have := Nat.mul_le_mul (show k + 1 ≤ m from h) (show k + 1 ≤ m from h); omega
theorem s_a (w : World) : Calls Try.prog 15 #[.string ⟨#[57, 57, 57]⟩, .string ⟨#[49]⟩] w fun e w' => e = .returned (.tuple #[.string ⟨#[49, 48, 48, 48]⟩, .int .i64 0]) ∧ Below w.heap.size w w' :=
  (add_any ⟨#[57, 57, 57]⟩ ⟨#[49]⟩ w (by decide) (by decide)).mono fun e w' h => lit_op (z := 1000) (L := [49, 48, 48, 48]) h (by decide +kernel) (by decide +kernel)
theorem s_b (w : World) : Calls Try.prog 17 #[.string ⟨#[49]⟩, .string ⟨#[49, 48, 48, 48]⟩] w fun e w' => e = .returned (.tuple #[.string ⟨#[45, 57, 57, 57]⟩, .int .i64 0]) ∧ Below w.heap.size w w' :=
  (sub_any ⟨#[49]⟩ ⟨#[49, 48, 48, 48]⟩ w (by decide) (by decide)).mono fun e w' h => lit_op (z := (-999)) (L := [45, 57, 57, 57]) h (by decide +kernel) (by decide +kernel)
theorem s_c (w : World) : Calls Try.prog 19 #[.string ⟨#[45, 49, 50]⟩, .string ⟨#[49, 50]⟩] w fun e w' => e = .returned (.tuple #[.string ⟨#[45, 49, 52, 52]⟩, .int .i64 0]) ∧ Below w.heap.size w w' :=
  (mul_any ⟨#[45, 49, 50]⟩ ⟨#[49, 50]⟩ w (by decide) (by decide)).mono fun e w' h => lit_op (z := (-144)) (L := [45, 49, 52, 52]) h (by decide +kernel) (by decide +kernel)
theorem s_g (w : World) : Calls Try.prog 23 #[.string ⟨#[49, 50]⟩, .string ⟨#[45, 49, 56]⟩] w fun e w' => e = .returned (.tuple #[.string ⟨#[54]⟩, .int .i64 0]) ∧ Below w.heap.size w w' :=
  (gcd_any ⟨#[49, 50]⟩ ⟨#[45, 49, 56]⟩ w (by decide) (by decide)).mono fun e w' h => lit_op (z := 6) (L := [54]) h (by decide +kernel) (by decide +kernel)
theorem s_d (w : World) : Calls Try.prog 21 #[.string ⟨#[45, 55]⟩, .string ⟨#[50]⟩] w fun e w' => e = .returned (.tuple #[.string ⟨#[45, 52]⟩, .string ⟨#[49]⟩, .int .i64 0]) ∧ Below w.heap.size w w' :=
  (div_any ⟨#[45, 55]⟩ ⟨#[50]⟩ w (by decide) (by decide)).mono fun e w' h => lit_div (q := (-4)) (p := 1) (L := [45, 52]) (M := [49]) h (by decide +kernel) (by decide +kernel) (by decide +kernel)
theorem s_e (w : World) : Calls Try.prog 21 #[.string ⟨#[45, 55]⟩, .string ⟨#[45, 50]⟩] w fun e w' => e = .returned (.tuple #[.string ⟨#[52]⟩, .string ⟨#[49]⟩, .int .i64 0]) ∧ Below w.heap.size w w' :=
  (div_any ⟨#[45, 55]⟩ ⟨#[45, 50]⟩ w (by decide) (by decide)).mono fun e w' h => lit_div (q := 4) (p := 1) (L := [52]) (M := [49]) h (by decide +kernel) (by decide +kernel) (by decide +kernel)
theorem s_n (w : World) : Calls Try.prog 15 #[.string ⟨#[48, 48, 55]⟩, .string ⟨#[49]⟩] w fun e w' => e = .returned (.tuple #[.string ⟨#[]⟩, .int .i64 30]) ∧ Below w.heap.size w w' :=
  (add_any ⟨#[48, 48, 55]⟩ ⟨#[49]⟩ w (by decide) (by decide)).mono fun e w' h => lit_no h (by decide +kernel)
theorem s_k (w : World) : Calls Try.prog 25 #[.string ⟨#[57, 57]⟩] w fun e w' => e = .returned (.tuple #[.string ⟨#[57]⟩, .int .i64 0]) ∧ Below w.heap.size w w' := by
  refine (root_any ⟨#[57, 57]⟩ w (by decide)).mono fun e w' h => ?_
  obtain ⟨r, hr, he, hb⟩ := h
  unfold rootR at hr
  rw [show rd ([57, 57] : List UInt8) = some 99 from by decide +kernel] at hr
  simp only at hr
  rw [if_neg (by omega)] at hr
  obtain ⟨m, hm, rfl⟩ := hr
  obtain rfl : m = 9 := root_unique hm (by unfold IsRoot; decide)
  exact lit_op (r := some 9) (z := 9) (L := [57]) ⟨he, hb⟩ rfl (by decide +kernel)
theorem s_m (w : World) : Calls Try.prog 25 #[.string ⟨#[45, 49]⟩] w fun e w' => e = .returned (.tuple #[.string ⟨#[]⟩, .int .i64 30]) ∧ Below w.heap.size w w' := by
  refine (root_any ⟨#[45, 49]⟩ w (by decide)).mono fun e w' h => ?_
  obtain ⟨r, hr, he, hb⟩ := h
  unfold rootR at hr
  rw [show rd ([45, 49] : List UInt8) = some (-1) from by decide +kernel] at hr
  simp only at hr
  rw [if_pos (by omega)] at hr
  subst hr
  exact lit_no (r := none) ⟨he, hb⟩ rfl
theorem s_v1 (w : World) : Calls Try.prog 29 #[.string ⟨#[45, 55]⟩] w fun e w' => e = .returned (.bool true) ∧ ∃ k, w' = w.drewN k :=
  (valid_any ⟨#[45, 55]⟩ w (by decide)).mono fun e w' ⟨h, hk⟩ => ⟨h.trans (by rw [show validB ((⟨#[45, 55]⟩ : ByteArray).data.toList : List UInt8) = true from by decide +kernel]), hk⟩
theorem s_v2 (w : World) : Calls Try.prog 29 #[.string ⟨#[45, 48]⟩] w fun e w' => e = .returned (.bool false) ∧ ∃ k, w' = w.drewN k :=
  (valid_any ⟨#[45, 48]⟩ w (by decide)).mono fun e w' ⟨h, hk⟩ => ⟨h.trans (by rw [show validB ((⟨#[45, 48]⟩ : ByteArray).data.toList : List UInt8) = false from by decide +kernel]), hk⟩
theorem s_v3 (w : World) : Calls Try.prog 29 #[.string ⟨#[]⟩] w fun e w' => e = .returned (.bool false) ∧ ∃ k, w' = w.drewN k :=
  (valid_any ⟨#[]⟩ w (by decide)).mono fun e w' ⟨h, hk⟩ => ⟨h.trans (by rw [show validB ((⟨#[]⟩ : ByteArray).data.toList : List UInt8) = false from by decide +kernel]), hk⟩
theorem s_cmp (w : World) : Calls Try.prog 31 #[.string ⟨#[45, 56]⟩, .string ⟨#[45, 55]⟩] w fun e w' => e = .returned (.int .i64 (-1)) ∧ Below w.heap.size w w' :=
  (compare_any ⟨#[45, 56]⟩ ⟨#[45, 55]⟩ w (by decide) (by decide)).mono fun e w' ⟨h, hb⟩ => ⟨h.trans (by rw [show cmpR (⟨#[45, 56]⟩ : ByteArray).data.toList (⟨#[45, 55]⟩ : ByteArray).data.toList = -1 from by decide +kernel]), hb⟩
set_option maxRecDepth 100000 in
set_option maxHeartbeats 2000000 in
theorem sane_any (w : World) : Calls Try.prog 12 #[] w fun e w' => e = .returned (.bool true) ∧ Below w.heap.size w w' := by
  go_enter Try.func12, Try.ntmps12
  go_wp2_with fail
  refine (s_a _).mono ?_
  rintro e w1 ⟨rfl, hb1⟩
  have HB1 := Lib.hid hb1
  clear hb1
  go_wp2_with fail
  refine (s_b _).mono ?_
  rintro e w2 ⟨rfl, hb2⟩
  have HB2 := Lib.hid (HB1.out.trans (hb2.mono HB1.out.size))
  clear hb2
  go_wp2_with fail
  refine (s_c _).mono ?_
  rintro e w3 ⟨rfl, hb3⟩
  have HB3 := Lib.hid (HB2.out.trans (hb3.mono HB2.out.size))
  clear hb3
  go_wp2_with fail
  refine (s_d _).mono ?_
  rintro e w4 ⟨rfl, hb4⟩
  have HB4 := Lib.hid (HB3.out.trans (hb4.mono HB3.out.size))
  clear hb4
  go_wp2_with fail
  refine (s_e _).mono ?_
  rintro e w5 ⟨rfl, hb5⟩
  have HB5 := Lib.hid (HB4.out.trans (hb5.mono HB4.out.size))
  clear hb5
  go_wp2_with fail
  refine (s_g _).mono ?_
  rintro e w6 ⟨rfl, hb6⟩
  have HB6 := Lib.hid (HB5.out.trans (hb6.mono HB5.out.size))
  clear hb6
  go_wp2_with fail
  refine (s_k _).mono ?_
  rintro e w7 ⟨rfl, hb7⟩
  have HB7 := Lib.hid (HB6.out.trans (hb7.mono HB6.out.size))
  clear hb7
  go_wp2_with fail
  refine (s_m _).mono ?_
  rintro e w8 ⟨rfl, hb8⟩
  have HB8 := Lib.hid (HB7.out.trans (hb8.mono HB7.out.size))
  clear hb8
  go_wp2_with fail
  refine (s_n _).mono ?_
  rintro e w9 ⟨rfl, hb9⟩
  have HB9 := Lib.hid (HB8.out.trans (hb9.mono HB8.out.size))
  clear hb9
  go_wp2_with fail
  refine (s_v1 _).mono ?_
  rintro e w1v1 ⟨rfl, kv1, rfl⟩
  go_wp2_with fail
  refine (s_v2 _).mono ?_
  rintro e w1v2 ⟨rfl, kv2, rfl⟩
  go_wp2_with fail
  refine (s_v3 _).mono ?_
  rintro e w1v3 ⟨rfl, kv3, rfl⟩
  go_wp2_with fail
  refine (s_cmp _).mono ?_
  rintro e w20 ⟨rfl, hb20⟩
  go_wp2_with fail
  go_ret
  exact ⟨rfl, (below_drewN HB9.out _).trans (hb20.mono HB9.out.size)⟩
end Go.Proofs.Ytgpppjfgdbloiaa
