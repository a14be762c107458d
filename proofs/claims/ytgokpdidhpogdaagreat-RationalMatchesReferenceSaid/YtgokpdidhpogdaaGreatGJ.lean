/- The contracts of the statements' helpers is and sane. No conditions. | The contract of the statements' helper pick. Conditions: ints; the bound is positive. -/
import Derived.Deep.RegionHeld3
import Derived.Deep.CutRange
import Derived.Test.YtgokpdidhpogdaaGreatGH
import Derived.Test.YtgokpdidhpogdaaGreatGI
namespace Go.Proofs.YtgokpdidhpogdaaGreat
open Go.RowKit Go.Lib

set_option maxRecDepth 100000 in
theorem is_any (a b : ByteArray) (w : World) : Calls Tryz.prog 27 #[.string a, .string b] w fun e w' => e = .returned (.agg #[.string a, .string b]) ∧ Below w.heap.size w w' := by
  go_enter Tryz.func27, Tryz.ntmps27
  go_wp2_with fail
  exact bodyPost_ret (v := .agg #[.string a, .string b]) (by simp [results, Tryz.results27, go_sem]) rfl ⟨rfl, (Below.refl _ _).alloc (Nat.le_refl _) _⟩
/-- A result that is known. -/
theorem lit_fr {r : Option (Int × Int)} {n d : Int} {L M : List UInt8} {w : World} {e : Ending} {w' : World} (h : OutFr r w e w') (hr : r = some (n, d)) (hL : rd L = some n) (hM : rd M = some d) :
    e = .returned (.tuple #[.agg #[.string (bs L), .string (bs M)], .int .i64 0]) ∧ Below w.heap.size w w' := by
  obtain ⟨rfl, hb⟩ := h
  subst hr
  rw [← zS_lit hL, ← zS_lit hM]
  exact ⟨rfl, hb⟩
theorem lit_frn {r : Option (Int × Int)} {w : World} {e : Ending} {w' : World} (h : OutFr r w e w') (hr : r = none) :
    e = .returned (.tuple #[.agg #[.string ⟨#[]⟩, .string ⟨#[]⟩], .int .i64 40]) ∧ Below w.heap.size w w' := by
  obtain ⟨rfl, hb⟩ := h
  subst hr
  exact ⟨rfl, hb⟩
theorem lit_size {a : ByteArray} (h : decide (a.size ≤ 1000) = true) : a.size ≤ 9000000000000000000 := by
  have := of_decide_eq_true h
  omega
theorem so_a (w : World) : Calls Tryz.prog 24 #[.int .i64 (6), .int .i64 (-4)] w fun e w' => e = .returned (.tuple #[.agg #[.string ⟨#[45, 51]⟩, .string ⟨#[50]⟩], .int .i64 0]) ∧ Below w.heap.size w w' :=
  (of_any 6 (-4) w (by omega) (by omega)).mono fun e w' h => lit_fr (n := -3) (d := 2) (L := [45, 51]) (M := [50]) h (by decide +kernel) (by decide +kernel) (by decide +kernel)
theorem so_b (w : World) : Calls Tryz.prog 24 #[.int .i64 (0), .int .i64 (-5)] w fun e w' => e = .returned (.tuple #[.agg #[.string ⟨#[48]⟩, .string ⟨#[49]⟩], .int .i64 0]) ∧ Below w.heap.size w w' :=
  (of_any 0 (-5) w (by omega) (by omega)).mono fun e w' h => lit_fr (n := 0) (d := 1) (L := [48]) (M := [49]) h (by decide +kernel) (by decide +kernel) (by decide +kernel)
theorem so_n (w : World) : Calls Tryz.prog 24 #[.int .i64 (1), .int .i64 (0)] w fun e w' => e = .returned (.tuple #[.agg #[.string ⟨#[]⟩, .string ⟨#[]⟩], .int .i64 40]) ∧ Below w.heap.size w w' :=
  (of_any 1 0 w (by omega) (by omega)).mono fun e w' h => lit_frn h (by decide +kernel)
theorem so_c (w : World) : Calls Tryz.prog 26 #[.agg #[.string ⟨#[49]⟩, .string ⟨#[50]⟩], .agg #[.string ⟨#[49]⟩, .string ⟨#[51]⟩]] w fun e w' => e = .returned (.tuple #[.agg #[.string ⟨#[53]⟩, .string ⟨#[54]⟩], .int .i64 0]) ∧ Below w.heap.size w w' :=
  (fadd_any ⟨#[49]⟩ ⟨#[50]⟩ ⟨#[49]⟩ ⟨#[51]⟩ w ⟨(lit_size (by decide +kernel)), (lit_size (by decide +kernel))⟩ ⟨(lit_size (by decide +kernel)), (lit_size (by decide +kernel))⟩).mono fun e w' h => lit_fr (n := 5) (d := 6) (L := [53]) (M := [54]) h (by decide +kernel) (by decide +kernel) (by decide +kernel)
theorem so_d (w : World) : Calls Tryz.prog 28 #[.agg #[.string ⟨#[49]⟩, .string ⟨#[50]⟩], .agg #[.string ⟨#[45, 49]⟩, .string ⟨#[52]⟩]] w fun e w' => e = .returned (.tuple #[.agg #[.string ⟨#[45, 50]⟩, .string ⟨#[49]⟩], .int .i64 0]) ∧ Below w.heap.size w w' :=
  (fdiv_any ⟨#[49]⟩ ⟨#[50]⟩ ⟨#[45, 49]⟩ ⟨#[52]⟩ w ⟨(lit_size (by decide +kernel)), (lit_size (by decide +kernel))⟩ ⟨(lit_size (by decide +kernel)), (lit_size (by decide +kernel))⟩).mono fun e w' h => lit_fr (n := -2) (d := 1) (L := [45, 50]) (M := [49]) h (by decide +kernel) (by decide +kernel) (by decide +kernel)
theorem so_j (w : World) : Calls Tryz.prog 28 #[.agg #[.string ⟨#[49]⟩, .string ⟨#[49]⟩], .agg #[.string ⟨#[48]⟩, .string ⟨#[49]⟩]] w fun e w' => e = .returned (.tuple #[.agg #[.string ⟨#[]⟩, .string ⟨#[]⟩], .int .i64 40]) ∧ Below w.heap.size w w' :=
  (fdiv_any ⟨#[49]⟩ ⟨#[49]⟩ ⟨#[48]⟩ ⟨#[49]⟩ w ⟨(lit_size (by decide +kernel)), (lit_size (by decide +kernel))⟩ ⟨(lit_size (by decide +kernel)), (lit_size (by decide +kernel))⟩).mono fun e w' h => lit_frn h (by decide +kernel)
theorem so_k (w : World) : Calls Tryz.prog 16 #[.agg #[.string ⟨#[45, 49]⟩, .string ⟨#[51]⟩], .int .i64 (2)] w fun e w' => e = .returned (.tuple #[.agg #[.string ⟨#[45, 49, 55]⟩, .string ⟨#[53, 48]⟩], .int .i64 0]) ∧ Below w.heap.size w w' :=
  (down_any ⟨#[45, 49]⟩ ⟨#[51]⟩ 2 w ⟨(lit_size (by decide +kernel)), (lit_size (by decide +kernel))⟩ (by omega)).mono fun e w' h => lit_fr (n := -17) (d := 50) (L := [45, 49, 55]) (M := [53, 48]) h (by decide +kernel) (by decide +kernel) (by decide +kernel)
theorem so_m (w : World) : Calls Tryz.prog 18 #[.agg #[.string ⟨#[49]⟩, .string ⟨#[51]⟩], .int .i64 (2)] w fun e w' => e = .returned (.tuple #[.agg #[.string ⟨#[49, 55]⟩, .string ⟨#[53, 48]⟩], .int .i64 0]) ∧ Below w.heap.size w w' :=
  (up_any ⟨#[49]⟩ ⟨#[51]⟩ 2 w ⟨(lit_size (by decide +kernel)), (lit_size (by decide +kernel))⟩ (by omega)).mono fun e w' h => lit_fr (n := 17) (d := 50) (L := [49, 55]) (M := [53, 48]) h (by decide +kernel) (by decide +kernel) (by decide +kernel)
theorem so_o (w : World) : Calls Tryz.prog 29 #[.string ⟨#[45, 51, 47, 50]⟩] w fun e w' => e = .returned (.tuple #[.agg #[.string ⟨#[45, 51]⟩, .string ⟨#[50]⟩], .int .i64 0]) ∧ Below w.heap.size w w' :=
  (fparse_any ⟨#[45, 51, 47, 50]⟩ w (lit_size (by decide +kernel))).mono fun e w' h => lit_fr (n := -3) (d := 2) (L := [45, 51]) (M := [50]) h (by decide +kernel) (by decide +kernel) (by decide +kernel)
theorem so_q (w : World) : Calls Tryz.prog 29 #[.string ⟨#[54, 47, 52]⟩] w fun e w' => e = .returned (.tuple #[.agg #[.string ⟨#[]⟩, .string ⟨#[]⟩], .int .i64 40]) ∧ Below w.heap.size w w' :=
  (fparse_any ⟨#[54, 47, 52]⟩ w (lit_size (by decide +kernel))).mono fun e w' h => lit_frn h (by decide +kernel)
theorem so_p (w : World) : Calls Tryz.prog 30 #[.agg #[.string ⟨#[45, 51]⟩, .string ⟨#[50]⟩]] w fun e w' => e = .returned (.string ⟨#[45, 51, 47, 50]⟩) ∧ Below w.heap.size w w' :=
  (fprint_any ⟨#[45, 51]⟩ ⟨#[50]⟩ w ⟨(lit_size (by decide +kernel)), (lit_size (by decide +kernel))⟩).mono fun e w' h => ⟨h.1.trans (by rw [show printQ (rdQ (⟨#[45, 51]⟩ : ByteArray).data.toList (⟨#[50]⟩ : ByteArray).data.toList) = ⟨#[45, 51, 47, 50]⟩ from by decide +kernel]), h.2⟩
theorem so_cmp (w : World) : Calls Tryz.prog 13 #[.agg #[.string ⟨#[49]⟩, .string ⟨#[51]⟩], .agg #[.string ⟨#[51, 51, 51, 51, 51]⟩, .string ⟨#[49, 48, 48, 48, 48, 48]⟩]] w fun e w' => e = .returned (.int .i64 1) ∧ Below w.heap.size w w' :=
  (fcmp_any ⟨#[49]⟩ ⟨#[51]⟩ ⟨#[51, 51, 51, 51, 51]⟩ ⟨#[49, 48, 48, 48, 48, 48]⟩ w ⟨(lit_size (by decide +kernel)), (lit_size (by decide +kernel))⟩ ⟨(lit_size (by decide +kernel)), (lit_size (by decide +kernel))⟩).mono fun e w' h => ⟨h.1.trans (by rw [show cmpQ (rdQ (⟨#[49]⟩ : ByteArray).data.toList (⟨#[51]⟩ : ByteArray).data.toList) (rdQ (⟨#[51, 51, 51, 51, 51]⟩ : ByteArray).data.toList (⟨#[49, 48, 48, 48, 48, 48]⟩ : ByteArray).data.toList) = 1 from by decide +kernel]), h.2⟩
theorem so_v (w : World) : Calls Tryz.prog 22 #[.agg #[.string ⟨#[45, 51]⟩, .string ⟨#[50]⟩]] w fun e w' => e = .returned (.bool true) ∧ Below w.heap.size w w' :=
  (fvalid_any ⟨#[45, 51]⟩ ⟨#[50]⟩ w (lit_size (by decide +kernel)) (lit_size (by decide +kernel))).mono fun e w' h => ⟨h.1.trans (by rw [show (rdQ (⟨#[45, 51]⟩ : ByteArray).data.toList (⟨#[50]⟩ : ByteArray).data.toList).isSome = true from by decide +kernel]), h.2⟩
theorem so_v0 (w : World) : Calls Tryz.prog 22 #[.agg #[.string ⟨#[]⟩, .string ⟨#[]⟩]] w fun e w' => e = .returned (.bool false) ∧ Below w.heap.size w w' :=
  (fvalid_any ⟨#[]⟩ ⟨#[]⟩ w (lit_size (by decide +kernel)) (lit_size (by decide +kernel))).mono fun e w' h => ⟨h.1.trans (by rw [show (rdQ (⟨#[]⟩ : ByteArray).data.toList (⟨#[]⟩ : ByteArray).data.toList).isSome = false from by decide +kernel]), h.2⟩
/-- What the last line of sane reads. -/
def SaneS (b1 b2 b4 b5 b7 b8 b9 : Nat) (w' : World) : Prop := (w'.cell? ⟨b1, 0, none⟩ = some (.string ⟨#[45, 51]⟩) ∧ w'.cell? ⟨b1, 1, none⟩ = some (.string ⟨#[50]⟩)) ∧ (w'.cell? ⟨b2, 0, none⟩ = some (.string ⟨#[48]⟩) ∧ w'.cell? ⟨b2, 1, none⟩ = some (.string ⟨#[49]⟩)) ∧ (w'.cell? ⟨b4, 0, none⟩ = some (.string ⟨#[53]⟩) ∧ w'.cell? ⟨b4, 1, none⟩ = some (.string ⟨#[54]⟩)) ∧ (w'.cell? ⟨b5, 0, none⟩ = some (.string ⟨#[45, 50]⟩) ∧ w'.cell? ⟨b5, 1, none⟩ = some (.string ⟨#[49]⟩)) ∧ (w'.cell? ⟨b7, 0, none⟩ = some (.string ⟨#[45, 49, 55]⟩) ∧ w'.cell? ⟨b7, 1, none⟩ = some (.string ⟨#[53, 48]⟩)) ∧ (w'.cell? ⟨b8, 0, none⟩ = some (.string ⟨#[49, 55]⟩) ∧ w'.cell? ⟨b8, 1, none⟩ = some (.string ⟨#[53, 48]⟩)) ∧ (w'.cell? ⟨b9, 0, none⟩ = some (.string ⟨#[45, 51]⟩) ∧ w'.cell? ⟨b9, 1, none⟩ = some (.string ⟨#[50]⟩))
set_option maxRecDepth 100000 in
set_option maxHeartbeats 4000000 in
theorem sane_any (w : World) : Calls Tryz.prog 4 #[] w fun e w' => e = .returned (.bool true) ∧ Below w.heap.size w w' := by
  go_enter Tryz.func4, Tryz.ntmps4
  go_wp2_with fail
  refine (so_a _).mono ?_
  rintro e w1 ⟨rfl, h1_1⟩
  have k1_1 := h1_1
  obtain ⟨U1, hU1⟩ : ∃ U, U = w1.alloc (.cells #[.string ⟨#[45, 51]⟩, .string ⟨#[50]⟩] 23) := ⟨_, rfl⟩
  have HU1 := Lib.hid hU1
  have hbk1 : Blk U1 w1.heap.size 23 #[.string ⟨#[45, 51]⟩, .string ⟨#[50]⟩] := by rw [hU1]; exact Blk.new w1 _ _
  have hg1 : Below w.heap.size w U1 := by rw [hU1]; exact k1_1.alloc k1_1.size _
  have HB1 := Lib.hid hbk1; have HG1 := Lib.hid hg1
  clear h1_1 k1_1 hbk1 hg1 hU1
  go_wp2_with fail
  refine (so_b _).mono ?_
  rintro e w2 ⟨rfl, h2_1⟩
  have k2_1 := h2_1
  obtain ⟨U2, hU2⟩ : ∃ U, U = w2.alloc (.cells #[.string ⟨#[48]⟩, .string ⟨#[49]⟩] 23) := ⟨_, rfl⟩
  have HU2 := Lib.hid hU2
  have hbk2 : Blk U2 w2.heap.size 23 #[.string ⟨#[48]⟩, .string ⟨#[49]⟩] := by rw [hU2]; exact Blk.new w2 _ _
  have hg2 : Below U1.heap.size U1 U2 := by rw [hU2, HU1.out]; exact k2_1.alloc k2_1.size _
  have HB2 := Lib.hid hbk2; have HG2 := Lib.hid hg2
  clear h2_1 k2_1 hbk2 hg2 hU2
  go_wp2_with fail
  refine (so_n _).mono ?_
  rintro e w3 ⟨rfl, h3_1⟩
  have k3_1 := h3_1
  obtain ⟨U3, hU3⟩ : ∃ U, U = w3.alloc (.cells #[.string ⟨#[]⟩, .string ⟨#[]⟩] 23) := ⟨_, rfl⟩
  have HU3 := Lib.hid hU3
  have hbk3 : Blk U3 w3.heap.size 23 #[.string ⟨#[]⟩, .string ⟨#[]⟩] := by rw [hU3]; exact Blk.new w3 _ _
  have hg3 : Below U2.heap.size U2 U3 := by rw [hU3, HU2.out]; exact k3_1.alloc k3_1.size _
  have HB3 := Lib.hid hbk3; have HG3 := Lib.hid hg3
  clear h3_1 k3_1 hbk3 hg3 hU3
  go_wp2_with fail
  refine (is_any ⟨#[49]⟩ ⟨#[50]⟩ _).mono ?_
  rintro e v4_1 ⟨rfl, h4_1⟩
  have k4_1 := h4_1
  go_wp2_with fail
  refine (is_any ⟨#[49]⟩ ⟨#[51]⟩ _).mono ?_
  rintro e v4_2 ⟨rfl, h4_2⟩
  have k4_2 := k4_1.trans (h4_2.mono k4_1.size)
  go_wp2_with fail
  refine (so_c _).mono ?_
  rintro e w4 ⟨rfl, h4_3⟩
  have k4_3 := k4_2.trans (h4_3.mono k4_2.size)
  obtain ⟨U4, hU4⟩ : ∃ U, U = w4.alloc (.cells #[.string ⟨#[53]⟩, .string ⟨#[54]⟩] 23) := ⟨_, rfl⟩
  have HU4 := Lib.hid hU4
  have hbk4 : Blk U4 w4.heap.size 23 #[.string ⟨#[53]⟩, .string ⟨#[54]⟩] := by rw [hU4]; exact Blk.new w4 _ _
  have hg4 : Below U3.heap.size U3 U4 := by rw [hU4, HU3.out]; exact k4_3.alloc k4_3.size _
  have HB4 := Lib.hid hbk4; have HG4 := Lib.hid hg4
  clear h4_1 k4_1 h4_2 k4_2 h4_3 k4_3 hbk4 hg4 hU4
  go_wp2_with fail
  refine (is_any ⟨#[49]⟩ ⟨#[50]⟩ _).mono ?_
  rintro e v5_1 ⟨rfl, h5_1⟩
  have k5_1 := h5_1
  go_wp2_with fail
  refine (is_any ⟨#[45, 49]⟩ ⟨#[52]⟩ _).mono ?_
  rintro e v5_2 ⟨rfl, h5_2⟩
  have k5_2 := k5_1.trans (h5_2.mono k5_1.size)
  go_wp2_with fail
  refine (so_d _).mono ?_
  rintro e w5 ⟨rfl, h5_3⟩
  have k5_3 := k5_2.trans (h5_3.mono k5_2.size)
  obtain ⟨U5, hU5⟩ : ∃ U, U = w5.alloc (.cells #[.string ⟨#[45, 50]⟩, .string ⟨#[49]⟩] 23) := ⟨_, rfl⟩
  have HU5 := Lib.hid hU5
  have hbk5 : Blk U5 w5.heap.size 23 #[.string ⟨#[45, 50]⟩, .string ⟨#[49]⟩] := by rw [hU5]; exact Blk.new w5 _ _
  have hg5 : Below U4.heap.size U4 U5 := by rw [hU5, HU4.out]; exact k5_3.alloc k5_3.size _
  have HB5 := Lib.hid hbk5; have HG5 := Lib.hid hg5
  clear h5_1 k5_1 h5_2 k5_2 h5_3 k5_3 hbk5 hg5 hU5
  go_wp2_with fail
  have HK6 : Hid (∀ W, Below U5.heap.size U5 W → W.cell? ⟨w2.heap.size, 0, none⟩ = some (.string ⟨#[48]⟩) ∧ W.cell? ⟨w2.heap.size, 1, none⟩ = some (.string ⟨#[49]⟩)) := fun W hW => by
    have l2 := HB2.out.lt; have l3 := HG3.out.size; have l4 := HG4.out.size; have l5 := HG5.out.size
    have h := (((HB2.out.below HG3.out (by omega)).below HG4.out (by omega)).below HG5.out (by omega)).below hW (by omega)
    exact ⟨h.cell (i := 0) rfl, h.cell (i := 1) rfl⟩
  have hk0 := HK6.out U5 (Below.refl _ _)
  rw [HU5.out] at hk0
  have h5s : U5.heap.size ≤ w5.heap.size + 1 := by rw [HU5.out]; simp
  go_cut [11, 12] from 46 to 51 (fun _p e wx => e = .int .i64 40 ∧ Below U5.heap.size U5 wx)
  case first =>
    go_region_held3 (fun w' => w'.cell? ⟨w2.heap.size, 0, none⟩ = some (.string ⟨#[48]⟩) ∧ w'.cell? ⟨w2.heap.size, 1, none⟩ = some (.string ⟨#[49]⟩)) (first | exact HK6.out _ ((x6b.setCell x6a.size _).setCell x6a.size _) | exact HK6.out _ ((x6b.setCell h5s _).setCell h5s _) | exact HK6.out _ (x6b.alloc x6b.size _) | exact HK6.out _ x6b | exact HK6.out _ (x6a.alloc x6a.size _) | exact HK6.out _ x6a | exact hk0 | go_keep)
      (first
        | (go_at_call 27; (with_reducible refine (is_any _ _ _).mono ?_); rintro e v6 ⟨rfl, h6_1⟩; have x6a : Below U5.heap.size U5 v6 := (by rw [HU5.out]; exact (Below.refl _ _).drew.trans h6_1))
        | (go_at_call 27; (with_reducible refine (is_any _ _ _).mono ?_); rintro e v6 ⟨rfl, h6_1⟩; have x6a : Below U5.heap.size U5 v6 := (by rw [HU5.out]; exact ((Below.refl _ _).alloc (Nat.le_refl _) _).drew.trans (h6_1.mono (by simp))); have hz0 : Blk v6 (w5.heap.size + 1) 23 #[.string ⟨#[]⟩, .string ⟨#[]⟩] := (by have h := ((Blk.new (w5.alloc (.cells #[.string ⟨#[45, 50]⟩, .string ⟨#[49]⟩] 23)) 23 #[.string ⟨#[]⟩, .string ⟨#[]⟩]).drew).below h6_1 (by simp); rw [show (w5.alloc (.cells #[.string ⟨#[45, 50]⟩, .string ⟨#[49]⟩] 23)).heap.size = w5.heap.size + 1 from (by simp)] at h; exact h))
        | (go_at_call 28; (with_reducible refine (so_j _).mono ?_); rintro e w6 ⟨rfl, h6_2⟩; have x6b : Below U5.heap.size U5 w6 := x6a.trans (h6_2.mono x6a.size); have hz := hz0.below h6_2 hz0.lt; have z0 := hz.cell (i := 0) rfl; have z1 := hz.cell (i := 1) rfl; have f0 := hz.frozen 0; have f1 := hz.frozen 1)
        | (go_at_call 28; (with_reducible refine (so_j _).mono ?_); rintro e w6 ⟨rfl, h6_2⟩; have x6b : Below U5.heap.size U5 w6 := x6a.trans (h6_2.mono x6a.size))
        | (go_at_call 28; (with_reducible refine (so_j _).mono ?_); rintro e w6 ⟨rfl, h6_2⟩; have x6b : Below U5.heap.size U5 w6 := (x6a.alloc x6a.size _).trans (h6_2.mono (x6a.alloc x6a.size _).size); have hz := (Blk.new v6 23 #[.string ⟨#[]⟩, .string ⟨#[]⟩]).below h6_2 (by simp); have z0 := hz.cell (i := 0) rfl; have z1 := hz.cell (i := 1) rfl; have f0 := hz.frozen 0; have f1 := hz.frozen 1))
    all_goals
      go_wp2_with fail
      go_meet
      first
        | exact ⟨rfl, (x6b.setCell x6a.size _).setCell x6a.size _⟩
        | exact ⟨rfl, (x6b.setCell h5s _).setCell h5s _⟩
        | exact ⟨rfl, x6b.alloc x6b.size _⟩
  case rest =>
    obtain ⟨rfl, hcb⟩ := hcut
    rename_i u6
    obtain ⟨U6, hU6⟩ : ∃ U, U = wc := ⟨_, rfl⟩
    have HU6 := Lib.hid hU6
    rw [← hU6] at hcb
    have HG6 := Lib.hid hcb
    clear hU6 hcb
    go_wp2_with fail
    refine (is_any ⟨#[45, 49]⟩ ⟨#[51]⟩ _).mono ?_
    rintro e v7_1 ⟨rfl, h7_1⟩
    have k7_1 := h7_1
    go_wp2_with fail
    refine (so_k _).mono ?_
    rintro e w7 ⟨rfl, h7_2⟩
    have k7_2 := k7_1.trans (h7_2.mono k7_1.size)
    obtain ⟨U7, hU7⟩ : ∃ U, U = w7.alloc (.cells #[.string ⟨#[45, 49, 55]⟩, .string ⟨#[53, 48]⟩] 23) := ⟨_, rfl⟩
    have HU7 := Lib.hid hU7
    have hbk7 : Blk U7 w7.heap.size 23 #[.string ⟨#[45, 49, 55]⟩, .string ⟨#[53, 48]⟩] := by rw [hU7]; exact Blk.new w7 _ _
    have hg7 : Below U6.heap.size U6 U7 := by rw [hU7, HU6.out]; exact k7_2.alloc k7_2.size _
    have HB7 := Lib.hid hbk7; have HG7 := Lib.hid hg7
    clear h7_1 k7_1 h7_2 k7_2 hbk7 hg7 hU7
    go_wp2_with fail
    refine (is_any ⟨#[49]⟩ ⟨#[51]⟩ _).mono ?_
    rintro e v8_1 ⟨rfl, h8_1⟩
    have k8_1 := h8_1
    go_wp2_with fail
    refine (so_m _).mono ?_
    rintro e w8 ⟨rfl, h8_2⟩
    have k8_2 := k8_1.trans (h8_2.mono k8_1.size)
    obtain ⟨U8, hU8⟩ : ∃ U, U = w8.alloc (.cells #[.string ⟨#[49, 55]⟩, .string ⟨#[53, 48]⟩] 23) := ⟨_, rfl⟩
    have HU8 := Lib.hid hU8
    have hbk8 : Blk U8 w8.heap.size 23 #[.string ⟨#[49, 55]⟩, .string ⟨#[53, 48]⟩] := by rw [hU8]; exact Blk.new w8 _ _
    have hg8 : Below U7.heap.size U7 U8 := by rw [hU8, HU7.out]; exact k8_2.alloc k8_2.size _
    have HB8 := Lib.hid hbk8; have HG8 := Lib.hid hg8
    clear h8_1 k8_1 h8_2 k8_2 hbk8 hg8 hU8
    go_wp2_with fail
    refine (so_o _).mono ?_
    rintro e w9 ⟨rfl, h9_1⟩
    have k9_1 := h9_1
    obtain ⟨U9, hU9⟩ : ∃ U, U = w9.alloc (.cells #[.string ⟨#[45, 51]⟩, .string ⟨#[50]⟩] 23) := ⟨_, rfl⟩
    have HU9 := Lib.hid hU9
    have hbk9 : Blk U9 w9.heap.size 23 #[.string ⟨#[45, 51]⟩, .string ⟨#[50]⟩] := by rw [hU9]; exact Blk.new w9 _ _
    have hg9 : Below U8.heap.size U8 U9 := by rw [hU9, HU8.out]; exact k9_1.alloc k9_1.size _
    have HB9 := Lib.hid hbk9; have HG9 := Lib.hid hg9
    clear h9_1 k9_1 hbk9 hg9 hU9
    go_wp2_with fail
    refine (so_q _).mono ?_
    rintro e w10 ⟨rfl, h10_1⟩
    have k10_1 := h10_1
    obtain ⟨U10, hU10⟩ : ∃ U, U = w10.alloc (.cells #[.string ⟨#[]⟩, .string ⟨#[]⟩] 23) := ⟨_, rfl⟩
    have HU10 := Lib.hid hU10
    have hbk10 : Blk U10 w10.heap.size 23 #[.string ⟨#[]⟩, .string ⟨#[]⟩] := by rw [hU10]; exact Blk.new w10 _ _
    have hg10 : Below U9.heap.size U9 U10 := by rw [hU10, HU9.out]; exact k10_1.alloc k10_1.size _
    have HB10 := Lib.hid hbk10; have HG10 := Lib.hid hg10
    clear h10_1 k10_1 hbk10 hg10 hU10
    go_wp2_with fail
    have l1 := HB1.out.lt; have l2 := HB2.out.lt; have l4 := HB4.out.lt; have l5 := HB5.out.lt; have l7 := HB7.out.lt; have l8 := HB8.out.lt; have l9 := HB9.out.lt
    have T9 := HG10.out
    have T8 := HG9.out.trans (T9.mono HG9.out.size)
    have T7 := HG8.out.trans (T8.mono HG8.out.size)
    have T6 := HG7.out.trans (T7.mono HG7.out.size)
    have T5 := HG6.out.trans (T6.mono HG6.out.size)
    have T4 := HG5.out.trans (T5.mono HG5.out.size)
    have T3 := HG4.out.trans (T4.mono HG4.out.size)
    have T2 := HG3.out.trans (T3.mono HG3.out.size)
    have T1 := HG2.out.trans (T2.mono HG2.out.size)
    have T0 := HG1.out.trans (T1.mono HG1.out.size)
    have z1 := T1.size; have z2 := T2.size; have z4 := T4.size; have z5 := T5.size; have z7 := T7.size; have z8 := T8.size; have z9 := T9.size
    have HK : Hid (∀ W, Below U10.heap.size U10 W → SaneS w1.heap.size w2.heap.size w4.heap.size w5.heap.size w7.heap.size w8.heap.size w9.heap.size W) := fun W hW => by
      have q1 := (HB1.out.below T1 l1).below hW (by omega)
      have q2 := (HB2.out.below T2 l2).below hW (by omega)
      have q4 := (HB4.out.below T4 l4).below hW (by omega)
      have q5 := (HB5.out.below T5 l5).below hW (by omega)
      have q7 := (HB7.out.below T7 l7).below hW (by omega)
      have q8 := (HB8.out.below T8 l8).below hW (by omega)
      have q9 := (HB9.out.below T9 l9).below hW (by omega)
      exact ⟨⟨q1.cell (i := 0) rfl, q1.cell (i := 1) rfl⟩, ⟨q2.cell (i := 0) rfl, q2.cell (i := 1) rfl⟩, ⟨q4.cell (i := 0) rfl, q4.cell (i := 1) rfl⟩, ⟨q5.cell (i := 0) rfl, q5.cell (i := 1) rfl⟩, ⟨q7.cell (i := 0) rfl, q7.cell (i := 1) rfl⟩, ⟨q8.cell (i := 0) rfl, q8.cell (i := 1) rfl⟩, ⟨q9.cell (i := 0) rfl, q9.cell (i := 1) rfl⟩⟩
    have HX : Hid (Below U10.heap.size U10 (w10.alloc (.cells #[.string ⟨#[]⟩, .string ⟨#[]⟩] 23)).drew) := by rw [HU10.out]; exact (Below.refl _ _).drew
    have HT0 := Lib.hid T0
    have hk0 := HK.out _ HX.out
    unfold SaneS at hk0 HK
    clear l1 l2 l4 l5 l7 l8 l9 T0 T1 T2 T3 T4 T5 T6 T7 T8 T9 z1 z2 z4 z5 z7 z8 z9
    go_region_held3 (fun w' => (w'.cell? ⟨w1.heap.size, 0, none⟩ = some (.string ⟨#[45, 51]⟩) ∧ w'.cell? ⟨w1.heap.size, 1, none⟩ = some (.string ⟨#[50]⟩)) ∧ (w'.cell? ⟨w2.heap.size, 0, none⟩ = some (.string ⟨#[48]⟩) ∧ w'.cell? ⟨w2.heap.size, 1, none⟩ = some (.string ⟨#[49]⟩)) ∧ (w'.cell? ⟨w4.heap.size, 0, none⟩ = some (.string ⟨#[53]⟩) ∧ w'.cell? ⟨w4.heap.size, 1, none⟩ = some (.string ⟨#[54]⟩)) ∧ (w'.cell? ⟨w5.heap.size, 0, none⟩ = some (.string ⟨#[45, 50]⟩) ∧ w'.cell? ⟨w5.heap.size, 1, none⟩ = some (.string ⟨#[49]⟩)) ∧ (w'.cell? ⟨w7.heap.size, 0, none⟩ = some (.string ⟨#[45, 49, 55]⟩) ∧ w'.cell? ⟨w7.heap.size, 1, none⟩ = some (.string ⟨#[53, 48]⟩)) ∧ (w'.cell? ⟨w8.heap.size, 0, none⟩ = some (.string ⟨#[49, 55]⟩) ∧ w'.cell? ⟨w8.heap.size, 1, none⟩ = some (.string ⟨#[53, 48]⟩)) ∧ (w'.cell? ⟨w9.heap.size, 0, none⟩ = some (.string ⟨#[45, 51]⟩) ∧ w'.cell? ⟨w9.heap.size, 1, none⟩ = some (.string ⟨#[50]⟩))) (first | exact HK.out _ HX.out | exact hk0 | go_keep)
      (first
        | (go_at_call 27; (with_reducible refine (is_any _ _ _).mono ?_); rintro e v ⟨rfl, h9⟩; have HX := Lib.hid (HX.out.trans (h9.mono HX.out.size)); clear h9)
        | (go_at_call 30; (with_reducible refine (so_p _).mono ?_); rintro e v ⟨rfl, h9⟩; have HX := Lib.hid (HX.out.trans (h9.mono HX.out.size)); clear h9)
        | (go_at_call 13; (with_reducible refine (so_cmp _).mono ?_); rintro e v ⟨rfl, h9⟩; have HX := Lib.hid (HX.out.trans (h9.mono HX.out.size)); clear h9)
        | (go_at_call 22; (with_reducible refine (so_v _).mono ?_); rintro e v ⟨rfl, h9⟩; have HX := Lib.hid (HX.out.trans (h9.mono HX.out.size)); clear h9)
        | (go_at_call 22; (with_reducible refine (so_v0 _).mono ?_); rintro e v ⟨rfl, h9⟩; have HX := Lib.hid (HX.out.trans (h9.mono HX.out.size)); clear h9))
    all_goals
      go_wp2_with fail
      go_ret
      exact ⟨rfl, HT0.out.trans (HX.out.mono HT0.out.size)⟩
end Go.Proofs.YtgokpdidhpogdaaGreat
namespace Go.Proofs.YtgokpdidhpogdaaGreat
open Go.RowKit Go.Lib

set_option maxRecDepth 100000 in
theorem pick_any (c n : Int) (w : World) (hc0 : -9223372036854775808 ≤ c ∧ c ≤ 9223372036854775807) (hn : 0 < n ∧ n ≤ 9223372036854775807) :
    Calls Tryz.prog 15 #[.int .i64 c, .int .i64 n] w fun e w' => ∃ k : Nat, (k : Int) < n ∧ e = .returned (.int .i64 (k : Nat)) ∧ w = w' := by
  obtain ⟨c0, c1⟩ := hc0
  obtain ⟨n0, n1⟩ := hn
  obtain ⟨k, hk⟩ : ∃ k : Nat, (k : Int) = (if c < 0 then -(c + 1) else c) % n := ⟨((if c < 0 then -(c + 1) else c) % n).toNat, by
    have := Int.emod_nonneg (if c < 0 then -(c + 1) else c) (show n ≠ 0 by omega); omega⟩
  have hk2 : (k : Int) < n := by
    have := Int.emod_lt_of_pos (if c < 0 then -(c + 1) else c) n0; omega
  have HK2 := Lib.hid hk2
  have hnz : (n == 0) = false := by rw [beq_eq_false_iff_ne]; omega
  have hn1 : (n == -1) = false := by rw [beq_eq_false_iff_ne]; omega
  by_cases h : c < 0
  · rw [if_pos h] at hk
    have h2 : (-(c + 1)).tmod n = (k : Int) := by rw [Int.tmod_eq_emod_of_nonneg (by omega), hk]
    have h3 : -((c + 1).tmod n) = (k : Int) := by rw [← Int.neg_tmod]; exact h2
    have HK := Lib.hid h3
    clear hk hk2 h2 h3
    go_enter Tryz.func15, Tryz.ntmps15
    go_wp2
    go_ret
    exact ⟨k, HK2.out, ret_int HK.out, rfl⟩
  · rw [if_neg h] at hk
    have HK := Lib.hid hk
    clear hk hk2
    go_enter Tryz.func15, Tryz.ntmps15
    go_wp2
    go_ret
    exact ⟨k, HK2.out, ret_int HK.out.symm, rfl⟩
end Go.Proofs.YtgokpdidhpogdaaGreat
