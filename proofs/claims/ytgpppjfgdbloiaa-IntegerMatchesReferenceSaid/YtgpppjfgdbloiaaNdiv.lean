/- The contract of divided of numbers. Conditions: the amounts read, and have at most 500 groups; the divisor is not zero. -/
import Derived.Test.YtgpppjfgdbloiaaNum2
namespace Go.Proofs.Ytgpppjfgdbloiaa
open Go.RowKit Go.Lib

/-- Quotient and remainder of two integers have been returned as numbers. -/
def OutD (x y : Int) (w : World) (e : Ending) (w' : World) : Prop :=
  ∃ s Q A c R A' c', e = .returned (.tuple #[.agg #[.bool s, .slice A (glen Q) c], .agg #[.bool false, .slice A' (glen R) c']]) ∧ sg s Q = x / y ∧ (s = true → 0 < Q) ∧ (R : Int) = x % y ∧ Am w' A (glen Q) c Q ∧ Am w' A' (glen R) c' R ∧ Below w.heap.size w w'
theorem sg_div0 (s t : Bool) (X Y : Nat) (hY : 0 < Y) (h : s = true → X % Y = 0) : sg (sb (!(s == t)) (X / Y)) (X / Y) = sg s X / sg t Y ∧ ((X % Y : Nat) : Int) = sg s X % sg t Y := by
  rw [sg_sb]
  have h1 := Nat.div_add_mod X Y
  have e : (X : Int) = (Y : Int) * (X / Y : Nat) + (X % Y : Nat) := by exact_mod_cast h1.symm
  have hp : (0 : Int) < Y := by omega
  have hq := Int.natCast_ediv X Y
  have hr := Int.natCast_emod X Y
  cases s <;> cases t
  · simp [sg]
  · simp [sg]
  · have h0 := h rfl
    have hd : (Y : Int) ∣ X := by rw [Int.natCast_dvd_natCast]; exact Nat.dvd_of_mod_eq_zero h0
    simp [sg]
    rw [Int.neg_ediv_of_dvd hd, Int.neg_emod_eq_sub_emod]
    refine ⟨rfl, ?_⟩
    rw [h0] at hr
    have : (X : Int) % Y = 0 := by omega
    obtain ⟨k, hk⟩ := hd
    rw [hk, Int.mul_emod_right, ← Int.mul_one (Y : Int), Int.mul_assoc, ← Int.mul_sub]
    simp
  · have h0 := h rfl
    have hd : (Y : Int) ∣ X := by rw [Int.natCast_dvd_natCast]; exact Nat.dvd_of_mod_eq_zero h0
    simp [sg]
    rw [Int.neg_ediv_of_dvd hd]
    have : (X : Int) % Y = 0 := by rw [h0] at hr; omega
    obtain ⟨k, hk⟩ := hd
    refine ⟨by omega, ?_⟩
    rw [this, hk]
    rw [show -((Y : Int) * k) = Y * (-k) from (Int.mul_neg _ _).symm, Int.mul_emod_right]
theorem sg_div1 (t : Bool) (X Y : Nat) (hY : 0 < Y) (h : 0 < X % Y) : sg (sb (!(true == t)) (X / Y + 1)) (X / Y + 1) = sg true X / sg t Y ∧ ((Y - X % Y : Nat) : Int) = sg true X % sg t Y := by
  rw [sg_sb]
  have h1 := Nat.div_add_mod X Y
  have h2 := Nat.mod_lt X hY
  have hp : (0 : Int) < Y := by omega
  have hu : -(X : Int) / Y = -((X / Y : Nat) + 1 : Int) ∧ -(X : Int) % Y = ((Y - X % Y : Nat) : Int) := by
    rw [Int.ediv_emod_unique hp]
    refine ⟨?_, by omega, by omega⟩
    have e : (X : Int) = (Y : Int) * (X / Y : Nat) + (X % Y : Nat) := by exact_mod_cast h1.symm
    have e2 : ((Y - X % Y : Nat) : Int) = Y - (X % Y : Nat) := by omega
    rw [e2, Int.mul_neg, Int.mul_add, Int.mul_one]
    omega
  cases t
  · simp only [sg, if_true]
    refine ⟨?_, ?_⟩
    · simp; rw [hu.1]; simp
    · simp; rw [hu.2]
  · refine ⟨?_, ?_⟩
    · simp [sg]; rw [hu.1]; simp
    · simp [sg]; rw [hu.2]

/-- The world of divided, after its head. -/
theorem numW4_spec (w : World) (s t : Bool) (A A' : Option Addr) (n c n' c' : Nat) (W : World)
    (hW : W = ((((w.alloc (.cells #[.bool s, .slice A n c] 53)).alloc (.cells #[.bool t, .slice A' n' c'] 53)).alloc (.cells #[.bool false, .slice none 0 0] 53)).alloc (.cells #[.bool false, .slice none 0 0] 53))) :
    Below w.heap.size w W ∧ W.heap.size = w.heap.size + 4 ∧
    ∀ W', Below (w.heap.size + 4) W W' → W'.cell? ⟨w.heap.size, 0, none⟩ = some (.bool s) ∧ W'.cell? ⟨w.heap.size + 1, 0, none⟩ = some (.bool t) ∧ W'.cell? ⟨w.heap.size + 1, 1, none⟩ = some (.slice A' n' c') ∧
      Blk W' (w.heap.size + 1 + 1) 53 #[.bool false, .slice none 0 0] ∧ Blk W' (w.heap.size + 1 + 1 + 1) 53 #[.bool false, .slice none 0 0] := by
  subst hW
  refine ⟨((((Below.refl _ _).alloc (Nat.le_refl _) _).alloc (by simp) _).alloc (by simp; omega) _).alloc (by simp; omega) _, by simp, fun W' hb => ?_⟩
  have b0 : Blk W' w.heap.size 53 #[.bool s, .slice A n c] := ((((Blk.new w _ _).alloc _).alloc _).alloc _).below hb (by omega)
  have b1 : Blk W' (w.heap.size + 1) 53 #[.bool t, .slice A' n' c'] := by
    have h := Blk.new (w.alloc (.cells #[.bool s, .slice A n c] 53)) 53 #[.bool t, .slice A' n' c']
    rw [show (w.alloc (.cells #[.bool s, .slice A n c] 53)).heap.size = w.heap.size + 1 from by simp] at h
    exact ((h.alloc _).alloc _).below hb (by omega)
  have b2 : Blk W' (w.heap.size + 1 + 1) 53 #[.bool false, .slice none 0 0] := by
    have h := Blk.new ((w.alloc (.cells #[.bool s, .slice A n c] 53)).alloc (.cells #[.bool t, .slice A' n' c'] 53)) 53 #[.bool false, .slice none 0 0]
    rw [show ((w.alloc (.cells #[.bool s, .slice A n c] 53)).alloc (.cells #[.bool t, .slice A' n' c'] 53)).heap.size = w.heap.size + 1 + 1 from by simp] at h
    exact (h.alloc _).below hb (by omega)
  have b3 : Blk W' (w.heap.size + 1 + 1 + 1) 53 #[.bool false, .slice none 0 0] := by
    have h := Blk.new (((w.alloc (.cells #[.bool s, .slice A n c] 53)).alloc (.cells #[.bool t, .slice A' n' c'] 53)).alloc (.cells #[.bool false, .slice none 0 0] 53)) 53 #[.bool false, .slice none 0 0]
    rw [show (((w.alloc (.cells #[.bool s, .slice A n c] 53)).alloc (.cells #[.bool t, .slice A' n' c'] 53)).alloc (.cells #[.bool false, .slice none 0 0] 53)).heap.size = w.heap.size + 1 + 1 + 1 from by simp] at h
    exact h.below hb (by omega)
  exact ⟨b0.cell rfl, b1.cell rfl, b1.cell rfl, b2, b3⟩

/-- Cells that a store elsewhere leaves. -/
theorem Blk.far_two {w : World} {g b : Nat} {t : TypeId} {cs : Array Value} (h : Blk w g t cs) (hne : g ≠ b) (u v : Value) : Blk ((w.setCell ⟨b, 0, none⟩ u).setCell ⟨b, 1, none⟩ v) g t cs := (h.far (p := ⟨b, 0, none⟩) hne u).far (p := ⟨b, 1, none⟩) hne v

set_option maxRecDepth 100000 in
set_option maxHeartbeats 2000000 in
theorem ndiv_any (s t : Bool) (A A' : Option Addr) (c c' X Y : Nat) (w : World) (hA : Am w A (glen X) c X) (hB : Am w A' (glen Y) c' Y) (hX : glen X ≤ 500) (hY : glen Y ≤ 500) (hY0 : 0 < Y) :
    Calls Try.prog 48 #[.agg #[.bool s, .slice A (glen X) c], .agg #[.bool t, .slice A' (glen Y) c']] w (OutD (sg s X) (sg t Y) w) := by
  obtain ⟨W, hW⟩ : ∃ W, W = ((((w.alloc (.cells #[.bool s, .slice A (glen X) c] 53)).alloc (.cells #[.bool t, .slice A' (glen Y) c'] 53)).alloc (.cells #[.bool false, .slice none 0 0] 53)).alloc (.cells #[.bool false, .slice none 0 0] 53)) := ⟨_, rfl⟩
  obtain ⟨hb, hsz, hcl⟩ := numW4_spec w s t A A' (glen X) c (glen Y) c' W hW
  have hdv := adiv_any A A' c c' X Y W (hA.below hb) (hB.below hb) (by omega) (by omega) hY0
  have HC1 := Lib.hid hdv
  have HB := Lib.hid hb; have HK := Lib.hid hcl; have HSZ := Lib.hid hsz
  have HBB := Lib.hid hB
  rw [hW] at HC1
  have HW := Lib.hid hW
  clear hb hcl hA hB hsz hdv hW
  have d0 := sg_div0 s t X Y hY0
  have d1 := sg_div1 t X Y hY0
  have HY0 := Lib.hid hY0
  have hlt := Lib.hid (Nat.mod_lt X hY0)
  have hgq : glen (X / Y) ≤ 500 := Nat.le_trans (glen_mono (Nat.div_le_self _ _)) hX
  obtain ⟨Q, hQ⟩ : ∃ Q, Q = X / Y := ⟨_, rfl⟩
  obtain ⟨R, hR⟩ : ∃ R, R = X % Y := ⟨_, rfl⟩
  unfold OutQ at HC1
  rw [← hQ, ← hR] at d0 d1 HC1
  rw [← hQ] at hgq
  rw [← hR] at hlt
  have HD0 := Lib.hid d0; have HD1 := Lib.hid d1
  clear d0 d1 hQ hR hY0
  go_enter Try.func48, Try.ntmps48
  go_wp2_with fail
  refine HC1.out.mono ?_
  rintro e w2 ⟨A1, c1, A2, c2, rfl, hA1, hA2, hb2⟩
  rw [← HW.out] at hb2
  have hb4 := (hb2.mono (Nat.le_of_eq HSZ.out.symm))
  have hb5 := HB.out.trans (hb2.mono HB.out.size)
  obtain ⟨k0, k1, k2, -, -⟩ := HK.out _ hb4
  have HA1 := Lib.hid hA1; have HA2 := Lib.hid hA2; have HB4 := Lib.hid hb4; have HB5 := Lib.hid hb5
  clear hA1 hA2 hb2 hb4 hb5
  by_cases hn : s = true ∧ 0 < R
  · obtain ⟨rfl, hR0⟩ := hn
    have hg0 := glen_pos hR0
    have hi0 : (0 : Int) < ((glen R : Nat) : Int) := by omega
    have hw3 : Below w2.heap.size w2 (w2.alloc (.cells #[.int .i64 1] 3)).drew := ((Below.refl _ _).alloc (Nat.le_refl _) _).drew
    have h1 := Am.one w2 1 (by omega)
    rw [show ((1 : Nat) : Int) = 1 from rfl] at h1
    have hpl := aplus_any A1 (some ⟨w2.heap.size, 0, none⟩) c1 1 Q 1 (w2.alloc (.cells #[.int .i64 1] 3)).drew (HA1.out.below hw3) (by rw [show glen 1 = 1 from glen_eq (by omega) (.inr (by decide))]; exact h1.drew) (by omega) (by rw [show glen 1 = 1 from glen_eq (by omega) (.inr (by decide))]; omega)
    rw [show glen 1 = 1 from glen_eq (by omega) (.inr (by decide))] at hpl
    have HC4 := Lib.hid hpl; have HW3 := Lib.hid hw3
    have HR0 := Lib.hid hR0
    clear hpl hw3 h1 hR0
    go_wp2_with fail
    go_region_held3 (fun w' => w'.cell? ⟨w.heap.size + 1, 1, none⟩ = some (.slice A' (glen Y) c'))
      (first | exact (HK.out _ hx4).2.2.1 | exact (HK.out _ hx3).2.2.1 | go_keep)
      (first
        | (go_at_call 65; (with_reducible refine HC4.out.mono ?_); rintro e w3 ⟨A3, c3, rfl, hA3, hb3⟩; have hx3 := HB4.out.trans ((HW3.out.trans (hb3.mono HW3.out.size)).mono (by have := HB4.out.size; have := HSZ.out; omega)); have hx5 := HB5.out.trans ((HW3.out.trans (hb3.mono HW3.out.size)).mono HB5.out.size); have HA2b := Lib.hid ((HA2.out.below HW3.out).below hb3); have hmi := aminus_any A' A2 c' c2 Y R w3 (HBB.out.below hx5) HA2b.out (by omega) (Nat.le_of_lt hlt.out); have HC5 := Lib.hid hmi; have HA3a := Lib.hid hA3; clear hmi hb3 hA3)
        | (go_at_call 67; (with_reducible refine HC5.out.mono ?_); rintro e w4x ⟨A4, c4, rfl, hA4, hb4⟩; have hx4 := hx3.trans (hb4.mono (by have := hx3.size; have := HSZ.out; omega)); have hx6 := hx5.trans (hb4.mono hx5.size); have HA4 := Lib.hid hA4; have HA3 := Lib.hid (HA3a.out.below hb4); clear hb4 hA4))
    all_goals
      rename_i hh
      clear hh
      have HX4 := Lib.hid hx4; have HX5 := Lib.hid hx6
      obtain ⟨k0', k1', k2', -, -⟩ := HK.out _ hx4
      clear hx3 hx4 hx5 hx6 k0 k1 k2
      cases t
      · have hs1 := signed_any true A3 c3 (Q + 1) w4x HA3.out
        have HC2 := Lib.hid hs1
        clear hs1
        go_wp2_with fail
        refine HC2.out.mono ?_
        rintro e w4 ⟨rfl, hb3⟩
        have hb6 := HX4.out.trans (hb3.mono (by have := HX4.out.size; have := HSZ.out; omega))
        have hb7 := HX5.out.trans (hb3.mono HX5.out.size)
        have HA5 := Lib.hid (HA3.out.below hb3); have HA6 := Lib.hid (HA4.out.below hb3)
        have hs2 := signed_any false A4 c4 (Y - R) w4 HA6.out
        rw [sb_false] at hs2
        have HC3 := Lib.hid hs2; have HB6 := Lib.hid hb6; have HB7 := Lib.hid hb7
        clear hs2 hb3 hb6 hb7
        go_wp2_with fail
        refine HC3.out.mono ?_
        rintro e w5 ⟨rfl, hb8⟩
        have hb9 := HB6.out.trans (hb8.mono (by have := HB6.out.size; have := HSZ.out; omega))
        have hb10 := HB7.out.trans (hb8.mono HB7.out.size)
        have HA7 := Lib.hid (HA5.out.below hb8); have HA8 := Lib.hid (HA6.out.below hb8)
        obtain ⟨-, -, -, B2, B3⟩ := HK.out _ hb9
        have x0 := B2.cell (i := 0) rfl; have x1 := B2.cell (i := 1) rfl; have x2 := B2.frozen 0; have x3 := B2.frozen 1
        have B3' := B3.far_two (b := w.heap.size + 1 + 1) (by omega) (.bool (sb true (Q + 1))) (.slice A3 (glen (Q + 1)) c3)
        have y0 := B3'.cell (i := 0) rfl; have y1 := B3'.cell (i := 1) rfl; have y2 := B3'.frozen 0; have y3 := B3'.frozen 1
        have B2' := ((B2.set 0 (.bool (sb true (Q + 1)))).set 1 (.slice A3 (glen (Q + 1)) c3)).far_two (b := w.heap.size + 1 + 1 + 1) (by omega) (.bool false) (.slice A4 (glen (Y - R)) c4)
        have z0 := B2'.cell (i := 0) rfl; have z1 := B2'.cell (i := 1) rfl
        obtain ⟨z2, z3⟩ := B3'.two (u := .bool false) (v := .slice A4 (glen (Y - R)) c4)
        have HA9 := Lib.hid ((HA7.out.store (u := sb true (Q + 1)) (A' := A3) (n' := glen (Q + 1)) (c' := c3) B2).store (u := false) (A' := A4) (n' := glen (Y - R)) (c' := c4) B3')
        have HA10 := Lib.hid ((HA8.out.store (u := sb true (Q + 1)) (A' := A3) (n' := glen (Q + 1)) (c' := c3) B2).store (u := false) (A' := A4) (n' := glen (Y - R)) (c' := c4) B3')
        have HB11 := Lib.hid ((((hb10.setCell (p := ⟨w.heap.size + 1 + 1, 0, none⟩) (by simp; omega) (.bool (sb true (Q + 1)))).setCell (p := ⟨w.heap.size + 1 + 1, 1, none⟩) (by simp; omega) (.slice A3 (glen (Q + 1)) c3)).setCell (p := ⟨w.heap.size + 1 + 1 + 1, 0, none⟩) (by simp; omega) (.bool false)).setCell (p := ⟨w.heap.size + 1 + 1 + 1, 1, none⟩) (by simp; omega) (.slice A4 (glen (Y - R)) c4))
        clear B2 B3 B3' B2' HA7 HA8 hb8 hb9 hb10 HC3 HB6 HB7 HA5 HA6 HC2
        go_wp2_with fail
        exact bodyPost_ret (v := .tuple #[.agg #[.bool (sb true (Q + 1)), .slice A3 (glen (Q + 1)) c3], .agg #[.bool false, .slice A4 (glen (Y - R)) c4]]) (by simp [results, Try.results48, go_sem, z0, z1, z2, z3]) rfl ⟨_, _, _, _, _, _, _, rfl, (HD1.out HR0.out).1, sb_pos, (HD1.out HR0.out).2, HA9.out, HA10.out, HB11.out⟩
      · have hs1 := signed_any false A3 c3 (Q + 1) w4x HA3.out
        have HC2 := Lib.hid hs1
        clear hs1
        go_wp2_with fail
        refine HC2.out.mono ?_
        rintro e w4 ⟨rfl, hb3⟩
        have hb6 := HX4.out.trans (hb3.mono (by have := HX4.out.size; have := HSZ.out; omega))
        have hb7 := HX5.out.trans (hb3.mono HX5.out.size)
        have HA5 := Lib.hid (HA3.out.below hb3); have HA6 := Lib.hid (HA4.out.below hb3)
        have hs2 := signed_any false A4 c4 (Y - R) w4 HA6.out
        rw [sb_false] at hs2
        have HC3 := Lib.hid hs2; have HB6 := Lib.hid hb6; have HB7 := Lib.hid hb7
        clear hs2 hb3 hb6 hb7
        go_wp2_with fail
        refine HC3.out.mono ?_
        rintro e w5 ⟨rfl, hb8⟩
        have hb9 := HB6.out.trans (hb8.mono (by have := HB6.out.size; have := HSZ.out; omega))
        have hb10 := HB7.out.trans (hb8.mono HB7.out.size)
        have HA7 := Lib.hid (HA5.out.below hb8); have HA8 := Lib.hid (HA6.out.below hb8)
        obtain ⟨-, -, -, B2, B3⟩ := HK.out _ hb9
        have x0 := B2.cell (i := 0) rfl; have x1 := B2.cell (i := 1) rfl; have x2 := B2.frozen 0; have x3 := B2.frozen 1
        have B3' := B3.far_two (b := w.heap.size + 1 + 1) (by omega) (.bool (sb false (Q + 1))) (.slice A3 (glen (Q + 1)) c3)
        have y0 := B3'.cell (i := 0) rfl; have y1 := B3'.cell (i := 1) rfl; have y2 := B3'.frozen 0; have y3 := B3'.frozen 1
        have B2' := ((B2.set 0 (.bool (sb false (Q + 1)))).set 1 (.slice A3 (glen (Q + 1)) c3)).far_two (b := w.heap.size + 1 + 1 + 1) (by omega) (.bool false) (.slice A4 (glen (Y - R)) c4)
        have z0 := B2'.cell (i := 0) rfl; have z1 := B2'.cell (i := 1) rfl
        obtain ⟨z2, z3⟩ := B3'.two (u := .bool false) (v := .slice A4 (glen (Y - R)) c4)
        have HA9 := Lib.hid ((HA7.out.store (u := sb false (Q + 1)) (A' := A3) (n' := glen (Q + 1)) (c' := c3) B2).store (u := false) (A' := A4) (n' := glen (Y - R)) (c' := c4) B3')
        have HA10 := Lib.hid ((HA8.out.store (u := sb false (Q + 1)) (A' := A3) (n' := glen (Q + 1)) (c' := c3) B2).store (u := false) (A' := A4) (n' := glen (Y - R)) (c' := c4) B3')
        have HB11 := Lib.hid ((((hb10.setCell (p := ⟨w.heap.size + 1 + 1, 0, none⟩) (by simp; omega) (.bool (sb false (Q + 1)))).setCell (p := ⟨w.heap.size + 1 + 1, 1, none⟩) (by simp; omega) (.slice A3 (glen (Q + 1)) c3)).setCell (p := ⟨w.heap.size + 1 + 1 + 1, 0, none⟩) (by simp; omega) (.bool false)).setCell (p := ⟨w.heap.size + 1 + 1 + 1, 1, none⟩) (by simp; omega) (.slice A4 (glen (Y - R)) c4))
        clear B2 B3 B3' B2' HA7 HA8 hb8 hb9 hb10 HC3 HB6 HB7 HA5 HA6 HC2
        go_wp2_with fail
        exact bodyPost_ret (v := .tuple #[.agg #[.bool (sb false (Q + 1)), .slice A3 (glen (Q + 1)) c3], .agg #[.bool false, .slice A4 (glen (Y - R)) c4]]) (by simp [results, Try.results48, go_sem, z0, z1, z2, z3]) rfl ⟨_, _, _, _, _, _, _, rfl, (HD1.out HR0.out).1, sb_pos, (HD1.out HR0.out).2, HA9.out, HA10.out, HB11.out⟩
  · have hn2 : (s = false) ∨ (s = true ∧ R = 0) := by
      cases s
      · exact .inl rfl
      · exact .inr ⟨rfl, by have : ¬ 0 < R := fun h => hn ⟨rfl, h⟩; omega⟩
    clear hn
    rcases hn2 with rfl | ⟨rfl, hR0⟩
    · cases t
      · have hs1 := signed_any false A1 c1 (Q) w2 HA1.out
        have HC2 := Lib.hid hs1
        clear hs1
        go_wp2_with fail
        refine HC2.out.mono ?_
        rintro e w4 ⟨rfl, hb3⟩
        have hb6 := HB4.out.trans (hb3.mono (by have := HB4.out.size; have := HSZ.out; omega))
        have hb7 := HB5.out.trans (hb3.mono HB5.out.size)
        have HA5 := Lib.hid (HA1.out.below hb3); have HA6 := Lib.hid (HA2.out.below hb3)
        have hs2 := signed_any false A2 c2 (R) w4 HA6.out
        rw [sb_false] at hs2
        have HC3 := Lib.hid hs2; have HB6 := Lib.hid hb6; have HB7 := Lib.hid hb7
        clear hs2 hb3 hb6 hb7
        go_wp2_with fail
        refine HC3.out.mono ?_
        rintro e w5 ⟨rfl, hb8⟩
        have hb9 := HB6.out.trans (hb8.mono (by have := HB6.out.size; have := HSZ.out; omega))
        have hb10 := HB7.out.trans (hb8.mono HB7.out.size)
        have HA7 := Lib.hid (HA5.out.below hb8); have HA8 := Lib.hid (HA6.out.below hb8)
        obtain ⟨-, -, -, B2, B3⟩ := HK.out _ hb9
        have x0 := B2.cell (i := 0) rfl; have x1 := B2.cell (i := 1) rfl; have x2 := B2.frozen 0; have x3 := B2.frozen 1
        have B3' := B3.far_two (b := w.heap.size + 1 + 1) (by omega) (.bool (sb false (Q))) (.slice A1 (glen (Q)) c1)
        have y0 := B3'.cell (i := 0) rfl; have y1 := B3'.cell (i := 1) rfl; have y2 := B3'.frozen 0; have y3 := B3'.frozen 1
        have B2' := ((B2.set 0 (.bool (sb false (Q)))).set 1 (.slice A1 (glen (Q)) c1)).far_two (b := w.heap.size + 1 + 1 + 1) (by omega) (.bool false) (.slice A2 (glen (R)) c2)
        have z0 := B2'.cell (i := 0) rfl; have z1 := B2'.cell (i := 1) rfl
        obtain ⟨z2, z3⟩ := B3'.two (u := .bool false) (v := .slice A2 (glen (R)) c2)
        have HA9 := Lib.hid ((HA7.out.store (u := sb false (Q)) (A' := A1) (n' := glen (Q)) (c' := c1) B2).store (u := false) (A' := A2) (n' := glen (R)) (c' := c2) B3')
        have HA10 := Lib.hid ((HA8.out.store (u := sb false (Q)) (A' := A1) (n' := glen (Q)) (c' := c1) B2).store (u := false) (A' := A2) (n' := glen (R)) (c' := c2) B3')
        have HB11 := Lib.hid ((((hb10.setCell (p := ⟨w.heap.size + 1 + 1, 0, none⟩) (by simp; omega) (.bool (sb false (Q)))).setCell (p := ⟨w.heap.size + 1 + 1, 1, none⟩) (by simp; omega) (.slice A1 (glen (Q)) c1)).setCell (p := ⟨w.heap.size + 1 + 1 + 1, 0, none⟩) (by simp; omega) (.bool false)).setCell (p := ⟨w.heap.size + 1 + 1 + 1, 1, none⟩) (by simp; omega) (.slice A2 (glen (R)) c2))
        clear B2 B3 B3' B2' HA7 HA8 hb8 hb9 hb10 HC3 HB6 HB7 HA5 HA6 HC2
        go_wp2_with fail
        exact bodyPost_ret (v := .tuple #[.agg #[.bool (sb false (Q)), .slice A1 (glen (Q)) c1], .agg #[.bool false, .slice A2 (glen (R)) c2]]) (by simp [results, Try.results48, go_sem, z0, z1, z2, z3]) rfl ⟨_, _, _, _, _, _, _, rfl, (HD0.out (fun h => by cases h)).1, sb_pos, (HD0.out (fun h => by cases h)).2, HA9.out, HA10.out, HB11.out⟩
      · have hs1 := signed_any true A1 c1 (Q) w2 HA1.out
        have HC2 := Lib.hid hs1
        clear hs1
        go_wp2_with fail
        refine HC2.out.mono ?_
        rintro e w4 ⟨rfl, hb3⟩
        have hb6 := HB4.out.trans (hb3.mono (by have := HB4.out.size; have := HSZ.out; omega))
        have hb7 := HB5.out.trans (hb3.mono HB5.out.size)
        have HA5 := Lib.hid (HA1.out.below hb3); have HA6 := Lib.hid (HA2.out.below hb3)
        have hs2 := signed_any false A2 c2 (R) w4 HA6.out
        rw [sb_false] at hs2
        have HC3 := Lib.hid hs2; have HB6 := Lib.hid hb6; have HB7 := Lib.hid hb7
        clear hs2 hb3 hb6 hb7
        go_wp2_with fail
        refine HC3.out.mono ?_
        rintro e w5 ⟨rfl, hb8⟩
        have hb9 := HB6.out.trans (hb8.mono (by have := HB6.out.size; have := HSZ.out; omega))
        have hb10 := HB7.out.trans (hb8.mono HB7.out.size)
        have HA7 := Lib.hid (HA5.out.below hb8); have HA8 := Lib.hid (HA6.out.below hb8)
        obtain ⟨-, -, -, B2, B3⟩ := HK.out _ hb9
        have x0 := B2.cell (i := 0) rfl; have x1 := B2.cell (i := 1) rfl; have x2 := B2.frozen 0; have x3 := B2.frozen 1
        have B3' := B3.far_two (b := w.heap.size + 1 + 1) (by omega) (.bool (sb true (Q))) (.slice A1 (glen (Q)) c1)
        have y0 := B3'.cell (i := 0) rfl; have y1 := B3'.cell (i := 1) rfl; have y2 := B3'.frozen 0; have y3 := B3'.frozen 1
        have B2' := ((B2.set 0 (.bool (sb true (Q)))).set 1 (.slice A1 (glen (Q)) c1)).far_two (b := w.heap.size + 1 + 1 + 1) (by omega) (.bool false) (.slice A2 (glen (R)) c2)
        have z0 := B2'.cell (i := 0) rfl; have z1 := B2'.cell (i := 1) rfl
        obtain ⟨z2, z3⟩ := B3'.two (u := .bool false) (v := .slice A2 (glen (R)) c2)
        have HA9 := Lib.hid ((HA7.out.store (u := sb true (Q)) (A' := A1) (n' := glen (Q)) (c' := c1) B2).store (u := false) (A' := A2) (n' := glen (R)) (c' := c2) B3')
        have HA10 := Lib.hid ((HA8.out.store (u := sb true (Q)) (A' := A1) (n' := glen (Q)) (c' := c1) B2).store (u := false) (A' := A2) (n' := glen (R)) (c' := c2) B3')
        have HB11 := Lib.hid ((((hb10.setCell (p := ⟨w.heap.size + 1 + 1, 0, none⟩) (by simp; omega) (.bool (sb true (Q)))).setCell (p := ⟨w.heap.size + 1 + 1, 1, none⟩) (by simp; omega) (.slice A1 (glen (Q)) c1)).setCell (p := ⟨w.heap.size + 1 + 1 + 1, 0, none⟩) (by simp; omega) (.bool false)).setCell (p := ⟨w.heap.size + 1 + 1 + 1, 1, none⟩) (by simp; omega) (.slice A2 (glen (R)) c2))
        clear B2 B3 B3' B2' HA7 HA8 hb8 hb9 hb10 HC3 HB6 HB7 HA5 HA6 HC2
        go_wp2_with fail
        exact bodyPost_ret (v := .tuple #[.agg #[.bool (sb true (Q)), .slice A1 (glen (Q)) c1], .agg #[.bool false, .slice A2 (glen (R)) c2]]) (by simp [results, Try.results48, go_sem, z0, z1, z2, z3]) rfl ⟨_, _, _, _, _, _, _, rfl, (HD0.out (fun h => by cases h)).1, sb_pos, (HD0.out (fun h => by cases h)).2, HA9.out, HA10.out, HB11.out⟩
    · have hi0 : ((glen R : Nat) : Int) ≤ 0 := by rw [hR0, glen_zero]; omega
      have hi1 : ¬ 0 < glen R := by omega
      have HR0 := Lib.hid hR0
      clear hR0
      cases t
      · have hs1 := signed_any true A1 c1 (Q) w2 HA1.out
        have HC2 := Lib.hid hs1
        clear hs1
        go_wp2_with fail
        refine HC2.out.mono ?_
        rintro e w4 ⟨rfl, hb3⟩
        have hb6 := HB4.out.trans (hb3.mono (by have := HB4.out.size; have := HSZ.out; omega))
        have hb7 := HB5.out.trans (hb3.mono HB5.out.size)
        have HA5 := Lib.hid (HA1.out.below hb3); have HA6 := Lib.hid (HA2.out.below hb3)
        have hs2 := signed_any false A2 c2 (R) w4 HA6.out
        rw [sb_false] at hs2
        have HC3 := Lib.hid hs2; have HB6 := Lib.hid hb6; have HB7 := Lib.hid hb7
        clear hs2 hb3 hb6 hb7
        go_wp2_with fail
        refine HC3.out.mono ?_
        rintro e w5 ⟨rfl, hb8⟩
        have hb9 := HB6.out.trans (hb8.mono (by have := HB6.out.size; have := HSZ.out; omega))
        have hb10 := HB7.out.trans (hb8.mono HB7.out.size)
        have HA7 := Lib.hid (HA5.out.below hb8); have HA8 := Lib.hid (HA6.out.below hb8)
        obtain ⟨-, -, -, B2, B3⟩ := HK.out _ hb9
        have x0 := B2.cell (i := 0) rfl; have x1 := B2.cell (i := 1) rfl; have x2 := B2.frozen 0; have x3 := B2.frozen 1
        have B3' := B3.far_two (b := w.heap.size + 1 + 1) (by omega) (.bool (sb true (Q))) (.slice A1 (glen (Q)) c1)
        have y0 := B3'.cell (i := 0) rfl; have y1 := B3'.cell (i := 1) rfl; have y2 := B3'.frozen 0; have y3 := B3'.frozen 1
        have B2' := ((B2.set 0 (.bool (sb true (Q)))).set 1 (.slice A1 (glen (Q)) c1)).far_two (b := w.heap.size + 1 + 1 + 1) (by omega) (.bool false) (.slice A2 (glen (R)) c2)
        have z0 := B2'.cell (i := 0) rfl; have z1 := B2'.cell (i := 1) rfl
        obtain ⟨z2, z3⟩ := B3'.two (u := .bool false) (v := .slice A2 (glen (R)) c2)
        have HA9 := Lib.hid ((HA7.out.store (u := sb true (Q)) (A' := A1) (n' := glen (Q)) (c' := c1) B2).store (u := false) (A' := A2) (n' := glen (R)) (c' := c2) B3')
        have HA10 := Lib.hid ((HA8.out.store (u := sb true (Q)) (A' := A1) (n' := glen (Q)) (c' := c1) B2).store (u := false) (A' := A2) (n' := glen (R)) (c' := c2) B3')
        have HB11 := Lib.hid ((((hb10.setCell (p := ⟨w.heap.size + 1 + 1, 0, none⟩) (by simp; omega) (.bool (sb true (Q)))).setCell (p := ⟨w.heap.size + 1 + 1, 1, none⟩) (by simp; omega) (.slice A1 (glen (Q)) c1)).setCell (p := ⟨w.heap.size + 1 + 1 + 1, 0, none⟩) (by simp; omega) (.bool false)).setCell (p := ⟨w.heap.size + 1 + 1 + 1, 1, none⟩) (by simp; omega) (.slice A2 (glen (R)) c2))
        clear B2 B3 B3' B2' HA7 HA8 hb8 hb9 hb10 HC3 HB6 HB7 HA5 HA6 HC2
        go_wp2_with fail
        exact bodyPost_ret (v := .tuple #[.agg #[.bool (sb true (Q)), .slice A1 (glen (Q)) c1], .agg #[.bool false, .slice A2 (glen (R)) c2]]) (by simp [results, Try.results48, go_sem, z0, z1, z2, z3]) rfl ⟨_, _, _, _, _, _, _, rfl, (HD0.out (fun _ => HR0.out)).1, sb_pos, (HD0.out (fun _ => HR0.out)).2, HA9.out, HA10.out, HB11.out⟩
      · have hs1 := signed_any false A1 c1 (Q) w2 HA1.out
        have HC2 := Lib.hid hs1
        clear hs1
        go_wp2_with fail
        refine HC2.out.mono ?_
        rintro e w4 ⟨rfl, hb3⟩
        have hb6 := HB4.out.trans (hb3.mono (by have := HB4.out.size; have := HSZ.out; omega))
        have hb7 := HB5.out.trans (hb3.mono HB5.out.size)
        have HA5 := Lib.hid (HA1.out.below hb3); have HA6 := Lib.hid (HA2.out.below hb3)
        have hs2 := signed_any false A2 c2 (R) w4 HA6.out
        rw [sb_false] at hs2
        have HC3 := Lib.hid hs2; have HB6 := Lib.hid hb6; have HB7 := Lib.hid hb7
        clear hs2 hb3 hb6 hb7
        go_wp2_with fail
        refine HC3.out.mono ?_
        rintro e w5 ⟨rfl, hb8⟩
        have hb9 := HB6.out.trans (hb8.mono (by have := HB6.out.size; have := HSZ.out; omega))
        have hb10 := HB7.out.trans (hb8.mono HB7.out.size)
        have HA7 := Lib.hid (HA5.out.below hb8); have HA8 := Lib.hid (HA6.out.below hb8)
        obtain ⟨-, -, -, B2, B3⟩ := HK.out _ hb9
        have x0 := B2.cell (i := 0) rfl; have x1 := B2.cell (i := 1) rfl; have x2 := B2.frozen 0; have x3 := B2.frozen 1
        have B3' := B3.far_two (b := w.heap.size + 1 + 1) (by omega) (.bool (sb false (Q))) (.slice A1 (glen (Q)) c1)
        have y0 := B3'.cell (i := 0) rfl; have y1 := B3'.cell (i := 1) rfl; have y2 := B3'.frozen 0; have y3 := B3'.frozen 1
        have B2' := ((B2.set 0 (.bool (sb false (Q)))).set 1 (.slice A1 (glen (Q)) c1)).far_two (b := w.heap.size + 1 + 1 + 1) (by omega) (.bool false) (.slice A2 (glen (R)) c2)
        have z0 := B2'.cell (i := 0) rfl; have z1 := B2'.cell (i := 1) rfl
        obtain ⟨z2, z3⟩ := B3'.two (u := .bool false) (v := .slice A2 (glen (R)) c2)
        have HA9 := Lib.hid ((HA7.out.store (u := sb false (Q)) (A' := A1) (n' := glen (Q)) (c' := c1) B2).store (u := false) (A' := A2) (n' := glen (R)) (c' := c2) B3')
        have HA10 := Lib.hid ((HA8.out.store (u := sb false (Q)) (A' := A1) (n' := glen (Q)) (c' := c1) B2).store (u := false) (A' := A2) (n' := glen (R)) (c' := c2) B3')
        have HB11 := Lib.hid ((((hb10.setCell (p := ⟨w.heap.size + 1 + 1, 0, none⟩) (by simp; omega) (.bool (sb false (Q)))).setCell (p := ⟨w.heap.size + 1 + 1, 1, none⟩) (by simp; omega) (.slice A1 (glen (Q)) c1)).setCell (p := ⟨w.heap.size + 1 + 1 + 1, 0, none⟩) (by simp; omega) (.bool false)).setCell (p := ⟨w.heap.size + 1 + 1 + 1, 1, none⟩) (by simp; omega) (.slice A2 (glen (R)) c2))
        clear B2 B3 B3' B2' HA7 HA8 hb8 hb9 hb10 HC3 HB6 HB7 HA5 HA6 HC2
        go_wp2_with fail
        exact bodyPost_ret (v := .tuple #[.agg #[.bool (sb false (Q)), .slice A1 (glen (Q)) c1], .agg #[.bool false, .slice A2 (glen (R)) c2]]) (by simp [results, Try.results48, go_sem, z0, z1, z2, z3]) rfl ⟨_, _, _, _, _, _, _, rfl, (HD0.out (fun _ => HR0.out)).1, sb_pos, (HD0.out (fun _ => HR0.out)).2, HA9.out, HA10.out, HB11.out⟩
end Go.Proofs.Ytgpppjfgdbloiaa
