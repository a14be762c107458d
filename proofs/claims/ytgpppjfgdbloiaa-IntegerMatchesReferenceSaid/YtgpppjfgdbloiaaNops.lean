/- The contracts of plus, minus, times, divided and gcd of numbers with a sign. Conditions: the amounts read, and have at most 500 groups. -/
import Derived.Test.YtgpppjfgdbloiaaSgn
namespace Go.Proofs.Ytgpppjfgdbloiaa
open Go.RowKit Go.Lib

/-- The world of a method of numbers, after its head. -/
def numW (w : World) (s t : Bool) (A A' : Option Addr) (n c n' c' : Nat) : World :=
  (((w.alloc (.cells #[.bool s, .slice A n c] 53)).alloc (.cells #[.bool t, .slice A' n' c'] 53)).alloc (.cells #[.bool false, .slice none 0 0] 53))
theorem numW_spec (w : World) (s t : Bool) (A A' : Option Addr) (n c n' c' : Nat) :
    Below w.heap.size w (numW w s t A A' n c n' c') ∧ (numW w s t A A' n c n' c').heap.size = w.heap.size + 3 ∧
    ∀ W', Below (w.heap.size + 3) (numW w s t A A' n c n' c').drew W' → W'.cell? ⟨w.heap.size, 0, none⟩ = some (.bool s) ∧ W'.cell? ⟨w.heap.size, 1, none⟩ = some (.slice A n c) ∧ W'.cell? ⟨w.heap.size + 1, 0, none⟩ = some (.bool t) ∧ W'.cell? ⟨w.heap.size + 1, 1, none⟩ = some (.slice A' n' c') ∧
      W'.cell? ⟨w.heap.size + 1 + 1, 0, none⟩ = some (.bool false) ∧ W'.cell? ⟨w.heap.size + 1 + 1, 1, none⟩ = some (.slice none 0 0) ∧ Blk W' (w.heap.size + 1 + 1) 53 #[.bool false, .slice none 0 0] := by
  unfold numW
  refine ⟨(((Below.refl _ _).alloc (Nat.le_refl _) _).alloc (by simp) _).alloc (by simp; omega) _, by simp, fun W' hW => ?_⟩
  obtain ⟨W, hW0⟩ : ∃ W, W = (((w.alloc (.cells #[.bool s, .slice A n c] 53)).alloc (.cells #[.bool t, .slice A' n' c'] 53)).alloc (.cells #[.bool false, .slice none 0 0] 53)) := ⟨_, rfl⟩
  rw [← hW0] at hW
  have h1 : ∀ i, W'.cell? ⟨w.heap.size, i, none⟩ = W.cell? ⟨w.heap.size, i, none⟩ := fun i => hW.cell (p := ⟨w.heap.size, i, none⟩) (by simp)
  have h2 : ∀ i, W'.cell? ⟨w.heap.size + 1, i, none⟩ = W.cell? ⟨w.heap.size + 1, i, none⟩ := fun i => hW.cell (p := ⟨w.heap.size + 1, i, none⟩) (by simp)
  have h5 : Blk W (w.heap.size + 1 + 1) 53 #[.bool false, .slice none 0 0] := by
    rw [hW0, show w.heap.size + 1 + 1 = ((w.alloc (.cells #[.bool s, .slice A n c] 53)).alloc (.cells #[.bool t, .slice A' n' c'] 53)).heap.size from by simp]
    exact Blk.new _ _ _
  have h6 := Blk.below (B := w.heap.size + 3) (w' := W') h5.drew hW (by omega)
  rw [h1, h1, h2, h2, hW0]
  refine ⟨?_, ?_, ?_, ?_, h6.cell rfl, h6.cell rfl, h6⟩
  · rw [World.cell?_alloc_past _ _ _ (by simp; omega), World.cell?_alloc_past _ _ _ (by simp), World.cell?_alloc_at _ _ _ _ rfl]; rfl
  · rw [World.cell?_alloc_past _ _ _ (by simp; omega), World.cell?_alloc_past _ _ _ (by simp), World.cell?_alloc_at _ _ _ _ rfl]; rfl
  · rw [World.cell?_alloc_past _ _ _ (by simp), World.cell?_alloc_at _ _ _ _ (by simp)]; rfl
  · rw [World.cell?_alloc_past _ _ _ (by simp), World.cell?_alloc_at _ _ _ _ (by simp)]; rfl
/-- An amount lies apart from a number that is stored. -/
theorem Am.store {w : World} {A A' : Option Addr} {n c V g n' c' : Nat} {t : TypeId} {u : Bool} (h : Am w A n c V) (hB : Blk w g t #[.bool false, .slice none 0 0]) :
    Am ((w.setCell ⟨g, 0, none⟩ (.bool u)).setCell ⟨g, 1, none⟩ (.slice A' n' c')) A n c V := by
  refine ⟨h.1, fun hn => ?_⟩
  obtain ⟨b, o, rfl, hl, hc⟩ := h.2 hn
  have hne : b ≠ g := by
    rintro rfl
    have h1 := hc 0 hn
    have hB2 := hB
    unfold Blk at hB2
    rcases o with _ | _ | o
    · rw [hB.cell (i := 0) rfl] at h1; cases h1
    · rw [hB.cell (i := 1) rfl] at h1; cases h1
    · simp [World.cell?, hB2] at h1
  exact ⟨b, o, rfl, by simpa [World.setCell] using hl, fun i hi => (World.cell?_of_block (w := w.setCell ⟨g, 0, none⟩ (.bool u)) (a := ⟨b, o + i, none⟩) (Below.heap_setCell _ ⟨g, 1, none⟩ _ b hne)).trans ((World.cell?_of_block (w := w) (a := ⟨b, o + i, none⟩) (Below.heap_setCell _ ⟨g, 0, none⟩ _ b hne)).trans (hc i hi))⟩
/-- A number that has been stored. -/
theorem Blk.two {w : World} {g : Nat} {t : TypeId} {x y u v : Value} (h : Blk w g t #[x, y]) : ((w.setCell ⟨g, 0, none⟩ u).setCell ⟨g, 1, none⟩ v).cell? ⟨g, 0, none⟩ = some u ∧ ((w.setCell ⟨g, 0, none⟩ u).setCell ⟨g, 1, none⟩ v).cell? ⟨g, 1, none⟩ = some v := by
  have h2 := (h.set 0 u).set 1 v
  exact ⟨h2.cell rfl, h2.cell rfl⟩
theorem below_undrew {B k : Nat} {w w' : World} (h : Below B (w.drewN k) w') : Below B w.drew w' := ⟨h.os, h.tape, h.output, h.size, h.block⟩
theorem below_undrew0 {B : Nat} {w w' : World} (h : Below B w.drew w') : Below B w.drew w' := h
theorem far_two (w : World) {b b' : Nat} (h : b' ≠ b) (j : Nat) (u v : Value) : ((w.setCell ⟨b, 0, none⟩ u).setCell ⟨b, 1, none⟩ v).cell? ⟨b', j, none⟩ = w.cell? ⟨b', j, none⟩ :=
  (World.cell?_of_block (w := w.setCell ⟨b, 0, none⟩ u) (a := ⟨b', j, none⟩) (Below.heap_setCell _ ⟨b, 1, none⟩ v b' h)).trans (World.cell?_of_block (w := w) (a := ⟨b', j, none⟩) (Below.heap_setCell _ ⟨b, 0, none⟩ u b' h))

set_option maxRecDepth 100000 in
set_option maxHeartbeats 1000000 in
theorem nplus_same (s : Bool) (A A' : Option Addr) (c c' X Y : Nat) (w : World) (hA : Am w A (glen X) c X) (hB : Am w A' (glen Y) c' Y) (hX : glen X ≤ 500) (hY : glen Y ≤ 500) :
    Calls Try.prog 39 #[.agg #[.bool s, .slice A (glen X) c], .agg #[.bool s, .slice A' (glen Y) c']] w (OutS (sb s (X + Y)) (X + Y) w) := by
  obtain ⟨hb, hsz, hcl⟩ := numW_spec w s s A A' (glen X) c (glen Y) c'
  have hb' := hb
  unfold numW at hb' hsz hcl
  have hc1 := aplus_any A A' c c' X Y _ (hA.below hb'.drew) (hB.below hb'.drew) (by omega) (by omega)
  have HC1 := Lib.hid hc1
  clear hc1
  have HB := Lib.hid hb'.drew; have HK := Lib.hid hcl; have HSZ := Lib.hid hsz
  clear hb hb' hcl hA hB hsz
  have heq : (s == s) = true := by simp
  go_enter Try.func39, Try.ntmps39
  go_wp2_with fail
  go_region_held3 (fun w' => w'.cell? ⟨w.heap.size, 0, none⟩ = some (.bool s) ∧ w'.cell? ⟨w.heap.size, 1, none⟩ = some (.slice A (glen X) c) ∧ w'.cell? ⟨w.heap.size + 1, 1, none⟩ = some (.slice A' (glen Y) c'))
    (first | exact ⟨(far_two _ (by omega) _ _ _).trans (HK.out _ (below_undrew0 hb6)).1, (far_two _ (by omega) _ _ _).trans (HK.out _ (below_undrew0 hb6)).2.1, (far_two _ (by omega) _ _ _).trans (HK.out _ (below_undrew0 hb6)).2.2.2.1⟩ | exact ⟨(HK.out _ (below_undrew0 hb6)).1, (HK.out _ (below_undrew0 hb6)).2.1, (HK.out _ (below_undrew0 hb6)).2.2.2.1⟩ | exact ⟨(HK.out _ (below_undrew0 hb4)).1, (HK.out _ (below_undrew0 hb4)).2.1, (HK.out _ (below_undrew0 hb4)).2.2.2.1⟩ | go_keep)
    (first
      | (go_at_call 65; (with_reducible refine HC1.out.mono ?_); rintro e w2 ⟨A2, c2, rfl, hA2, hb2⟩; have hsg := signed_any (s) A2 c2 (X + Y) w2 hA2; have hb4 := (hb2.mono (Nat.le_of_eq HSZ.out.symm)); have hb5 := HB.out.trans (hb2.mono HB.out.size); have HA2 := Lib.hid hA2; clear hA2 hb2; have HC2 := Lib.hid hsg; clear hsg)
      | (go_at_call 64; (with_reducible refine HC2.out.mono ?_); rintro e w3 ⟨rfl, hb3⟩; have hb6 := hb4.trans (hb3.mono (Nat.le_trans (Nat.le_of_eq HSZ.out.symm) hb4.size)); have hb7 := hb5.trans (hb3.mono hb5.size); have HA3 := Lib.hid (HA2.out.below hb3); clear hb3; obtain ⟨-, -, -, -, k0, k1, kb⟩ := HK.out _ (below_undrew0 hb6); have k2 := kb.frozen 0; have k3 := kb.frozen 1))
  rename_i hh
  have HA4 := Lib.hid (HA3.out.store (u := sb (s) (X + Y)) (A' := A2) (n' := glen (X + Y)) (c' := c2) kb)
  have hb9 := Lib.hid ((hb7.setCell (p := ⟨w.heap.size + 1 + 1, 0, none⟩) (by simp; omega) (.bool (sb (s) (X + Y)))).setCell (p := ⟨w.heap.size + 1 + 1, 1, none⟩) (by simp; omega) (.slice A2 (glen (X + Y)) c2))
  obtain ⟨r0, r1⟩ := kb.two (u := .bool (sb (s) (X + Y))) (v := .slice A2 (glen (X + Y)) c2)
  clear hh k0 k1 k2 k3 kb HA3 hb7 hb6 hb5 hb4 HA2 HC2
  go_wp2_with fail
  exact bodyPost_ret (v := .agg #[.bool (sb (s) (X + Y)), .slice A2 (glen (X + Y)) c2]) (by simp [results, Try.results39, go_sem, r0, r1]) rfl ⟨A2, c2, rfl, HA4.out, hb9.out⟩

set_option maxRecDepth 100000 in
set_option maxHeartbeats 1000000 in
theorem nplus_less (s t : Bool) (hst : (s == t) = false) (A A' : Option Addr) (c c' X Y : Nat) (w : World) (hA : Am w A (glen X) c X) (hB : Am w A' (glen Y) c' Y) (hX : glen X ≤ 500) (hY : glen Y ≤ 500) (hle : X < Y) :
    Calls Try.prog 39 #[.agg #[.bool s, .slice A (glen X) c], .agg #[.bool t, .slice A' (glen Y) c']] w (OutS (sb t (Y - X)) (Y - X) w) := by
  obtain ⟨hb, hsz, hcl⟩ := numW_spec w s t A A' (glen X) c (glen Y) c'
  have hb' := hb
  unfold numW at hb' hsz hcl
  have hcm := acomp_any A A' c c' X Y _ (hA.below hb') (hB.below hb') (by omega) (by omega)
  have hc1 := fun k => by
    have hb'' := below_drewN hb' (k + 1)
    exact aminus_any A' A c' c Y X _ (hB.below hb'') (hA.below hb'') (by omega) (by omega)
  rw [ordI_lt (show (X : Int) < Y by omega)] at hcm
  have HCM := Lib.hid hcm
  have HC0 := Lib.hid hc1; have HB0 := Lib.hid hb'
  clear hcm hc1
  have HB := Lib.hid hb'.drew; have HK := Lib.hid hcl; have HSZ := Lib.hid hsz
  clear hb hb' hcl hA hB hsz
  go_enter Try.func39, Try.ntmps39
  go_wp2_with fail
  refine HCM.out.mono ?_
  rintro e w1 ⟨rfl, k, rfl⟩
  have HC1 := Lib.hid (HC0.out k)
  have HB := Lib.hid (below_drewN HB0.out (k + 1))
  go_wp2_with fail
  go_region_held3 (fun w' => w'.cell? ⟨w.heap.size + 1, 0, none⟩ = some (.bool t) ∧ w'.cell? ⟨w.heap.size + 1, 1, none⟩ = some (.slice A' (glen Y) c') ∧ w'.cell? ⟨w.heap.size, 1, none⟩ = some (.slice A (glen X) c))
    (first | exact ⟨(far_two _ (by omega) _ _ _).trans (HK.out _ (below_undrew hb6)).2.2.1, (far_two _ (by omega) _ _ _).trans (HK.out _ (below_undrew hb6)).2.2.2.1, (far_two _ (by omega) _ _ _).trans (HK.out _ (below_undrew hb6)).2.1⟩ | exact ⟨(HK.out _ (below_undrew hb6)).2.2.1, (HK.out _ (below_undrew hb6)).2.2.2.1, (HK.out _ (below_undrew hb6)).2.1⟩ | exact ⟨(HK.out _ (below_undrew hb4)).2.2.1, (HK.out _ (below_undrew hb4)).2.2.2.1, (HK.out _ (below_undrew hb4)).2.1⟩ | go_keep)
    (first
      | (go_at_call 67; (with_reducible refine HC1.out.mono ?_); rintro e w2 ⟨A2, c2, rfl, hA2, hb2⟩; have hsg := signed_any (t) A2 c2 (Y - X) w2 hA2; have hb4 := (hb2.mono (Nat.le_of_eq HSZ.out.symm)); have hb5 := HB.out.trans (hb2.mono HB.out.size); have HA2 := Lib.hid hA2; clear hA2 hb2; have HC2 := Lib.hid hsg; clear hsg)
      | (go_at_call 64; (with_reducible refine HC2.out.mono ?_); rintro e w3 ⟨rfl, hb3⟩; have hb6 := hb4.trans (hb3.mono (Nat.le_trans (Nat.le_of_eq HSZ.out.symm) hb4.size)); have hb7 := hb5.trans (hb3.mono hb5.size); have HA3 := Lib.hid (HA2.out.below hb3); clear hb3; obtain ⟨-, -, -, -, k0, k1, kb⟩ := HK.out _ (below_undrew hb6); have k2 := kb.frozen 0; have k3 := kb.frozen 1))
  rename_i hh
  have HA4 := Lib.hid (HA3.out.store (u := sb (t) (Y - X)) (A' := A2) (n' := glen (Y - X)) (c' := c2) kb)
  have hb9 := Lib.hid ((hb7.setCell (p := ⟨w.heap.size + 1 + 1, 0, none⟩) (by simp; omega) (.bool (sb (t) (Y - X)))).setCell (p := ⟨w.heap.size + 1 + 1, 1, none⟩) (by simp; omega) (.slice A2 (glen (Y - X)) c2))
  obtain ⟨r0, r1⟩ := kb.two (u := .bool (sb (t) (Y - X))) (v := .slice A2 (glen (Y - X)) c2)
  clear hh k0 k1 k2 k3 kb HA3 hb7 hb6 hb5 hb4 HA2 HC2
  go_wp2_with fail
  exact bodyPost_ret (v := .agg #[.bool (sb (t) (Y - X)), .slice A2 (glen (Y - X)) c2]) (by simp [results, Try.results39, go_sem, r0, r1]) rfl ⟨A2, c2, rfl, HA4.out, hb9.out⟩

set_option maxRecDepth 100000 in
set_option maxHeartbeats 1000000 in
theorem nplus_more (s t : Bool) (hst : (s == t) = false) (A A' : Option Addr) (c c' X Y : Nat) (w : World) (hA : Am w A (glen X) c X) (hB : Am w A' (glen Y) c' Y) (hX : glen X ≤ 500) (hY : glen Y ≤ 500) (hle : Y ≤ X) :
    Calls Try.prog 39 #[.agg #[.bool s, .slice A (glen X) c], .agg #[.bool t, .slice A' (glen Y) c']] w (OutS (sb s (X - Y)) (X - Y) w) := by
  obtain ⟨hb, hsz, hcl⟩ := numW_spec w s t A A' (glen X) c (glen Y) c'
  have hb' := hb
  unfold numW at hb' hsz hcl
  have hcm := acomp_any A A' c c' X Y _ (hA.below hb') (hB.below hb') (by omega) (by omega)
  have hc1 := fun k => by
    have hb'' := below_drewN hb' (k + 1)
    exact aminus_any A A' c c' X Y _ (hA.below hb'') (hB.below hb'') (by omega) (by omega)
  have hge : 0 ≤ ordI (X : Int) (Y : Int) := by unfold ordI; rw [if_neg (by omega)]; split <;> omega
  have HCM := Lib.hid hcm
  have HC0 := Lib.hid hc1; have HB0 := Lib.hid hb'
  clear hcm hc1
  have HB := Lib.hid hb'.drew; have HK := Lib.hid hcl; have HSZ := Lib.hid hsz
  clear hb hb' hcl hA hB hsz
  go_enter Try.func39, Try.ntmps39
  go_wp2_with fail
  refine HCM.out.mono ?_
  rintro e w1 ⟨rfl, k, rfl⟩
  have HC1 := Lib.hid (HC0.out k)
  have HB := Lib.hid (below_drewN HB0.out (k + 1))
  go_wp2_with fail
  go_region_held3 (fun w' => w'.cell? ⟨w.heap.size, 0, none⟩ = some (.bool s) ∧ w'.cell? ⟨w.heap.size, 1, none⟩ = some (.slice A (glen X) c) ∧ w'.cell? ⟨w.heap.size + 1, 1, none⟩ = some (.slice A' (glen Y) c'))
    (first | exact ⟨(far_two _ (by omega) _ _ _).trans (HK.out _ (below_undrew hb6)).1, (far_two _ (by omega) _ _ _).trans (HK.out _ (below_undrew hb6)).2.1, (far_two _ (by omega) _ _ _).trans (HK.out _ (below_undrew hb6)).2.2.2.1⟩ | exact ⟨(HK.out _ (below_undrew hb6)).1, (HK.out _ (below_undrew hb6)).2.1, (HK.out _ (below_undrew hb6)).2.2.2.1⟩ | exact ⟨(HK.out _ (below_undrew hb4)).1, (HK.out _ (below_undrew hb4)).2.1, (HK.out _ (below_undrew hb4)).2.2.2.1⟩ | go_keep)
    (first
      | (go_at_call 67; (with_reducible refine HC1.out.mono ?_); rintro e w2 ⟨A2, c2, rfl, hA2, hb2⟩; have hsg := signed_any (s) A2 c2 (X - Y) w2 hA2; have hb4 := (hb2.mono (Nat.le_of_eq HSZ.out.symm)); have hb5 := HB.out.trans (hb2.mono HB.out.size); have HA2 := Lib.hid hA2; clear hA2 hb2; have HC2 := Lib.hid hsg; clear hsg)
      | (go_at_call 64; (with_reducible refine HC2.out.mono ?_); rintro e w3 ⟨rfl, hb3⟩; have hb6 := hb4.trans (hb3.mono (Nat.le_trans (Nat.le_of_eq HSZ.out.symm) hb4.size)); have hb7 := hb5.trans (hb3.mono hb5.size); have HA3 := Lib.hid (HA2.out.below hb3); clear hb3; obtain ⟨-, -, -, -, k0, k1, kb⟩ := HK.out _ (below_undrew hb6); have k2 := kb.frozen 0; have k3 := kb.frozen 1))
  rename_i hh
  have HA4 := Lib.hid (HA3.out.store (u := sb (s) (X - Y)) (A' := A2) (n' := glen (X - Y)) (c' := c2) kb)
  have hb9 := Lib.hid ((hb7.setCell (p := ⟨w.heap.size + 1 + 1, 0, none⟩) (by simp; omega) (.bool (sb (s) (X - Y)))).setCell (p := ⟨w.heap.size + 1 + 1, 1, none⟩) (by simp; omega) (.slice A2 (glen (X - Y)) c2))
  obtain ⟨r0, r1⟩ := kb.two (u := .bool (sb (s) (X - Y))) (v := .slice A2 (glen (X - Y)) c2)
  clear hh k0 k1 k2 k3 kb HA3 hb7 hb6 hb5 hb4 HA2 HC2
  go_wp2_with fail
  exact bodyPost_ret (v := .agg #[.bool (sb (s) (X - Y)), .slice A2 (glen (X - Y)) c2]) (by simp [results, Try.results39, go_sem, r0, r1]) rfl ⟨A2, c2, rfl, HA4.out, hb9.out⟩

set_option maxRecDepth 100000 in
set_option maxHeartbeats 1000000 in
theorem ntimes_any (s t u : Bool) (hu : (!(s == t)) = u) (A A' : Option Addr) (c c' X Y : Nat) (w : World) (hA : Am w A (glen X) c X) (hB : Am w A' (glen Y) c' Y) (hX : glen X ≤ 500) (hY : glen Y ≤ 500) :
    Calls Try.prog 43 #[.agg #[.bool s, .slice A (glen X) c], .agg #[.bool t, .slice A' (glen Y) c']] w (OutS (sb u (X * Y)) (X * Y) w) := by
  obtain ⟨hb, hsz, hcl⟩ := numW_spec w s t A A' (glen X) c (glen Y) c'
  have hb' := hb
  unfold numW at hb' hsz hcl
  have hc1 := atimes_any A A' c c' X Y _ (hA.below hb'.drew) (hB.below hb'.drew) (by omega) (by omega)
  have HC1 := Lib.hid hc1
  clear hc1
  have HB := Lib.hid hb'.drew; have HK := Lib.hid hcl; have HSZ := Lib.hid hsz
  clear hb hb' hcl hA hB hsz
  go_enter Try.func43, Try.ntmps43
  go_wp2_with fail
  go_region_held3 (fun w' => w'.cell? ⟨w.heap.size, 0, none⟩ = some (.bool s) ∧ w'.cell? ⟨w.heap.size, 1, none⟩ = some (.slice A (glen X) c) ∧ w'.cell? ⟨w.heap.size + 1, 0, none⟩ = some (.bool t) ∧ w'.cell? ⟨w.heap.size + 1, 1, none⟩ = some (.slice A' (glen Y) c'))
    (first | exact ⟨(far_two _ (by omega) _ _ _).trans (HK.out _ (below_undrew0 hb6)).1, (far_two _ (by omega) _ _ _).trans (HK.out _ (below_undrew0 hb6)).2.1, (far_two _ (by omega) _ _ _).trans (HK.out _ (below_undrew0 hb6)).2.2.1, (far_two _ (by omega) _ _ _).trans (HK.out _ (below_undrew0 hb6)).2.2.2.1⟩ | exact ⟨(HK.out _ (below_undrew0 hb6)).1, (HK.out _ (below_undrew0 hb6)).2.1, (HK.out _ (below_undrew0 hb6)).2.2.1, (HK.out _ (below_undrew0 hb6)).2.2.2.1⟩ | exact ⟨(HK.out _ (below_undrew0 hb4)).1, (HK.out _ (below_undrew0 hb4)).2.1, (HK.out _ (below_undrew0 hb4)).2.2.1, (HK.out _ (below_undrew0 hb4)).2.2.2.1⟩ | go_keep)
    (first
      | (go_at_call 68; (with_reducible refine HC1.out.mono ?_); rintro e w2 ⟨A2, c2, rfl, hA2, hb2⟩; have hsg := signed_any (u) A2 c2 (X * Y) w2 hA2; have hb4 := (hb2.mono (Nat.le_of_eq HSZ.out.symm)); have hb5 := HB.out.trans (hb2.mono HB.out.size); have HA2 := Lib.hid hA2; clear hA2 hb2; have HC2 := Lib.hid hsg; clear hsg)
      | (go_at_call 64; (with_reducible refine HC2.out.mono ?_); rintro e w3 ⟨rfl, hb3⟩; have hb6 := hb4.trans (hb3.mono (Nat.le_trans (Nat.le_of_eq HSZ.out.symm) hb4.size)); have hb7 := hb5.trans (hb3.mono hb5.size); have HA3 := Lib.hid (HA2.out.below hb3); clear hb3; obtain ⟨-, -, -, -, k0, k1, kb⟩ := HK.out _ (below_undrew0 hb6); have k2 := kb.frozen 0; have k3 := kb.frozen 1))
  rename_i hh
  have HA4 := Lib.hid (HA3.out.store (u := sb (u) (X * Y)) (A' := A2) (n' := glen (X * Y)) (c' := c2) kb)
  have hb9 := Lib.hid ((hb7.setCell (p := ⟨w.heap.size + 1 + 1, 0, none⟩) (by simp; omega) (.bool (sb (u) (X * Y)))).setCell (p := ⟨w.heap.size + 1 + 1, 1, none⟩) (by simp; omega) (.slice A2 (glen (X * Y)) c2))
  obtain ⟨r0, r1⟩ := kb.two (u := .bool (sb (u) (X * Y))) (v := .slice A2 (glen (X * Y)) c2)
  clear hh k0 k1 k2 k3 kb HA3 hb7 hb6 hb5 hb4 HA2 HC2
  go_wp2_with fail
  exact bodyPost_ret (v := .agg #[.bool (sb (u) (X * Y)), .slice A2 (glen (X * Y)) c2]) (by simp [results, Try.results43, go_sem, r0, r1]) rfl ⟨A2, c2, rfl, HA4.out, hb9.out⟩
end Go.Proofs.Ytgpppjfgdbloiaa
