/- The contract of parseBoth. Condition: the strings' lengths are ints. -/
import Derived.Test.YtgpppjfgdbloiaaParse
namespace Go.Proofs.Ytgpppjfgdbloiaa
open Go.RowKit Go.Lib

/-- No numbers and an error have been returned. -/
def NoPB (w : World) (e : Ending) (w' : World) : Prop := e = .returned (.tuple #[.agg #[.bool false, .slice none 0 0], .agg #[.bool false, .slice none 0 0], .int .i64 30]) ∧ Below w.heap.size w w'
/-- Two numbers and no error have been returned. -/
def OutPB (x y : Int) (w : World) (e : Ending) (w' : World) : Prop :=
  ∃ s X A c t Y A' c', e = .returned (.tuple #[.agg #[.bool s, .slice A (glen X) c], .agg #[.bool t, .slice A' (glen Y) c'], .int .i64 0]) ∧ sg s X = x ∧ sg t Y = y ∧ (s = true → 0 < X) ∧ (t = true → 0 < Y) ∧ X < 10 ^ 200 ∧ Y < 10 ^ 200 ∧ Am w' A (glen X) c X ∧ Am w' A' (glen Y) c' Y ∧ Below w.heap.size w w'
/-- The two results' cells. -/
theorem two_new (w : World) (t : TypeId) (cs : Array Value) : Blk ((w.alloc (.cells cs t)).alloc (.cells cs t)) w.heap.size t cs ∧ Blk ((w.alloc (.cells cs t)).alloc (.cells cs t)) (w.heap.size + 1) t cs ∧ Below w.heap.size w ((w.alloc (.cells cs t)).alloc (.cells cs t)) ∧ ((w.alloc (.cells cs t)).alloc (.cells cs t)).heap.size = w.heap.size + 2 := by
  refine ⟨(Blk.new w t cs).alloc _, ?_, ((Below.refl _ _).alloc (Nat.le_refl _) _).alloc (by simp) _, by simp⟩
  have h := Blk.new (w.alloc (.cells cs t)) t cs
  rw [show (w.alloc (.cells cs t)).heap.size = w.heap.size + 1 from by simp] at h
  exact h

set_option maxRecDepth 100000 in
set_option maxHeartbeats 1000000 in
theorem pboth_no1 (a b : ByteArray) (w : World) (ha : a.size ≤ 9000000000000000000) (hr : rd a.data.toList = none) :
    Calls Try.prog 46 #[.string a, .string b] w (NoPB w) := by
  obtain ⟨b0, b1, hb, hsz⟩ := two_new w 53 #[.bool false, .slice none 0 0]
  have hp := fun w => parse_no a w ha hr
  have HP := Lib.hid hp; have HB0 := Lib.hid b0; have HB1 := Lib.hid b1; have HB := Lib.hid hb; have HSZ := Lib.hid hsz
  clear b0 b1 hb hsz hp hr
  go_enter Try.func46, Try.ntmps46
  go_wp2_with fail
  refine (HP.out _).mono ?_
  rintro e w1 ⟨rfl, hb1⟩
  have h0 := (HB0.out.below hb1 HB0.out.lt).alloc (.cells #[.bool false, .slice none 0 0] 53)
  have h1 := (HB1.out.below hb1 HB1.out.lt).alloc (.cells #[.bool false, .slice none 0 0] 53)
  have hbl := (HB.out.trans (hb1.mono HB.out.size)).alloc (by have := HB.out.size; have := hb1.size; omega) (.cells #[.bool false, .slice none 0 0] 53)
  have x0 := h0.cell (i := 0) rfl; have x1 := h0.cell (i := 1) rfl; have x2 := h0.frozen 0; have x3 := h0.frozen 1
  have h1' := h1.far_two (b := w.heap.size) (by omega) (.bool false) (.slice none 0 0)
  have y0 := h1'.cell (i := 0) rfl; have y1 := h1'.cell (i := 1) rfl; have y2 := h1'.frozen 0; have y3 := h1'.frozen 1
  have h0' := ((h0.set 0 (.bool false)).set 1 (.slice none 0 0)).far_two (b := w.heap.size + 1) (by omega) (.bool false) (.slice none 0 0)
  have z0 := h0'.cell (i := 0) rfl; have z1 := h0'.cell (i := 1) rfl
  obtain ⟨z2, z3⟩ := h1'.two (u := .bool false) (v := .slice none 0 0)
  have HBL := Lib.hid ((((hbl.setCell (p := ⟨w.heap.size, 0, none⟩) (Nat.le_refl _) (.bool false)).setCell (p := ⟨w.heap.size, 1, none⟩) (Nat.le_refl _) (.slice none 0 0)).setCell (p := ⟨w.heap.size + 1, 0, none⟩) (by simp) (.bool false)).setCell (p := ⟨w.heap.size + 1, 1, none⟩) (by simp) (.slice none 0 0))
  clear h0 h1 h0' h1' hbl hb1
  go_wp2_with fail
  exact bodyPost_ret (v := .tuple #[.agg #[.bool false, .slice none 0 0], .agg #[.bool false, .slice none 0 0], .int .i64 30]) (by simp [results, Try.results46, go_sem, z0, z1, z2, z3]) rfl ⟨rfl, HBL.out⟩

set_option maxRecDepth 100000 in
set_option maxHeartbeats 1000000 in
theorem pboth_no2 (a b : ByteArray) (w : World) (x : Int) (ha : a.size ≤ 9000000000000000000) (hb9 : b.size ≤ 9000000000000000000) (hx : rd a.data.toList = some x) (hr : rd b.data.toList = none) :
    Calls Try.prog 46 #[.string a, .string b] w (NoPB w) := by
  obtain ⟨b0, b1, hb, hsz⟩ := two_new w 53 #[.bool false, .slice none 0 0]
  have hp := fun w => parse_yes a w x ha hx
  have hq := fun w => parse_no b w hb9 hr
  have HP := Lib.hid hp; have HQ := Lib.hid hq; have HB0 := Lib.hid b0; have HB1 := Lib.hid b1; have HB := Lib.hid hb; have HSZ := Lib.hid hsz
  clear b0 b1 hb hsz hp hr hx hq
  go_enter Try.func46, Try.ntmps46
  go_wp2_with fail
  refine (HP.out _).mono ?_
  rintro e w1 ⟨s, X, A, c, rfl, -, -, -, -, hb1⟩
  have h0 := (HB0.out.below hb1 HB0.out.lt).alloc (.cells #[.bool s, .slice A (glen X) c] 53)
  have h1 := (HB1.out.below hb1 HB1.out.lt).alloc (.cells #[.bool s, .slice A (glen X) c] 53)
  have hbl := (HB.out.trans (hb1.mono HB.out.size)).alloc (by have := HB.out.size; have := hb1.size; omega) (.cells #[.bool s, .slice A (glen X) c] 53)
  have H0 := Lib.hid h0; have H1 := Lib.hid h1; have HBL0 := Lib.hid hbl
  clear h0 h1 hbl hb1
  go_wp2_with fail
  refine (HQ.out _).mono ?_
  rintro e w2 ⟨rfl, hb2⟩
  have h0 := (H0.out.below hb2 H0.out.lt).alloc (.cells #[.bool false, .slice none 0 0] 53)
  have h1 := (H1.out.below hb2 H1.out.lt).alloc (.cells #[.bool false, .slice none 0 0] 53)
  have hbl := (HBL0.out.trans (hb2.mono HBL0.out.size)).alloc (by have := HBL0.out.size; have := hb2.size; omega) (.cells #[.bool false, .slice none 0 0] 53)
  have x0 := h0.cell (i := 0) rfl; have x1 := h0.cell (i := 1) rfl; have x2 := h0.frozen 0; have x3 := h0.frozen 1
  have h1' := h1.far_two (b := w.heap.size) (by omega) (.bool false) (.slice none 0 0)
  have y0 := h1'.cell (i := 0) rfl; have y1 := h1'.cell (i := 1) rfl; have y2 := h1'.frozen 0; have y3 := h1'.frozen 1
  have h0' := ((h0.set 0 (.bool false)).set 1 (.slice none 0 0)).far_two (b := w.heap.size + 1) (by omega) (.bool false) (.slice none 0 0)
  have z0 := h0'.cell (i := 0) rfl; have z1 := h0'.cell (i := 1) rfl
  obtain ⟨z2, z3⟩ := h1'.two (u := .bool false) (v := .slice none 0 0)
  have HBL := Lib.hid ((((hbl.setCell (p := ⟨w.heap.size, 0, none⟩) (Nat.le_refl _) (.bool false)).setCell (p := ⟨w.heap.size, 1, none⟩) (Nat.le_refl _) (.slice none 0 0)).setCell (p := ⟨w.heap.size + 1, 0, none⟩) (by simp) (.bool false)).setCell (p := ⟨w.heap.size + 1, 1, none⟩) (by simp) (.slice none 0 0))
  clear h0 h1 h0' h1' hbl hb2
  go_wp2_with fail
  exact bodyPost_ret (v := .tuple #[.agg #[.bool false, .slice none 0 0], .agg #[.bool false, .slice none 0 0], .int .i64 30]) (by simp [results, Try.results46, go_sem, z0, z1, z2, z3]) rfl ⟨rfl, HBL.out⟩

set_option maxRecDepth 100000 in
set_option maxHeartbeats 1000000 in
theorem pboth_yes (a b : ByteArray) (w : World) (x y : Int) (ha : a.size ≤ 9000000000000000000) (hb9 : b.size ≤ 9000000000000000000) (hx : rd a.data.toList = some x) (hy : rd b.data.toList = some y) :
    Calls Try.prog 46 #[.string a, .string b] w (OutPB x y w) := by
  obtain ⟨b0, b1, hb, hsz⟩ := two_new w 53 #[.bool false, .slice none 0 0]
  have hp := fun w => parse_yes a w x ha hx
  have hq := fun w => parse_yes b w y hb9 hy
  have HP := Lib.hid hp; have HQ := Lib.hid hq; have HB0 := Lib.hid b0; have HB1 := Lib.hid b1; have HB := Lib.hid hb; have HSZ := Lib.hid hsz
  clear b0 b1 hb hsz hp hy hx hq
  go_enter Try.func46, Try.ntmps46
  go_wp2_with fail
  refine (HP.out _).mono ?_
  rintro e w1 ⟨s, X, A, c, rfl, hsx, hs0, hxl, hA, hb1⟩
  have h0 := (HB0.out.below hb1 HB0.out.lt).alloc (.cells #[.bool s, .slice A (glen X) c] 53)
  have h1 := (HB1.out.below hb1 HB1.out.lt).alloc (.cells #[.bool s, .slice A (glen X) c] 53)
  have h2 := Blk.new w1 53 #[.bool s, .slice A (glen X) c]
  have hbl := (HB.out.trans (hb1.mono HB.out.size)).alloc (by have := HB.out.size; have := hb1.size; omega) (.cells #[.bool s, .slice A (glen X) c] 53)
  have n1 : w.heap.size + 1 < w1.heap.size := by have := hb1.size; have := HSZ.out; omega
  have hA1 := hA.below ((Below.refl _ _).alloc (Nat.le_refl _) (.cells #[.bool s, .slice A (glen X) c] 53))
  have H0 := Lib.hid h0; have H1 := Lib.hid h1; have H2 := Lib.hid h2; have HBL0 := Lib.hid hbl; have HSX := Lib.hid hsx; have HS0 := Lib.hid hs0; have HXL := Lib.hid hxl; have HA1 := Lib.hid hA1
  clear h0 h1 h2 hbl hb1 hsx hs0 hxl hA hA1
  go_wp2_with fail
  refine (HQ.out _).mono ?_
  rintro e w2 ⟨t, Y, A', c', rfl, hty, ht0, hyl, hA', hb2⟩
  have h0 := (H0.out.below hb2 H0.out.lt).alloc (.cells #[.bool t, .slice A' (glen Y) c'] 53)
  have h1 := (H1.out.below hb2 H1.out.lt).alloc (.cells #[.bool t, .slice A' (glen Y) c'] 53)
  have h2 := (H2.out.below hb2 H2.out.lt).alloc (.cells #[.bool t, .slice A' (glen Y) c'] 53)
  have h3 := Blk.new w2 53 #[.bool t, .slice A' (glen Y) c']
  have hbl := (HBL0.out.trans (hb2.mono HBL0.out.size)).alloc (by have := HBL0.out.size; have := hb2.size; omega) (.cells #[.bool t, .slice A' (glen Y) c'] 53)
  have n2 : w1.heap.size < w2.heap.size := by have := hb2.size; simp at this; omega
  have hA2 := (HA1.out.below hb2).below ((Below.refl _ _).alloc (Nat.le_refl _) (.cells #[.bool t, .slice A' (glen Y) c'] 53))
  have hA3 := hA'.below ((Below.refl _ _).alloc (Nat.le_refl _) (.cells #[.bool t, .slice A' (glen Y) c'] 53))
  have HA4 := Lib.hid ((hA2.store (u := s) (A' := A) (n' := glen X) (c' := c) h0).store (u := t) (A' := A') (n' := glen Y) (c' := c') (h1.far_two (b := w.heap.size) (by omega) (.bool s) (.slice A (glen X) c)))
  have HA5 := Lib.hid ((hA3.store (u := s) (A' := A) (n' := glen X) (c' := c) h0).store (u := t) (A' := A') (n' := glen Y) (c' := c') (h1.far_two (b := w.heap.size) (by omega) (.bool s) (.slice A (glen X) c)))
  have x0 := h0.cell (i := 0) rfl; have x1 := h0.cell (i := 1) rfl; have x2 := h0.frozen 0; have x3 := h0.frozen 1
  have h1' := h1.far_two (b := w.heap.size) (by omega) (.bool s) (.slice A (glen X) c)
  have y0 := h1'.cell (i := 0) rfl; have y1 := h1'.cell (i := 1) rfl; have y2 := h1'.frozen 0; have y3 := h1'.frozen 1
  have h0' := ((h0.set 0 (.bool s)).set 1 (.slice A (glen X) c)).far_two (b := w.heap.size + 1) (by omega) (.bool t) (.slice A' (glen Y) c')
  have z0 := h0'.cell (i := 0) rfl; have z1 := h0'.cell (i := 1) rfl
  obtain ⟨z2, z3⟩ := h1'.two (u := .bool t) (v := .slice A' (glen Y) c')
  have u0 := h2.cell (i := 0) rfl; have u1 := h2.cell (i := 1) rfl
  have v0 := h3.cell (i := 0) rfl; have v1 := h3.cell (i := 1) rfl
  have HBL := Lib.hid ((((hbl.setCell (p := ⟨w.heap.size, 0, none⟩) (Nat.le_refl _) (.bool s)).setCell (p := ⟨w.heap.size, 1, none⟩) (Nat.le_refl _) (.slice A (glen X) c)).setCell (p := ⟨w.heap.size + 1, 0, none⟩) (by simp) (.bool t)).setCell (p := ⟨w.heap.size + 1, 1, none⟩) (by simp) (.slice A' (glen Y) c'))
  have HTY := Lib.hid hty; have HT0 := Lib.hid ht0; have HYL := Lib.hid hyl
  have H0B := Lib.hid h0; have H1B := Lib.hid h1; have H2B := Lib.hid h2; have H3B := Lib.hid h3
  clear h0 h1 h2 h3 h0' h1' hbl hb2 hA2 hA3 hA' hty ht0 hyl H0 H1 H2 HBL0 HA1
  go_wp2_with fail
  go_region
  all_goals
    go_wp2_with fail
    exact bodyPost_ret (v := .tuple #[.agg #[.bool s, .slice A (glen X) c], .agg #[.bool t, .slice A' (glen Y) c'], .int .i64 0]) (by simp [results, Try.results46, go_sem, z0, z1, z2, z3]) rfl ⟨s, X, A, c, t, Y, A', c', rfl, HSX.out, HTY.out, HS0.out, HT0.out, HXL.out, HYL.out, HA4.out.drew, HA5.out.drew, HBL.out.drew⟩
end Go.Proofs.Ytgpppjfgdbloiaa
