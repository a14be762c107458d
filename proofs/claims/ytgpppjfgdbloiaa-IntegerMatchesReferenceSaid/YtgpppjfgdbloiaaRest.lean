/- The contracts of Compare, Div, Root and ToInt. Condition: the strings' lengths are ints. -/
import Derived.Test.YtgpppjfgdbloiaaOps
namespace Go.Proofs.Ytgpppjfgdbloiaa
open Go.RowKit Go.Lib

/-- What Compare answers. -/
def cmpR (a b : List UInt8) : Int := match rd a, rd b with
  | some x, some y => ordI x y
  | _, _ => 0
theorem cmpR_no1 {a b : List UInt8} (h : rd a = none) : cmpR a b = 0 := by unfold cmpR; rw [h]
theorem cmpR_no2 {a b : List UInt8} (h : rd b = none) : cmpR a b = 0 := by unfold cmpR; rw [h]; cases rd a <;> rfl
theorem cmpR_yes {a b : List UInt8} {x y : Int} (h : rd a = some x) (h2 : rd b = some y) : cmpR a b = ordI x y := by unfold cmpR; rw [h, h2]
/-- The two numbers of a caller of parseBoth. -/
theorem two_boxes (w1 : World) (s t : Bool) (A A' : Option Addr) (n c n' c' : Nat) (W : World) (hW : W = ((w1.alloc (.cells #[.bool s, .slice A n c] 53)).alloc (.cells #[.bool t, .slice A' n' c'] 53))) :
    Blk W w1.heap.size 53 #[.bool s, .slice A n c] ∧ Blk W (w1.heap.size + 1) 53 #[.bool t, .slice A' n' c'] ∧ Below w1.heap.size w1 W ∧ W.heap.size = w1.heap.size + 2 := by
  subst hW
  have hn2 := Blk.new (w1.alloc (.cells #[.bool s, .slice A n c] 53)) 53 #[.bool t, .slice A' n' c']
  rw [show (w1.alloc (.cells #[.bool s, .slice A n c] 53)).heap.size = w1.heap.size + 1 from by simp] at hn2
  exact ⟨(Blk.new w1 _ _).alloc _, hn2, ((Below.refl _ _).alloc (Nat.le_refl _) _).alloc (by simp) _, by simp⟩

set_option maxRecDepth 100000 in
set_option maxHeartbeats 1000000 in
theorem compare_any (a b : ByteArray) (w : World) (ha : a.size ≤ 9000000000000000000) (hb : b.size ≤ 9000000000000000000) :
    Calls Try.prog 31 #[.string a, .string b] w fun e w' => e = .returned (.int .i64 (cmpR a.data.toList b.data.toList)) ∧ Below w.heap.size w w' := by
  cases hx : rd a.data.toList with
  | none =>
    rw [cmpR_no1 hx]
    have HC := Lib.hid (pboth_no1 a b w ha hx)
    clear hx
    go_enter Try.func31, Try.ntmps31
    go_wp2_with fail
    refine HC.out.mono ?_
    rintro e w1 ⟨rfl, hb1⟩
    go_wp2_with fail
    go_ret
    exact ⟨rfl, (hb1.alloc hb1.size _).alloc (by have := hb1.size; simp; omega) _⟩
  | some x =>
    cases hy : rd b.data.toList with
    | none =>
      rw [cmpR_no2 hy]
      have HC := Lib.hid (pboth_no2 a b w x ha hb hx hy)
      clear hx hy
      go_enter Try.func31, Try.ntmps31
      go_wp2_with fail
      refine HC.out.mono ?_
      rintro e w1 ⟨rfl, hb1⟩
      go_wp2_with fail
      go_ret
      exact ⟨rfl, (hb1.alloc hb1.size _).alloc (by have := hb1.size; simp; omega) _⟩
    | some y =>
      rw [cmpR_yes hx hy]
      have HC := Lib.hid (pboth_yes a b w x y ha hb hx hy)
      clear hx hy
      go_enter Try.func31, Try.ntmps31
      go_wp2_with fail
      refine HC.out.mono ?_
      rintro e w1 ⟨s, X, A, c, t, Y, A', c', rfl, hs, ht, hs0, ht0, hX, hY, hA, hB, hb1⟩
      obtain ⟨hn1, hn2, hb2, -⟩ := two_boxes w1 s t A A' (glen X) c (glen Y) c' _ rfl
      have x0 := hn1.cell (i := 0) rfl; have x1 := hn1.cell (i := 1) rfl
      have y0 := hn2.cell (i := 0) rfl; have y1 := hn2.cell (i := 1) rfl
      have hop := ncomp_any s t A A' c c' X Y _ (hA.below hb2) (hB.below hb2) (Nat.le_trans (glen_lim hX) (by omega)) (Nat.le_trans (glen_lim hY) (by omega)) hs0 ht0
      rw [hs, ht] at hop
      have HOP := Lib.hid hop
      have HB2 := Lib.hid (hb1.trans (hb2.mono hb1.size))
      clear hn1 hn2 hb2 hop hb1 hA hB hX hY hs ht hs0 ht0
      go_wp2_with fail
      refine HOP.out.mono ?_
      rintro e w3 ⟨rfl, hb3⟩
      go_wp2_with fail
      go_ret
      exact ⟨rfl, HB2.out.trans (hb3.mono HB2.out.size)⟩

/-- What Root answers. -/
def rootR (a : List UInt8) (r : Option Int) : Prop := match rd a with
  | none => r = none
  | some x => if x < 0 then r = none else ∃ m : Nat, IsRoot x.natAbs m ∧ r = some (m : Int)
def OutRoot (a : List UInt8) (w : World) (e : Ending) (w' : World) : Prop := ∃ r, rootR a r ∧ e = .returned (.tuple #[.string (okS r), .int .i64 (okE r)]) ∧ Below w.heap.size w w'
set_option maxRecDepth 100000 in
set_option maxHeartbeats 1000000 in
theorem root_any (a : ByteArray) (w : World) (ha : a.size ≤ 9000000000000000000) : Calls Try.prog 25 #[.string a] w (OutRoot a.data.toList w) := by
  cases hx : rd a.data.toList with
  | none =>
    have HC := Lib.hid (parse_no a w ha hx)
    have HR : Hid (rootR a.data.toList none) := by show rootR _ _; unfold rootR; rw [hx]
    clear hx
    go_enter Try.func25, Try.ntmps25
    go_wp2_with fail
    refine HC.out.mono ?_
    rintro e w1 ⟨rfl, hb1⟩
    go_wp2_with fail
    go_ret2
    exact ⟨none, HR.out, rfl, hb1.alloc hb1.size _⟩
  | some x =>
    have HC := Lib.hid (parse_yes a w x ha hx)
    have HX := Lib.hid hx
    clear hx
    go_enter Try.func25, Try.ntmps25
    go_wp2_with fail
    refine HC.out.mono ?_
    rintro e w1 ⟨s, X, A, c, rfl, hs, hs0, hX, hA, hb1⟩
    have hn1 := Blk.new w1 53 #[.bool s, .slice A (glen X) c]
    have x0 := hn1.cell (i := 0) rfl; have x1 := hn1.cell (i := 1) rfl
    have hb2 : Below w1.heap.size w1 (w1.alloc (.cells #[.bool s, .slice A (glen X) c] 53)) := (Below.refl _ _).alloc (Nat.le_refl _) _
    have hrt := aroot_any A c X _ (hA.below hb2) (Nat.le_trans (glen_lim hX) (by omega))
    have HRT := Lib.hid hrt; have HB2 := Lib.hid (hb1.trans (hb2.mono hb1.size)); have HS := Lib.hid hs; have HS0 := Lib.hid hs0; have HX9 := Lib.hid hX
    clear hn1 hb2 hrt hb1 hA hs hs0 hX
    cases s with
    | true =>
      have HR : Hid (rootR a.data.toList none) := by
        show rootR _ _
        unfold rootR; rw [HX.out]
        have h1 := HS.out; have h2 := HS0.out rfl
        have h3 : x < 0 := by rw [← h1]; unfold sg; simp; omega
        simp [h3]
      go_wp2_with fail
      go_ret2
      exact ⟨none, HR.out, rfl, HB2.out⟩
    | false =>
      go_wp2_with fail
      refine HRT.out.mono ?_
      rintro e w3 ⟨r, A3, c3, hr, rfl, hA3, hb3⟩
      have hxe : x = (X : Int) := by rw [← HS.out]; rfl
      have hrX : r ≤ X := by
        have := hr.1
        rcases Nat.eq_zero_or_pos r with h | h
        · omega
        · exact Nat.le_trans (Nat.le_mul_of_pos_left r h) this
      have hrl : r < 10 ^ 200 := Nat.lt_of_le_of_lt hrX HX9.out
      have hpr := printed_any false A3 c3 r w3 hA3 (Nat.le_trans (glen_lim hrl) (by omega))
      rw [sg_false, show lim ((r : Nat) : Int) = some (r : Int) from by unfold lim; rw [Int.natAbs_natCast, if_pos hrl]] at hpr
      have HR : Hid (rootR a.data.toList (some (r : Int))) := by
        show rootR _ _
        unfold rootR; rw [HX.out]
        simp only
        rw [if_neg (by omega)]
        exact ⟨r, by rw [hxe, Int.natAbs_natCast]; exact hr, rfl⟩
      have HPR := Lib.hid hpr; have HB3 := Lib.hid (HB2.out.trans (hb3.mono HB2.out.size))
      clear hpr hb3 hA3 hr hrX hrl hxe
      go_wp2_with fail
      refine HPR.out.mono ?_
      rintro e w4 ⟨rfl, hb4⟩
      go_wp2_with fail
      go_ret2
      exact ⟨some (r : Int), HR.out, rfl, HB3.out.trans (hb4.mono HB3.out.size)⟩
end Go.Proofs.Ytgpppjfgdbloiaa
