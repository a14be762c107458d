/- The contracts of signed, isZero and compare of numbers with a sign. Conditions: the amounts read, and have at most 1,000 groups. -/
import Derived.Test.YtgpppjfgdbloiaaSqrt
namespace Go.Proofs.Ytgpppjfgdbloiaa
open Go.RowKit Go.Lib

/-- A number as a value. -/
def nv (s : Bool) (A : Option Addr) (n c : Nat) : Value := .agg #[.bool s, .slice A n c]
/-- The number that sign and amount are. -/
def sg (s : Bool) (X : Nat) : Int := if s then -(X : Int) else X
/-- A number has been returned. -/
def OutS (s : Bool) (V : Nat) (w : World) (e : Ending) (w' : World) : Prop := ∃ A c, e = .returned (.agg #[.bool s, .slice A (glen V) c]) ∧ Am w' A (glen V) c V ∧ Below w.heap.size w w'
/-- The sign of an amount, if it has one. -/
def sb (s : Bool) (V : Nat) : Bool := s && decide (0 < V)
theorem sb_false (V : Nat) : sb false V = false := rfl
theorem sb_true {V : Nat} (h : 0 < V) : sb true V = true := by unfold sb; simp [h]
theorem sb_zero (s : Bool) : sb s 0 = false := by unfold sb; simp

set_option maxRecDepth 100000 in
theorem signed_any (s : Bool) (A : Option Addr) (c X : Nat) (w : World) (_ : Am w A (glen X) c X) :
    Calls Try.prog 64 #[.bool s, .slice A (glen X) c] w (fun e w' => e = .returned (.agg #[.bool (sb s X), .slice A (glen X) c]) ∧ Below w.heap.size w w') := by
  obtain ⟨n, hn⟩ : ∃ n, n = glen X := ⟨_, rfl⟩
  have hcase : (s = false) ∨ (s = true ∧ 0 < n ∧ sb s X = true) ∨ (s = true ∧ n = 0 ∧ sb s X = false) := by
    cases s with
    | false => exact .inl rfl
    | true =>
      rcases Nat.eq_zero_or_pos X with h | h
      · exact .inr (.inr ⟨rfl, by rw [hn, h, glen_zero], by rw [h]; exact sb_zero _⟩)
      · exact .inr (.inl ⟨rfl, by rw [hn]; exact glen_pos h, sb_true h⟩)
  rw [← hn]
  clear hn
  rcases hcase with rfl | ⟨rfl, h0, hs⟩ | ⟨rfl, rfl, hs⟩
  · rw [sb_false]
    go_enter Try.func64, Try.ntmps64
    go_wp2
    exact bodyPost_ret (v := .agg #[.bool false, .slice A n c]) (by simp [results, Try.results64, go_sem]) rfl ⟨rfl, (Below.refl _ _).alloc (Nat.le_refl _) _⟩
  · rw [hs]
    clear hs
    have h1 : (0 : Int) < (n : Int) := by omega
    go_enter Try.func64, Try.ntmps64
    go_wp2
    exact bodyPost_ret (v := .agg #[.bool true, .slice A n c]) (by simp [results, Try.results64, go_sem]) rfl ⟨rfl, (Below.refl _ _).alloc (Nat.le_refl _) _⟩
  · rw [hs]
    clear hs
    go_enter Try.func64, Try.ntmps64
    go_wp2
    exact bodyPost_ret (v := .agg #[.bool false, .slice A 0 c]) (by simp [results, Try.results64, go_sem]) rfl ⟨rfl, (Below.refl _ _).alloc (Nat.le_refl _) _⟩

set_option maxRecDepth 100000 in
theorem iszero_any (s : Bool) (A : Option Addr) (c n : Nat) (w : World) (z : Bool) (hz : z = decide (n = 0)) :
    Calls Try.prog 47 #[.agg #[.bool s, .slice A n c]] w (fun e w' => e = .returned (.bool z) ∧ Below w.heap.size w w') := by
  have h1 : ((n : Int) == 0) = z := by
    rw [hz, Bool.eq_iff_iff, beq_iff_eq, decide_eq_true_eq]; omega
  have hb : Below w.heap.size w (w.alloc (.cells #[.bool s, .slice A n c] 53)) := (Below.refl _ _).alloc (Nat.le_refl _) _
  have HB := Lib.hid hb
  clear hz hb
  go_enter Try.func47, Try.ntmps47
  go_wp2
  go_ret
  exact ⟨rfl, HB.out⟩

theorem sg_false (X : Nat) : sg false X = X := rfl
theorem sg_true (X : Nat) : sg true X = -(X : Int) := rfl
set_option maxRecDepth 100000 in
theorem ncomp_any (s t : Bool) (A A' : Option Addr) (c c' X Y : Nat) (w : World) (hA : Am w A (glen X) c X) (hB : Am w A' (glen Y) c' Y) (hX : glen X ≤ 1000) (hY : glen Y ≤ 1000) (hs : s = true → 0 < X) (ht : t = true → 0 < Y) :
    Calls Try.prog 62 #[.agg #[.bool s, .slice A (glen X) c], .agg #[.bool t, .slice A' (glen Y) c']] w
      fun e w' => e = .returned (.int .i64 (ordI (sg s X) (sg t Y))) ∧ Below w.heap.size w w' := by
  obtain ⟨W, hW⟩ : ∃ W, W = ((w.alloc (.cells #[.bool s, .slice A (glen X) c] 53)).alloc (.cells #[.bool t, .slice A' (glen Y) c'] 53)) := ⟨_, rfl⟩
  have hb : Below w.heap.size w W := by rw [hW]; exact ((Below.refl _ _).alloc (Nat.le_refl _) _).alloc (by simp) _
  have h1 := acomp_any A A' c c' X Y W (hA.below hb) (hB.below hb) hX hY
  have h2 := acomp_any A' A c' c Y X W (hB.below hb) (hA.below hb) hY hX
  have HB := Lib.hid hb
  cases s <;> cases t
  · rw [sg_false, sg_false]
    have H1 := Lib.hid h1
    rw [hW] at H1 HB
    clear h1 h2 hA hB hs ht hb hW
    go_enter Try.func62, Try.ntmps62
    go_wp2_with fail
    refine H1.out.mono ?_
    rintro e w1 ⟨rfl, k, rfl⟩
    go_wp2_with fail
    go_ret
    exact ⟨rfl, below_drewN HB.out k⟩
  · rw [sg_false, sg_true, ordI_gt (by have := ht rfl; omega)]
    rw [hW] at HB
    clear h1 h2 hA hB hs ht hb hW
    go_enter Try.func62, Try.ntmps62
    go_wp2_with fail
    go_ret
    exact ⟨rfl, HB.out⟩
  · rw [sg_false, sg_true, ordI_lt (by have := hs rfl; omega)]
    rw [hW] at HB
    clear h1 h2 hA hB hs ht hb hW
    go_enter Try.func62, Try.ntmps62
    go_wp2_with fail
    go_ret
    exact ⟨rfl, HB.out⟩
  · rw [sg_true, sg_true, show ordI (-(X : Int)) (-(Y : Int)) = ordI Y X from by unfold ordI; split <;> split <;> (try split) <;> (try split) <;> omega]
    have H1 := Lib.hid h2
    rw [hW] at H1 HB
    clear h1 h2 hA hB hs ht hb hW
    go_enter Try.func62, Try.ntmps62
    go_wp2_with fail
    refine H1.out.mono ?_
    rintro e w1 ⟨rfl, k, rfl⟩
    go_wp2_with fail
    go_ret
    exact ⟨rfl, below_drewN HB.out k⟩
end Go.Proofs.Ytgpppjfgdbloiaa
