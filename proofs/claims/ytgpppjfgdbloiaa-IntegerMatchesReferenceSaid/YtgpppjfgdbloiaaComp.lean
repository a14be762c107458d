/- The contracts of order and of compare of amounts. Conditions: the amounts read, and have at most 1,000 groups. -/
import Derived.Test.YtgpppjfgdbloiaaTimes
namespace Go.Proofs.Ytgpppjfgdbloiaa
open Go.RowKit Go.Lib

/-- -1, 0 or 1. -/
def ordI (a b : Int) : Int := if a < b then -1 else if b < a then 1 else 0
theorem ordI_lt {a b : Int} (h : a < b) : ordI a b = -1 := by unfold ordI; rw [if_pos h]
theorem ordI_gt {a b : Int} (h : b < a) : ordI a b = 1 := by unfold ordI; rw [if_neg (by omega), if_pos h]
theorem ordI_eq {a b : Int} (h : a = b) : ordI a b = 0 := by unfold ordI; rw [if_neg (by omega), if_neg (by omega)]
theorem ordI_le (a b : Int) : -1 ≤ ordI a b ∧ ordI a b ≤ 1 := by unfold ordI; split <;> (try split) <;> omega

theorem order_any (a b : Int) (w : World) : Calls Try.prog 75 #[.int .i64 a, .int .i64 b] w fun e w' => e = .returned (.int .i64 (ordI a b)) ∧ w = w' := by
  rcases Int.lt_trichotomy a b with h | h | h
  · rw [ordI_lt h]
    go_enter Try.func75, Try.ntmps75
    go_wp2
    go_ret
    exact ⟨rfl, rfl⟩
  · subst h
    rw [ordI_eq rfl]
    go_enter Try.func75, Try.ntmps75
    go_wp2
    go_ret
    exact ⟨rfl, rfl⟩
  · rw [ordI_gt h]
    have h2 : ¬ a < b := by omega
    go_enter Try.func75, Try.ntmps75
    go_wp2
    go_ret
    exact ⟨rfl, rfl⟩

/-- A quiet call behind a quiet region. -/
theorem quiet_on {P : Program} {f : FuncId} {args : Array Value} {w : World} {a n : Nat} {v : Value}
    (h : Calls P f args (w.drewN (a + n)) fun e w' => e = .returned v ∧ ∃ m, w' = (w.drewN (a + n)).drewN m) :
    Calls P f args (w.drewN (a + n)) fun e w'' => e = .returned v ∧ ∃ m, w'' = w.drewN (a + m) :=
  h.mono fun _ _ ⟨he, m, hm⟩ => ⟨he, n + m, by rw [hm, World.drewN_drewN, Nat.add_assoc]⟩
theorem order_q (a b : Int) (w : World) : Calls Try.prog 75 #[.int .i64 a, .int .i64 b] w fun e w' => e = .returned (.int .i64 (ordI a b)) ∧ ∃ k, w' = w.drewN k :=
  (order_any a b w).mono fun _ _ ⟨he, hw⟩ => ⟨he, 0, by rw [← hw]; rfl⟩

theorem glen_lt {X Y : Nat} (h : glen X < glen Y) : X < Y := by
  rcases Nat.lt_or_ge X Y with h1 | h1
  · exact h1
  · have := glen_mono h1; omega
theorem comp_digit {X Y k : Nat} (h : X / 10000 ^ (k + 1) = Y / 10000 ^ (k + 1)) (hd : dg4 X k < dg4 Y k) : X < Y := by
  have h1 := div_pred4 X k
  have h2 := div_pred4 Y k
  rcases Nat.lt_or_ge X Y with h3 | h3
  · exact h3
  · have := Nat.div_le_div_right (c := 10000 ^ k) h3; omega
theorem comp_same {X Y k : Nat} (h : X / 10000 ^ (k + 1) = Y / 10000 ^ (k + 1)) (hd : dg4 X k = dg4 Y k) : X / 10000 ^ k = Y / 10000 ^ k := by
  rw [div_pred4 X k, div_pred4 Y k, h, hd]

set_option maxRecDepth 100000 in
set_option maxHeartbeats 1000000 in
theorem acomp_any (A A' : Option Addr) (c c' X Y : Nat) (w : World) (hA : Am w A (glen X) c X) (hB : Am w A' (glen Y) c' Y) (_hX : glen X ≤ 1000) (hY : glen Y ≤ 1000) :
    Calls Try.prog 66 #[.slice A (glen X) c, .slice A' (glen Y) c'] w fun e w' => e = .returned (.int .i64 (ordI X Y)) ∧ ∃ k, w' = w.drewN k := by
  by_cases hne : glen X = glen Y
  · obtain ⟨n, hn⟩ : ∃ n, n = glen Y := ⟨_, rfl⟩
    rw [← hn] at hne hB hY ⊢
    rw [hne] at hA _hX ⊢
    have hdx : X / 10000 ^ n = Y / 10000 ^ n := by rw [Nat.div_eq_of_lt (hne ▸ lt_glen X), Nat.div_eq_of_lt (hn ▸ lt_glen Y)]
    have HA := Lib.hid hA; have HB := Lib.hid hB; have HN := Lib.hid hn; have HD := Lib.hid hdx; have HE := Lib.hid hne
    clear hA hB hn hdx hne _hX
    go_enter Try.func66, Try.ntmps66
    go_wp2
    go_loopw [5] (fun ii wr => ∃ (t : Nat) (i : Int) (q : Nat), ii = .int .i64 i ∧ Hid (i = (t : Int) - 1) ∧ t ≤ n ∧ Hid (X / 10000 ^ t = Y / 10000 ^ t) ∧ wr = w.drewN q) (fun ii _ => (intOf ii + 1).toNat)
    case atStart => exact ⟨n, _, 0, rfl, rfl, Nat.le_refl _, HD.out, rfl⟩
    case round =>
      obtain ⟨t, i, q, rfl, HI, ht, HQ, rfl⟩ := hrel
      rcases t with _ | k
      · obtain rfl : i = -1 := by have := HI.out; omega
        have HR : Hid (ordI X Y = 0) := ordI_eq (by have := HQ.out; simp at this; omega)
        go_wp2
        go_ret
        exact ⟨by rw [HR.out]; rfl, _, rfl⟩
      · obtain rfl : i = (k : Int) := by have := HI.out; omega
        obtain ⟨b, o, rfl, hb, hc⟩ := HA.out.2 (by omega)
        obtain ⟨b', o', rfl, hb', hc'⟩ := HB.out.2 (by omega)
        have hcell := hc k (by omega)
        have hcell' := hc' k (by omega)
        have hdx := dg4_lt X k
        have hdy := dg4_lt Y k
        obtain ⟨x, hx⟩ : ∃ x, x = dg4 X k := ⟨_, rfl⟩
        obtain ⟨y, hy⟩ : ∃ y, y = dg4 Y k := ⟨_, rfl⟩
        rw [← hx] at hcell hdx
        rw [← hy] at hcell' hdy
        have q1 : (0 : Int) ≤ (k : Int) := by omega
        have q2 : (k : Int) < (n : Int) := by omega
        by_cases hxy : x = y
        · have HQ2 : Hid (X / 10000 ^ k = Y / 10000 ^ k) := comp_same HQ.out (by omega)
          subst hxy
          clear hc hc' hx hy
          go_wp2
          go_quiet (fail)
          go_wp2
          go_roundw
          case rel => exact ⟨k, _, _, rfl, rfl, by omega, HQ2.out, rfl⟩
          case measure => simp [intOf]
        · have HR : Hid (ordI X Y = ordI x y) := by
            rcases Nat.lt_or_gt_of_ne hxy with h | h
            · show _ = _
              rw [ordI_lt (show (x : Int) < y by omega), ordI_lt (by have := comp_digit HQ.out (by omega); omega)]
            · show _ = _
              rw [ordI_gt (show (y : Int) < x by omega), ordI_gt (by have := comp_digit HQ.out.symm (by omega); omega)]
          have h3 : ((x : Int) == (y : Int)) = false := by rw [beq_eq_false_iff_ne]; omega
          have h4 : ((x : Int) != (y : Int)) = true := by rw [bne, h3]; rfl
          clear hc hc' hx hy hxy
          go_wp2
          go_quiet (fail)
          go_wp2
          go_quiet ((go_at_call 75; exact quiet_on (order_q _ _ _)))
          go_wp2
          go_ret
          exact ⟨by rw [HR.out]; rfl, _, by rw [World.drewN_drewN, World.drewN_drewN]⟩
    
  · have HR : Hid (ordI X Y = ordI (glen X : Nat) (glen Y : Nat)) := by
      rcases Nat.lt_or_gt_of_ne hne with h | h
      · show _ = _
        rw [ordI_lt (show ((glen X : Nat) : Int) < (glen Y : Nat) by omega), ordI_lt (by have := glen_lt h; omega)]
      · show _ = _
        rw [ordI_gt (show ((glen Y : Nat) : Int) < (glen X : Nat) by omega), ordI_gt (by have := glen_lt h; omega)]
    have h3 : (((glen X : Nat) : Int) == ((glen Y : Nat) : Int)) = false := by rw [beq_eq_false_iff_ne]; omega
    have h4 : (((glen X : Nat) : Int) != ((glen Y : Nat) : Int)) = true := by rw [bne, h3]; rfl
    clear hne hA hB
    go_enter Try.func66, Try.ntmps66
    go_wp2_with (go_at_call 75; refine (order_any _ _ _).mono ?_; rintro e w1 ⟨rfl, rfl⟩)
    go_ret
    exact ⟨by rw [HR.out]; rfl, 0, rfl⟩
end Go.Proofs.Ytgpppjfgdbloiaa
