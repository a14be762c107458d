/- The contract of the reference's order. Conditions: the digits read, and there are at most 100,000. -/
import Derived.Test.YtgpppjfgdbloiaaMade
namespace Go.Proofs.Ytgpppjfgdbloiaa
open Go.RowKit Go.Lib

theorem ddiv_pred (V i : Nat) : V / 10 ^ i = 10 * (V / 10 ^ (i + 1)) + d10 V i := by
  unfold d10; rw [Nat.pow_succ, ← Nat.div_div_eq_div_mul]; omega
theorem dl_mono {a b : Nat} (h : a ≤ b) : dl a ≤ dl b := dl_le.2 (Nat.lt_of_le_of_lt h (lt_dl b))
theorem dl_lt {X Y : Nat} (h : dl X < dl Y) : X < Y := by
  rcases Nat.lt_or_ge X Y with h1 | h1
  · exact h1
  · have := dl_mono h1; omega
theorem dcomp_digit {X Y k : Nat} (h : X / 10 ^ (k + 1) = Y / 10 ^ (k + 1)) (hd : d10 X k < d10 Y k) : X < Y := by
  have h1 := ddiv_pred X k
  have h2 := ddiv_pred Y k
  rcases Nat.lt_or_ge X Y with h3 | h3
  · exact h3
  · have := Nat.div_le_div_right (c := 10 ^ k) h3; omega
theorem dcomp_same {X Y k : Nat} (h : X / 10 ^ (k + 1) = Y / 10 ^ (k + 1)) (hd : d10 X k = d10 Y k) : X / 10 ^ k = Y / 10 ^ k := by
  rw [ddiv_pred X k, ddiv_pred Y k, h, hd]

set_option maxRecDepth 100000 in
set_option maxHeartbeats 1000000 in
theorem qorder_any (A A' : Option Addr) (c c' X Y : Nat) (w : World) (hA : Dm w A (dl X) c X) (hB : Dm w A' (dl Y) c' Y) (hY : dl Y ≤ 100000) :
    Calls Try.prog 57 #[.slice A (dl X) c, .slice A' (dl Y) c'] w fun e w' => e = .returned (.int .i64 (ordI X Y)) ∧ ∃ k, w' = w.drewN k := by
  by_cases hne : dl X = dl Y
  · obtain ⟨n, hn⟩ : ∃ n, n = dl Y := ⟨_, rfl⟩
    rw [← hn] at hne hB hY ⊢
    rw [hne] at hA ⊢
    have hdx : X / 10 ^ n = Y / 10 ^ n := by rw [Nat.div_eq_of_lt (hne ▸ lt_dl X), Nat.div_eq_of_lt (hn ▸ lt_dl Y)]
    have HA := Lib.hid hA; have HB := Lib.hid hB; have HN := Lib.hid hn; have HD := Lib.hid hdx; have HE := Lib.hid hne
    clear hA hB hn hdx hne
    go_enter Try.func57, Try.ntmps57
    go_wp2
    go_loopw [5] (fun ii wr => ∃ (t : Nat) (i : Int) (q : Nat), ii = .int .i64 i ∧ Hid (i = (t : Int) - 1) ∧ t ≤ n ∧ Hid (X / 10 ^ t = Y / 10 ^ t) ∧ wr = w.drewN q) (fun ii _ => (intOf ii + 1).toNat)
    case atStart => exact ⟨n, _, 0, rfl, rfl, Nat.le_refl _, HD.out, rfl⟩
    case round =>
      obtain ⟨t, i, q, rfl, HI, ht, HQ, rfl⟩ := hrel
      rcases t with _ | k
      · obtain rfl : i = -1 := by have := HI.out; omega
        have HR : Hid (ordI X Y = 0) := ordI_eq (by have := HQ.out; simp at this; omega)
        go_wp2
        go_ret
        exact ⟨by rw [HR.out]; rfl, _, rfl⟩
      · obtain rfl : i = (k : Int) := by have := HI.out; omega
        obtain ⟨b, o, rfl, hb, hc⟩ := HA.out.2 (by omega)
        obtain ⟨b', o', rfl, hb', hc'⟩ := HB.out.2 (by omega)
        have hcell := hc k (by omega)
        have hcell' := hc' k (by omega)
        have hdx := d10_lt X k
        have hdy := d10_lt Y k
        obtain ⟨x, hx⟩ : ∃ x, x = d10 X k := ⟨_, rfl⟩
        obtain ⟨y, hy⟩ : ∃ y, y = d10 Y k := ⟨_, rfl⟩
        rw [← hx] at hcell hdx
        rw [← hy] at hcell' hdy
        have q1 : (0 : Int) ≤ (k : Int) := by omega
        have q2 : (k : Int) < (n : Int) := by omega
        by_cases hxy : x = y
        · have HQ2 : Hid (X / 10 ^ k = Y / 10 ^ k) := dcomp_same HQ.out (by omega)
          subst hxy
          clear hc hc' hx hy
          go_wp2
          go_quiet (fail)
          go_wp2
          go_roundw
          case rel => exact ⟨k, _, _, rfl, rfl, by omega, HQ2.out, rfl⟩
          case measure => simp [intOf]
        · have h3 : ((x : Int) == (y : Int)) = false := by rw [beq_eq_false_iff_ne]; omega
          have h4 : ((x : Int) != (y : Int)) = true := by rw [bne, h3]; rfl
          rcases Nat.lt_or_gt_of_ne hxy with h | h
          · have HR : Hid (ordI X Y = -1) := ordI_lt (by have := dcomp_digit HQ.out (by omega); omega)
            have h5 : (x : Int) < (y : Int) := by omega
            clear hc hc' hx hy hxy h
            go_wp2
            go_quiet (fail)
            go_wp2
            go_quiet (fail)
            go_wp2
            go_ret
            exact ⟨by rw [HR.out]; rfl, _, by rw [World.drewN_drewN, World.drewN_drewN]⟩
          · have HR : Hid (ordI X Y = 1) := ordI_gt (by have := dcomp_digit HQ.out.symm (by omega); omega)
            have h5 : ¬ (x : Int) < (y : Int) := by omega
            clear hc hc' hx hy hxy h
            go_wp2
            go_quiet (fail)
            go_wp2
            go_quiet (fail)
            go_wp2
            go_ret
            exact ⟨by rw [HR.out]; rfl, _, by rw [World.drewN_drewN, World.drewN_drewN]⟩
  · have h3 : (((dl X : Nat) : Int) == ((dl Y : Nat) : Int)) = false := by rw [beq_eq_false_iff_ne]; omega
    have h4 : (((dl X : Nat) : Int) != ((dl Y : Nat) : Int)) = true := by rw [bne, h3]; rfl
    rcases Nat.lt_or_gt_of_ne hne with h | h
    · have HR : Hid (ordI X Y = -1) := ordI_lt (by have := dl_lt h; omega)
      have h5 : ((dl X : Nat) : Int) < ((dl Y : Nat) : Int) := by omega
      clear hne h hA hB
      go_enter Try.func57, Try.ntmps57
      go_wp2
      go_ret
      exact ⟨by rw [HR.out]; rfl, 0, rfl⟩
    · have HR : Hid (ordI X Y = 1) := ordI_gt (by have := dl_lt h; omega)
      have h5 : ¬ ((dl X : Nat) : Int) < ((dl Y : Nat) : Int) := by omega
      clear hne h hA hB
      go_enter Try.func57, Try.ntmps57
      go_wp2
      go_ret
      exact ⟨by rw [HR.out]; rfl, 0, rfl⟩
end Go.Proofs.Ytgpppjfgdbloiaa
