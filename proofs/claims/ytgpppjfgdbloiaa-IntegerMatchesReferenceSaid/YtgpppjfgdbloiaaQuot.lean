/- The contracts of quotientGroup and of the search below it. Conditions: the amounts read, and have at most 600 groups; the divisor is not zero, and what is divided is less than the base times it. -/
import Derived.Test.YtgpppjfgdbloiaaFrom
import Derived.Test.YtgpppjfgdbloiaaMinus
import Derived.Deep.RegionHeld3
import Derived.Laws.EntriesVeiled
namespace Go.Proofs.Ytgpppjfgdbloiaa
open Go.RowKit Go.Lib

/-- Does the divisor fit so many times? -/
def fitsB (T g R : Nat) : Bool := decide (T * g ≤ R)
theorem fits_ord (T g R : Nat) : decide (ordI ((T : Int) * (g : Int)) (R : Nat) ≤ 0) = fitsB T g R := by
  unfold fitsB
  rw [show (T : Int) * (g : Int) = ((T * g : Nat) : Int) from by push_cast; rfl]
  rw [Bool.eq_iff_iff, decide_eq_true_eq, decide_eq_true_eq]
  generalize T * g = z
  unfold ordI
  split
  · omega
  · split <;> omega

set_option maxRecDepth 100000 in
set_option maxHeartbeats 1000000 in
theorem fits_any (A A' : Option Addr) (c c' T R g bt br : Nat) (w : World) (ht : w.cell? ⟨bt, 0, none⟩ = some (.func (.func 68) #[.slice A (glen T) c] #[])) (hr : w.cell? ⟨br, 0, none⟩ = some (.slice A' (glen R) c'))
    (hT : Am w A (glen T) c T) (hR : Am w A' (glen R) c' R) (hg : g ≤ 10000) (hT2 : glen T ≤ 600) (hR2 : glen R ≤ 700) :
    Calls Try.prog 82 #[.int .i64 (g : Nat), .pointer (some ⟨bt, 0, none⟩), .pointer (some ⟨br, 0, none⟩)] w fun e w' => e = .returned (.bool (fitsB T g R)) ∧ Below w.heap.size w w' := by
  have hb1 : Below w.heap.size w ((w.alloc (.cells #[.int .i64 (g : Nat)] 3)).drew) := ((Below.refl _ _).alloc (Nat.le_refl _) _).drew
  have hc1 := atimes_one A c T g w.heap.size ((w.alloc (.cells #[.int .i64 (g : Nat)] 3)).drew) (hT.below hb1) (by omega) hg (by simp) (World.cell?_alloc_at _ _ _ _ rfl)
  have HC1 := Lib.hid hc1
  have HB1 := Lib.hid hb1
  have hgl : glen (T * g) ≤ 1000 := by
    have h1 : T * g < 10000 ^ (glen T + 1) := by
      rw [Nat.pow_succ]
      exact Nat.lt_of_le_of_lt (Nat.mul_le_mul_left T hg) (Nat.mul_lt_mul_of_pos_right (lt_glen T) (by omega))
    have := glen_le.2 h1
    omega
  have HO := Lib.hid (fits_ord T g R)
  have HK : Hid (∀ W, Below w.heap.size w W → W.cell? ⟨bt, 0, none⟩ = some (.func (.func 68) #[.slice A (glen T) c] #[]) ∧ W.cell? ⟨br, 0, none⟩ = some (.slice A' (glen R) c')) := fun W hW =>
    ⟨(hW.cell (p := ⟨bt, 0, none⟩) (World.block_lt_of_cell? w _ ht)).trans ht, (hW.cell (p := ⟨br, 0, none⟩) (World.block_lt_of_cell? w _ hr)).trans hr⟩
  have HR := Lib.hid hR
  clear hc1 hb1 hT hR
  go_enter Try.func82, Try.ntmps82
  go_wp2_with fail
  go_region_held3 (fun w' => w'.cell? ⟨bt, 0, none⟩ = some (.func (.func 68) #[.slice A (glen T) c] #[]) ∧ w'.cell? ⟨br, 0, none⟩ = some (.slice A' (glen R) c')) (first | exact HK.out _ hb3 | exact HK.out _ (below_drewN hb3 _) | go_keep)
    (first
      | (go_at_call 68; (with_reducible refine HC1.out.mono ?_); rintro e w2 ⟨A2, c2, rfl, hA2, hb2⟩; have hb3 := HB1.out.trans (hb2.mono (by simp)); have hcm := acomp_any A2 A' c2 c' (T * g) R w2 hA2 (HR.out.below hb3) hgl (by omega); have HC2 := Lib.hid hcm; clear hcm)
      | (go_at_call 66; (with_reducible refine HC2.out.mono ?_); rintro e w3 ⟨rfl, k3, rfl⟩))
  all_goals
    go_wp2
    go_ret
    exact ⟨by rw [HO.out]; rfl, below_drewN hb3 _⟩

theorem fits_yes {T g R : Nat} (hT : 0 < T) (h : g ≤ R / T) : fitsB T g R = true := by
  unfold fitsB; rw [decide_eq_true_eq, Nat.mul_comm]; exact (Nat.le_div_iff_mul_le hT).1 h
theorem fits_no {T g R : Nat} (hT : 0 < T) (h : R / T < g) : fitsB T g R = false := by
  unfold fitsB; rw [decide_eq_false_iff_not, Nat.mul_comm, ← Nat.le_div_iff_mul_le hT]; omega

set_option maxRecDepth 100000 in
set_option maxHeartbeats 1000000 in
theorem greatest_any (A A' : Option Addr) (c c' T R lo hi bt br : Nat) (w : World) (ht : w.cell? ⟨bt, 0, none⟩ = some (.func (.func 68) #[.slice A (glen T) c] #[])) (hr : w.cell? ⟨br, 0, none⟩ = some (.slice A' (glen R) c'))
    (hT : Am w A (glen T) c T) (hR : Am w A' (glen R) c' R) (hT2 : glen T ≤ 600) (hR2 : glen R ≤ 700) (hT0 : 0 < T) (h1 : lo ≤ R / T) (h2 : R / T ≤ hi) (h3 : hi ≤ 10000) :
    Calls Try.prog 81 #[.int .i64 (lo : Nat), .int .i64 (hi : Nat), .func (.func 82) #[] #[.pointer (some ⟨bt, 0, none⟩), .pointer (some ⟨br, 0, none⟩)]] w
      fun e w' => e = .returned (.int .i64 (R / T : Nat)) ∧ Below w.heap.size w w' := by
  have hlt := World.block_lt_of_cell? w _ ht
  have hlr := World.block_lt_of_cell? w _ hr
  have hf : ∀ W g, Below w.heap.size w W → g ≤ 10000 → Calls Try.prog 82 #[.int .i64 (g : Nat), .pointer (some ⟨bt, 0, none⟩), .pointer (some ⟨br, 0, none⟩)] W fun e w' => e = .returned (.bool (fitsB T g R)) ∧ Below W.heap.size W w' :=
    fun W g hW hg => fits_any A A' c c' T R g bt br W ((hW.cell (p := ⟨bt, 0, none⟩) hlt).trans ht) ((hW.cell (p := ⟨br, 0, none⟩) hlr).trans hr) (hT.below hW) (hR.below hW) hg hT2 hR2
  have HF := Lib.hid hf
  have hyes : ∀ g, g ≤ R / T → fitsB T g R = true := fun g h => fits_yes hT0 h
  have hno : ∀ g, R / T < g → fitsB T g R = false := fun g h => fits_no hT0 h
  have HY := Lib.hid hyes; have HN := Lib.hid hno
  obtain ⟨Q, hQ⟩ : ∃ Q, Q = R / T := ⟨_, rfl⟩
  rw [← hQ] at h1 h2 HY HN ⊢
  clear hf hyes hno ht hr hT hR hlt hlr hQ
  go_enter Try.func81, Try.ntmps81
  go_wp2
  go_loopw [0, 1] (fun l m wr => ∃ lo hi : Nat, l = .int .i64 lo ∧ m = .int .i64 hi ∧ lo ≤ Q ∧ Q ≤ hi ∧ hi ≤ 10000 ∧ Below w.heap.size w wr) (fun l m _ => (intOf m).toNat - (intOf l).toNat)
  case atStart => exact ⟨lo, hi, rfl, rfl, h1, h2, h3, Below.refl _ _⟩
  case round =>
    clear h1 h2 h3
    obtain ⟨lo, hi, rfl, rfl, h1, h2, h3, hbl⟩ := hrel
    by_cases hlt : lo < hi
    · obtain ⟨mid, hmid⟩ : ∃ mid, mid = hi - (hi - lo) / 2 := ⟨_, rfl⟩
      have e1 : (hi : Int) - ((hi : Int) - (lo : Int)) / 2 = (mid : Int) := by omega
      have b1 : lo < mid := by omega
      have b2 : mid ≤ hi := by omega
      have hc := HF.out _ mid hbl (by omega)
      have hs := hbl.size
      by_cases hfit : mid ≤ Q
      · rw [HY.out mid hfit] at hc
        have HC := Lib.hid hc
        clear hc hmid
        go_wp2_with (go_at_call 82; (with_reducible refine HC.out.mono ?_); rintro e w2 ⟨rfl, hb2⟩)
        go_roundw
        case rel => exact ⟨mid, hi, rfl, rfl, hfit, h2, h3, hbl.trans (hb2.mono hs)⟩
        case measure => simp [intOf]; omega
      · rw [HN.out mid (by omega)] at hc
        have HC := Lib.hid hc
        clear hc hmid
        go_wp2_with (go_at_call 82; (with_reducible refine HC.out.mono ?_); rintro e w2 ⟨rfl, hb2⟩)
        go_roundw
        case rel => exact ⟨lo, mid - 1, rfl, (by rw [show ((mid - 1 : Nat) : Int) = (mid : Int) - 1 from by omega]), h1, by omega, by omega, hbl.trans (hb2.mono hs)⟩
        case measure => simp [intOf]; omega
    · obtain rfl : lo = Q := by omega
      go_wp2
      go_ret
      exact ⟨rfl, hbl⟩

/-- Two new cells. -/
theorem two_cells (w : World) (x y : Value) (t u : TypeId) : ((w.alloc (.cells #[x] t)).alloc (.cells #[y] u)).cell? ⟨w.heap.size, 0, none⟩ = some x ∧ ((w.alloc (.cells #[x] t)).alloc (.cells #[y] u)).cell? ⟨w.heap.size + 1, 0, none⟩ = some y ∧
    Below w.heap.size w ((w.alloc (.cells #[x] t)).alloc (.cells #[y] u)) := by
  refine ⟨?_, ?_, ((Below.refl _ _).alloc (Nat.le_refl _) _).alloc (by simp) _⟩
  · rw [World.cell?_alloc_past _ _ _ (by simp), World.cell?_alloc_at _ _ _ _ rfl]; rfl
  · rw [World.cell?_alloc_at _ _ _ _ (by simp)]; rfl

set_option maxRecDepth 100000 in
set_option maxHeartbeats 1000000 in
theorem qgroup_any (A A' : Option Addr) (c c' R T : Nat) (w : World) (hR : Am w A (glen R) c R) (hT : Am w A' (glen T) c' T) (hT2 : glen T ≤ 600) (hR2 : glen R ≤ 700) (hT0 : 0 < T) (hRT : R < T * 10000) :
    Calls Try.prog 77 #[.slice A (glen R) c, .slice A' (glen T) c'] w fun e w' => e = .returned (.int .i64 (R / T : Nat)) ∧ Below w.heap.size w w' := by
  have hmf : ∀ (fn : Fn) (first cap : Array Value) (w : World), (Instr.makeFunc fn first cap).run Try.prog w = .ok (.func fn first cap) w := fun _ _ _ _ => rfl
  obtain ⟨c1, c2, hb⟩ := two_cells w (.slice A (glen R) c) (.func (.func 68) #[.slice A' (glen T) c'] #[]) 51 78
  obtain ⟨W, hW⟩ : ∃ W, W = (w.alloc (.cells #[.slice A (glen R) c] 51)).alloc (.cells #[.func (.func 68) #[.slice A' (glen T) c'] #[]] 78) := ⟨_, rfl⟩
  rw [← hW] at c1 c2 hb
  have hq := qbounds_any A A' c c' R T W (hR.below hb) (hT.below hb) (by omega) (by omega) hT0 hRT
  have hg : ∀ lo hi k, lo ≤ R / T → R / T ≤ hi → hi ≤ 10000 → Calls Try.prog 81 #[.int .i64 (lo : Nat), .int .i64 (hi : Nat), .func (.func 82) #[] #[.pointer (some ⟨w.heap.size + 1, 0, none⟩), .pointer (some ⟨w.heap.size, 0, none⟩)]] (W.drewN k)
      fun e w' => e = .returned (.int .i64 (R / T : Nat)) ∧ Below W.heap.size (W.drewN k) w' := fun lo hi k h1 h2 h3 =>
    greatest_any A' A c' c T R lo hi (w.heap.size + 1) w.heap.size (W.drewN k) c2 c1 ((hT.below hb).drewN k) ((hR.below hb).drewN k) hT2 hR2 hT0 h1 h2 h3
  have HQ := Lib.hid hq; have HG := Lib.hid hg; have HW := Lib.hid hW; have HB := Lib.hid hb
  clear hq hg hb
  obtain ⟨Q, hQ⟩ : ∃ Q, Q = R / T := ⟨_, rfl⟩
  rw [← hQ] at HG ⊢
  have HQQ := Lib.hid hQ
  clear hQ hR hT hRT
  rw [hW] at c1 c2
  clear hW
  go_enter Try.func77, Try.ntmps77
  go_wp2_with fail
  rw [← HW.out]
  refine HQ.out.mono ?_
  rintro e w2 ⟨lo, hi, rfl, h1, h2, h3, k, rfl⟩
  rw [← HW.out] at c1 c2
  rw [← HQQ.out] at h1 h2
  have HGo := Lib.hid (HG.out lo hi k h1 h2 h3)
  clear h1 h2 h3
  go_wp2_with (go_at_call 81; (with_reducible refine HGo.out.mono ?_); rintro e w3 ⟨rfl, hb3⟩)
  go_ret
  exact ⟨rfl, (below_drewN HB.out k).trans (hb3.mono HB.out.size)⟩
end Go.Proofs.Ytgpppjfgdbloiaa
