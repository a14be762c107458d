/- The contracts of quotientGroup and of the search below it. Conditions: the amounts read, and have at most 600 groups; the divisor is not zero, and what is divided is less than the base times it. | The contract of divided. Conditions: the amounts read, and have at most 600 groups; the divisor is not zero. | The contracts of gcd and root of amounts. Conditions: the amounts read, and have at most 600 groups. | The contract of root of amounts. Conditions: the amount reads, and has at most 500 groups. | The contracts of signed, isZero and compare of numbers with a sign. Conditions: the amounts read, and have at most 1,000 groups. | The contracts of plus, minus, times, divided and gcd of numbers with a sign. Conditions: the amounts read, and have at most 500 groups. | The contracts of plus, minus, times and gcd of numbers, by the integers that they are. Conditions: the amounts read, and have at most 500 groups. | The contract of divided of numbers. Conditions: the amounts read, and have at most 500 groups; the divisor is not zero. -/
import Derived.Deep.RegionHeld3
import Derived.Laws.EntriesVeiled
import Derived.Test.YtpjbihfkedbenaaGreatGA
namespace Go.Proofs.YtpjbihfkedbenaaGreat
open Go.RowKit Go.Lib
def fitsB (T g R : Nat) : Bool := decide (T * g <= R)
theorem fits_ord (T g R : Nat) : decide (ordI ((T : Int) * (g : Int)) (R : Nat) <= 0) = fitsB T g R := by
 unfold fitsB
 rw [show (T : Int) * (g : Int) = ((T * g : Nat) : Int) from by push_cast; rfl]
 rw [Bool.eq_iff_iff, decide_eq_true_eq, decide_eq_true_eq]
 generalize T * g = z
 unfold ordI
 split
 · omega
 · split <;> omega
set_option maxRecDepth 100000 in
set_option maxHeartbeats 1000000 in
theorem fits_any (A A' : Option Addr) (c c' T R g bt br : Nat) (w : World) (ht : w.cell? ⟨bt, 0, none⟩ = some (.func (.func 106) #[.slice A (glen T) c] #[])) (hr : w.cell? ⟨br, 0, none⟩ = some (.slice A' (glen R) c'))
   (hT : Am w A (glen T) c T) (hR : Am w A' (glen R) c' R) (hg : g <= 10000) (hT2 : glen T <= 600) (hR2 : glen R <= 700) :
   Calls Tryz.prog 128 #[.int .i64 (g : Nat), .pointer (some ⟨bt, 0, none⟩), .pointer (some ⟨br, 0, none⟩)] w fun e w' => e = .returned (.bool (fitsB T g R)) /\ Below w.heap.size w w' := by
 have hb1 : Below w.heap.size w ((w.alloc (.cells #[.int .i64 (g : Nat)] 3)).drew) := ((Below.refl _ _).alloc (Nat.le_refl _) _).drew
 have hc1 := atimes_one A c T g w.heap.size ((w.alloc (.cells #[.int .i64 (g : Nat)] 3)).drew) (hT.below hb1) (by omega) hg (by simp) (World.cell?_alloc_at _ _ _ _ rfl)
 have HC1 := Lib.hid hc1
 have HB1 := Lib.hid hb1
 have hgl : glen (T * g) <= 1000 := by
   have h1 : T * g < 10000 ^ (glen T + 1) := by
     rw [Nat.pow_succ]
     exact Nat.lt_of_le_of_lt (Nat.mul_le_mul_left T hg) (Nat.mul_lt_mul_of_pos_right (lt_glen T) (by omega))
   have := glen_le.2 h1
   omega
 have HO := Lib.hid (fits_ord T g R)
 have HK : Hid (∀ W, Below w.heap.size w W -> W.cell? ⟨bt, 0, none⟩ = some (.func (.func 106) #[.slice A (glen T) c] #[]) /\ W.cell? ⟨br, 0, none⟩ = some (.slice A' (glen R) c')) := fun W hW =>
   ⟨(hW.cell (p := ⟨bt, 0, none⟩) (World.block_lt_of_cell? w _ ht)).trans ht, (hW.cell (p := ⟨br, 0, none⟩) (World.block_lt_of_cell? w _ hr)).trans hr⟩
 have HR := Lib.hid hR
 clear hc1 hb1 hT hR
 go_enter Tryz.func128, Tryz.ntmps128
 go_wp2_with fail
 go_region_held3 (fun w' => w'.cell? ⟨bt, 0, none⟩ = some (.func (.func 106) #[.slice A (glen T) c] #[]) /\ w'.cell? ⟨br, 0, none⟩ = some (.slice A' (glen R) c')) (first | exact HK.out _ hb3 | exact HK.out _ (below_drewN hb3 _) | go_keep)
   (first
     | (go_at_call 106; (with_reducible refine HC1.out.mono ?_); rintro e w2 ⟨A2, c2, rfl, hA2, hb2⟩; have hb3 := HB1.out.trans (hb2.mono (by simp)); have hcm := acomp_any A2 A' c2 c' (T * g) R w2 hA2 (HR.out.below hb3) hgl (by omega); have HC2 := Lib.hid hcm; clear hcm)
     | (go_at_call 98; (with_reducible refine HC2.out.mono ?_); rintro e w3 ⟨rfl, k3, rfl⟩))
 all_goals
   go_wp2
   go_ret
   exact ⟨by rw [HO.out]; rfl, below_drewN hb3 _⟩
theorem fits_yes {T g R : Nat} (hT : 0 < T) (h : g <= R / T) : fitsB T g R = true := by
 unfold fitsB; rw [decide_eq_true_eq, Nat.mul_comm]; exact (Nat.le_div_iff_mul_le hT).1 h
theorem fits_no {T g R : Nat} (hT : 0 < T) (h : R / T < g) : fitsB T g R = false := by
 unfold fitsB; rw [decide_eq_false_iff_not, Nat.mul_comm, <- Nat.le_div_iff_mul_le hT]; omega
set_option maxRecDepth 100000 in
set_option maxHeartbeats 1000000 in
theorem greatest_any (A A' : Option Addr) (c c' T R lo hi bt br : Nat) (w : World) (ht : w.cell? ⟨bt, 0, none⟩ = some (.func (.func 106) #[.slice A (glen T) c] #[])) (hr : w.cell? ⟨br, 0, none⟩ = some (.slice A' (glen R) c'))
   (hT : Am w A (glen T) c T) (hR : Am w A' (glen R) c' R) (hT2 : glen T <= 600) (hR2 : glen R <= 700) (hT0 : 0 < T) (h1 : lo <= R / T) (h2 : R / T <= hi) (h3 : hi <= 10000) :
   Calls Tryz.prog 127 #[.int .i64 (lo : Nat), .int .i64 (hi : Nat), .func (.func 128) #[] #[.pointer (some ⟨bt, 0, none⟩), .pointer (some ⟨br, 0, none⟩)]] w
     fun e w' => e = .returned (.int .i64 (R / T : Nat)) /\ Below w.heap.size w w' := by
 have hlt := World.block_lt_of_cell? w _ ht
 have hlr := World.block_lt_of_cell? w _ hr
 have hf : ∀ W g, Below w.heap.size w W -> g <= 10000 -> Calls Tryz.prog 128 #[.int .i64 (g : Nat), .pointer (some ⟨bt, 0, none⟩), .pointer (some ⟨br, 0, none⟩)] W fun e w' => e = .returned (.bool (fitsB T g R)) /\ Below W.heap.size W w' :=
   fun W g hW hg => fits_any A A' c c' T R g bt br W ((hW.cell (p := ⟨bt, 0, none⟩) hlt).trans ht) ((hW.cell (p := ⟨br, 0, none⟩) hlr).trans hr) (hT.below hW) (hR.below hW) hg hT2 hR2
 have HF := Lib.hid hf
 have hyes : ∀ g, g <= R / T -> fitsB T g R = true := fun g h => fits_yes hT0 h
 have hno : ∀ g, R / T < g -> fitsB T g R = false := fun g h => fits_no hT0 h
 have HY := Lib.hid hyes; have HN := Lib.hid hno
 obtain ⟨Q, hQ⟩ : ∃ Q, Q = R / T := ⟨_, rfl⟩
 rw [<- hQ] at h1 h2 HY HN ⊢
 clear hf hyes hno ht hr hT hR hlt hlr hQ
 go_enter Tryz.func127, Tryz.ntmps127
 go_wp2
 go_loopw [0, 1] (fun l m wr => ∃ lo hi : Nat, l = .int .i64 lo /\ m = .int .i64 hi /\ lo <= Q /\ Q <= hi /\ hi <= 10000 /\ Below w.heap.size w wr) (fun l m _ => (intOf m).toNat - (intOf l).toNat)
 case atStart => exact ⟨lo, hi, rfl, rfl, h1, h2, h3, Below.refl _ _⟩
 case round =>
   clear h1 h2 h3
   obtain ⟨lo, hi, rfl, rfl, h1, h2, h3, hbl⟩ := hrel
   by_cases hlt : lo < hi
   · obtain ⟨mid, hmid⟩ : ∃ mid, mid = hi - (hi - lo) / 2 := ⟨_, rfl⟩
     have e1 : (hi : Int) - ((hi : Int) - (lo : Int)) / 2 = (mid : Int) := by omega
     have b1 : lo < mid := by omega
     have b2 : mid <= hi := by omega
     have hc := HF.out _ mid hbl (by omega)
     have hs := hbl.size
     by_cases hfit : mid <= Q
     · rw [HY.out mid hfit] at hc
       have HC := Lib.hid hc
       clear hc hmid
       go_wp2_with (go_at_call 128; (with_reducible refine HC.out.mono ?_); rintro e w2 ⟨rfl, hb2⟩)
       go_roundw
       case rel => exact ⟨mid, hi, rfl, rfl, hfit, h2, h3, hbl.trans (hb2.mono hs)⟩
       case measure => simp [intOf]; omega
     · rw [HN.out mid (by omega)] at hc
       have HC := Lib.hid hc
       clear hc hmid
       go_wp2_with (go_at_call 128; (with_reducible refine HC.out.mono ?_); rintro e w2 ⟨rfl, hb2⟩)
       go_roundw
       case rel => exact ⟨lo, mid - 1, rfl, (by rw [show ((mid - 1 : Nat) : Int) = (mid : Int) - 1 from by omega]), h1, by omega, by omega, hbl.trans (hb2.mono hs)⟩
       case measure => simp [intOf]; omega
   · obtain rfl : lo = Q := by omega
     go_wp2
     go_ret
     exact ⟨rfl, hbl⟩
theorem two_cells (w : World) (x y : Value) (t u : TypeId) : ((w.alloc (.cells #[x] t)).alloc (.cells #[y] u)).cell? ⟨w.heap.size, 0, none⟩ = some x /\ ((w.alloc (.cells #[x] t)).alloc (.cells #[y] u)).cell? ⟨w.heap.size + 1, 0, none⟩ = some y ∧
   Below w.heap.size w ((w.alloc (.cells #[x] t)).alloc (.cells #[y] u)) := by
 refine ⟨?_, ?_, ((Below.refl _ _).alloc (Nat.le_refl _) _).alloc (by simp) _⟩
 · rw [World.cell?_alloc_past _ _ _ (by simp), World.cell?_alloc_at _ _ _ _ rfl]; rfl
 · rw [World.cell?_alloc_at _ _ _ _ (by simp)]; rfl
set_option maxRecDepth 100000 in
set_option maxHeartbeats 1000000 in
theorem qgroup_any (A A' : Option Addr) (c c' R T : Nat) (w : World) (hR : Am w A (glen R) c R) (hT : Am w A' (glen T) c' T) (hT2 : glen T <= 600) (hR2 : glen R <= 700) (hT0 : 0 < T) (hRT : R < T * 10000) :
   Calls Tryz.prog 125 #[.slice A (glen R) c, .slice A' (glen T) c'] w fun e w' => e = .returned (.int .i64 (R / T : Nat)) /\ Below w.heap.size w w' := by
 have hmf : ∀ (fn : Fn) (first cap : Array Value) (w : World), (Instr.makeFunc fn first cap).run Tryz.prog w = .ok (.func fn first cap) w := fun _ _ _ _ => rfl
 obtain ⟨c1, c2, hb⟩ := two_cells w (.slice A (glen R) c) (.func (.func 106) #[.slice A' (glen T) c'] #[]) 87 128
 obtain ⟨W, hW⟩ : ∃ W, W = (w.alloc (.cells #[.slice A (glen R) c] 87)).alloc (.cells #[.func (.func 106) #[.slice A' (glen T) c'] #[]] 128) := ⟨_, rfl⟩
 rw [<- hW] at c1 c2 hb
 have hq := qbounds_any A A' c c' R T W (hR.below hb) (hT.below hb) (by omega) (by omega) hT0 hRT
 have hg : ∀ lo hi k, lo <= R / T -> R / T <= hi -> hi <= 10000 -> Calls Tryz.prog 127 #[.int .i64 (lo : Nat), .int .i64 (hi : Nat), .func (.func 128) #[] #[.pointer (some ⟨w.heap.size + 1, 0, none⟩), .pointer (some ⟨w.heap.size, 0, none⟩)]] (W.drewN k)
     fun e w' => e = .returned (.int .i64 (R / T : Nat)) /\ Below W.heap.size (W.drewN k) w' := fun lo hi k h1 h2 h3 =>
   greatest_any A' A c' c T R lo hi (w.heap.size + 1) w.heap.size (W.drewN k) c2 c1 ((hT.below hb).drewN k) ((hR.below hb).drewN k) hT2 hR2 hT0 h1 h2 h3
 have HQ := Lib.hid hq; have HG := Lib.hid hg; have HW := Lib.hid hW; have HB := Lib.hid hb
 clear hq hg hb
 obtain ⟨Q, hQ⟩ : ∃ Q, Q = R / T := ⟨_, rfl⟩
 rw [<- hQ] at HG ⊢
 have HQQ := Lib.hid hQ
 clear hQ hR hT hRT
 rw [hW] at c1 c2
 clear hW
 go_enter Tryz.func125, Tryz.ntmps125
 go_wp2_with fail
 rw [<- HW.out]
 refine HQ.out.mono ?_
 rintro e w2 ⟨lo, hi, rfl, h1, h2, h3, k, rfl⟩
 rw [<- HW.out] at c1 c2
 rw [<- HQQ.out] at h1 h2
 have HGo := Lib.hid (HG.out lo hi k h1 h2 h3)
 clear h1 h2 h3
 go_wp2_with (go_at_call 127; (with_reducible refine HGo.out.mono ?_); rintro e w3 ⟨rfl, hb3⟩)
 go_ret
 exact ⟨rfl, (below_drewN HB.out k).trans (hb3.mono HB.out.size)⟩
def OutQ (X T : Nat) (w : World) (e : Ending) (w' : World) : Prop :=
 ∃ A c A' c', e = .returned (.tuple #[.slice A (glen (X / T)) c, .slice A' (glen (X % T)) c']) /\ Am w' A (glen (X / T)) c (X / T) /\ Am w' A' (glen (X % T)) c' (X % T) /\ Below w.heap.size w w'
theorem glen_shr (X f : Nat) : glen (X / 10000 ^ f) = glen X - f := by
 have h1 : glen (X / 10000 ^ f) <= glen X - f := by
   rw [glen_le, Nat.div_lt_iff_lt_mul (Nat.pow_pos (by omega)), <- Nat.pow_add]
   exact Nat.lt_of_lt_of_le (lt_glen X) (Nat.pow_le_pow_right (by omega) (by omega))
 have h2 : glen X <= glen (X / 10000 ^ f) + f := by
   rw [glen_le, Nat.pow_add, <- Nat.div_lt_iff_lt_mul (Nat.pow_pos (by omega))]
   exact lt_glen _
 omega
theorem dg4_shr (X f i : Nat) : dg4 (X / 10000 ^ f) i = dg4 X (f + i) := by unfold dg4; rw [Nat.div_div_eq_div_mul, <- Nat.pow_add]
theorem run_from_am {w : World} {A : Option Addr} {n c X : Nat} (t : TypeId) (ht : Tryz.prog.underlying t = some (.slice 3)) (hA : Am w A n c X) (f : Nat) (hf : f <= n) :
   ∃ A2, (∀ w, (Instr.slice t (.slice A n c) (some (.int .i64 (f : Nat))) none none).run Tryz.prog w = .ok (.slice A2 (n - f) (c - f)) w) /\ ∀ w, Am w A n c X -> Am w A2 (n - f) (c - f) (X / 10000 ^ f) := by
 obtain ⟨i, hi, hz, hs, hb⟩ := info_of info_i64
 have hnc := hA.1
 by_cases h0 : 0 < n
 · obtain ⟨b, o, rfl, -, -⟩ := hA.2 h0
   have h1 : (f : Int) <= n := by omega
   by_cases hcf : c = f
   · refine ⟨some ⟨b, o, none⟩, fun w => ?_, fun w h => ⟨by omega, fun h => absurd h (by omega)⟩⟩
     have h3 : (⟨b, o, none⟩ : Addr).add 0 = ⟨b, o, none⟩ := by unfold Addr.add; rfl
     subst hcf
     simp [Instr.slice, run_underlying ht, Instr.sliceBounds, run_sliceBound, h1, sizeOf, typeInfo, hi, hs]
   · refine ⟨some ⟨b, o + f, none⟩, fun w => ?_, fun w h => ⟨by omega, fun h2 => ?_⟩⟩
     · have h3 : (⟨b, o, none⟩ : Addr).add f = ⟨b, o + f, none⟩ := by unfold Addr.add; split <;> simp_all
       simp [Instr.slice, run_underlying ht, Instr.sliceBounds, run_sliceBound, h1, sizeOf, typeInfo, hi, hs, h3, hcf]
     · obtain ⟨b', o', e, hl, hc⟩ := h.2 h0
       cases e
       exact ⟨_, _, rfl, hl, fun i hi => by rw [Nat.add_assoc, hc (f + i) (by omega), dg4_shr]⟩
 · obtain rfl : n = 0 := by omega
   obtain rfl : f = 0 := by omega
   refine ⟨A, fun w => ?_, fun w h => ⟨by omega, fun h => absurd h (by omega)⟩⟩
   cases A with
   | none => simp [Instr.slice, run_underlying ht, Instr.sliceBounds, run_sliceBound]
   | some a =>
     have h3 : a.add 0 = a := by unfold Addr.add; split <;> simp_all
     simp [Instr.slice, run_underlying ht, Instr.sliceBounds, run_sliceBound, sizeOf, typeInfo, hi, hs, h3]
def quos (Q f t : Nat) : List Int := (List.range f).map fun j => if j < t then 0 else (dg4 Q j : Int)
theorem quos_length (Q f t : Nat) : (quos Q f t).length = f := by simp [quos]
theorem quos_new (Q f : Nat) : (quos Q f f) = List.replicate f 0 := by
 apply List.ext_getElem
 · simp [quos]
 · intro i h1 h2
   have : i < f := by simpa [quos] using h1
   simp [quos, this]
theorem quos_all (Q f : Nat) : quos Q f 0 = grps Q f := by simp [quos, grps]
theorem quos_set (Q f k : Nat) : (quos Q f (k + 1)).set k (dg4 Q k : Int) = quos Q f k := by
 apply List.ext_getElem
 · simp [quos]
 · intro i h1 h2
   rw [List.getElem_set]
   have : i < f := by simpa [quos] using h2
   simp only [quos, List.getElem_map, List.getElem_range]
   by_cases h : k = i
   · subst h; simp
   · simp only [if_neg h]
     by_cases h3 : i < k + 1
     · rw [if_pos h3, if_pos (by omega)]
     · rw [if_neg h3, if_neg (by omega)]
theorem div_step {X T k : Nat} (hT : 0 < T) : dg4 (X / T) k = (10000 * (X / 10000 ^ (k + 1) % T) + dg4 X k) / T /\ X / 10000 ^ k % T = (10000 * (X / 10000 ^ (k + 1) % T) + dg4 X k) % T /\ 10000 * (X / 10000 ^ (k + 1) % T) + dg4 X k < T * 10000 := by
 have h1 := div_pred4 X k
 have hd := dg4_lt X k
 obtain ⟨U, hU⟩ : ∃ U, U = X / 10000 ^ (k + 1) := ⟨_, rfl⟩
 obtain ⟨d, hd2⟩ : ∃ d, d = dg4 X k := ⟨_, rfl⟩
 rw [<- hU, <- hd2] at h1 ⊢
 rw [<- hd2] at hd
 have hm := Nat.mod_lt U hT
 have hlt : 10000 * (U % T) + d < T * 10000 := by omega
 have hE : 10000 * U + d = (10000 * (U % T) + d) + T * (10000 * (U / T)) := by
   have := Nat.div_add_mod U T
   have h2 : T * (10000 * (U / T)) = 10000 * (T * (U / T)) := Nat.mul_left_comm _ _ _
   omega
 refine ⟨?_, ?_, hlt⟩
 · unfold dg4
   rw [Nat.div_div_eq_div_mul, Nat.mul_comm T, <- Nat.div_div_eq_div_mul, h1, hE, Nat.add_mul_div_left _ _ hT, Nat.add_mul_mod_self_left]
   exact Nat.mod_eq_of_lt (by rw [Nat.div_lt_iff_lt_mul hT]; omega)
 · rw [h1, hE, Nat.add_mul_mod_self_left]
set_option maxRecDepth 100000 in
set_option maxHeartbeats 1000000 in
theorem adiv_any (A A' : Option Addr) (c c' X T : Nat) (w : World) (hA : Am w A (glen X) c X) (hB : Am w A' (glen T) c' T) (hX : glen X <= 600) (hT : glen T <= 600) (hT0 : 0 < T) :
   Calls Tryz.prog 121 #[.slice A (glen X) c, .slice A' (glen T) c'] w (OutQ X T w) := by
 have hm0 := glen_pos hT0
 obtain ⟨f, hf⟩ : ∃ f, f = glen X + 1 - glen T := ⟨_, rfl⟩
 have hmk := fun w => run_make_ints 87 Tryz.underlying87 f f (Nat.le_refl _) (by omega) w
 obtain ⟨A2, hs2, hA2⟩ := run_from_am 87 Tryz.underlying87 hA f (by omega)
 have hb1 : Below w.heap.size w (w.alloc (.cells (zc f) 3)) := (Below.refl _ _).alloc (Nat.le_refl _) _
 have hg1 : Blk (w.alloc (.cells (zc f) 3)) w.heap.size 3 (zc f) := Blk.new w 3 (zc f)
 have hlow : X / 10000 ^ f < T := by
   refine Nat.lt_of_lt_of_le (glen_le.1 ?_) (pow_glen_le hT0)
   rw [glen_shr]; omega
 have hQ : X / T < 10000 ^ f := by
   rw [Nat.div_lt_iff_lt_mul hT0]
   refine Nat.lt_of_lt_of_le (lt_glen X) (Nat.le_trans (Nat.pow_le_pow_right (show 0 < 10000 by omega) (show glen X <= f + (glen T - 1) by omega)) ?_)
   rw [Nat.pow_add]
   exact Nat.mul_le_mul_left _ (pow_glen_le hT0)
 have hsl : glen X - f = glen (X / 10000 ^ f % T) := by rw [Nat.mod_eq_of_lt hlow, glen_shr]
 have hA3 := hA2 _ (hA.below hb1)
 rw [<- Nat.mod_eq_of_lt hlow, hsl] at hA3
 rw [hsl] at hs2
 have hz : quos (X / T) f f = List.replicate f 0 := quos_new _ _
 have hG : Blk (w.alloc (.cells (zc f) 3)) w.heap.size 3 ((quos (X / T) f f).map iv).toArray := by rw [hz]; exact hg1
 have htr := fun W (h : Am W (some ⟨w.heap.size, 0, none⟩) f f (X / T)) => trimmed_any _ f f (X / T) W h hQ (by omega)
 have HTR := Lib.hid htr; have HG := Lib.hid hG; have HA3 := Lib.hid hA3; have HB1 := Lib.hid hb1; have HA := Lib.hid hA; have HB := Lib.hid hB; have HQ := Lib.hid hQ
 have HGL := Lib.hid (glen_le.2 hQ)
 by_cases hf0 : f = 0
 · subst hf0
   have hR0 : X / 10000 ^ 0 % T = X % T := by simp
   have hA4 := HA3.out
   rw [hR0] at hs2 hA4
   have hmk0 := hmk
   rw [show ((0 : Nat) : Int) = 0 from rfl] at hmk0 hs2
   have hQ0 : X / T = 0 := by have := HQ.out; simpa using this
   have e0 : ((glen X : Nat) : Int) - ((glen T : Nat) : Int) + 1 <= 0 := by omega
   have ht0 := htr _ (Am.zero (w := w.alloc (.cells (zc 0) 3)))
   have HT0 := Lib.hid ht0; have HQ0 := Lib.hid hQ0; have HA4 := Lib.hid hA4
   clear hmk hA hB hf hA2 hb1 hg1 hlow hQ hsl hA3 hz hG htr ht0 hQ0 hA4 hR0
   go_enter Tryz.func121, Tryz.ntmps121
   go_wp2
   clear e0 hmk0 hs2
   go_loopw [8, 9] (fun r i wr => r = .slice A2 (glen (X % T)) (c - 0) /\ i = .int .i64 (-1) /\ wr = w.alloc (.cells (zc 0) 3)) (fun _ _ _ => 0)
   case atStart => exact ⟨rfl, rfl, rfl⟩
   case round =>
     obtain ⟨rfl, rfl, rfl⟩ := hrel
     go_wp2_with (go_at_call 117; (with_reducible refine HT0.out.mono ?_); rintro e w2 ⟨rfl, rfl⟩)
     go_ret2
     exact ⟨_, _, _, _, rfl, (by rw [HQ0.out, glen_zero]; exact Am.zero), HA4.out, HB1.out⟩
 · have e0 : ((glen X : Nat) : Int) - ((glen T : Nat) : Int) + 1 = (f : Int) := by omega
   have e1 : (0 : Int) < (f : Int) := by omega
   have hT9 : glen T <= 600 := hT
   have hfX : f <= glen X := by omega
   have HTP := Lib.hid hT0
   obtain ⟨R0, hR0⟩ : ∃ R0, R0 = X / 10000 ^ f % T := ⟨_, rfl⟩
   rw [<- hR0] at hs2
   have hA4 := HA3.out
   rw [<- hR0] at hA4
   have HR0 := Lib.hid hR0; have HA4 := Lib.hid hA4
   clear hA hB hf hA2 hb1 hg1 hlow hQ hsl hA3 hz hG htr hA4 hR0 hf0 hm0 HA3
   go_enter Tryz.func121, Tryz.ntmps121
   go_wp2
   clear e0 hmk hs2
   go_loopw [8, 9] (fun r ii wr => ∃ (t : Nat) (i : Int) (Ar : Option Addr) (cr R : Nat), ii = .int .i64 i /\ Hid (i = (t : Int) - 1) /\ t <= f /\ r = .slice Ar (glen R) cr /\ Hid (R = X / 10000 ^ t % T) /\ Am wr Ar (glen R) cr R /\ Blk wr w.heap.size 3 ((quos (X / T) f t).map iv).toArray /\ Below w.heap.size w wr)
     (fun _ ii _ => (intOf ii + 1).toNat)
   case atStart => exact ⟨f, _, _, _, R0, rfl, rfl, Nat.le_refl _, rfl, HR0.out, HA4.out, HG.out, HB1.out⟩
   case round =>
     obtain ⟨t, i, Ar, cr, R, rfl, HI, ht, rfl, HR, hAr, hG, hbl⟩ := hrel
     rcases t with _ | k
     · obtain rfl : i = -1 := by have := HI.out; omega
       have hR1 : R = X % T := by rw [HR.out]; simp
       rw [quos_all] at hG
       have hA5 := Am.of_blk hG (V := X / T) (by rw [grps_length])
       rw [grps_length] at hA5
       subst hR1
       have HT1 := Lib.hid (HTR.out wr hA5)
       have HA5 := Lib.hid (hA5.less HGL.out)
       have HAr := Lib.hid hAr
       clear hA5 hAr hG
       go_wp2_with (go_at_call 117; (with_reducible refine HT1.out.mono ?_); rintro e w2 ⟨rfl, rfl⟩)
       go_ret2
       exact ⟨_, _, _, _, rfl, HA5.out, HAr.out, hbl⟩
     · obtain rfl : i = (k : Int) := by have := HI.out; omega
       obtain ⟨s1, s2, s3⟩ := div_step (X := X) (k := k) hT0
       rw [<- HR.out] at s1 s2 s3
       have hd := dg4_lt X k
       obtain ⟨b, o, rfl, hb, hc⟩ := (HA.out.below hbl).2 (by omega)
       have hcell := hc k (by omega)
       have hRlt : R < T := by rw [HR.out]; exact Nat.mod_lt _ HTP.out
       have hgR : glen R <= 600 := Nat.le_trans (glen_mono (Nat.le_of_lt hRlt)) hT
       obtain ⟨d, hd2⟩ : ∃ d, d = dg4 X k := ⟨_, rfl⟩
       rw [<- hd2] at hcell hd s1 s2 s3
       have HC1 := Lib.hid (followed_any Ar cr R d wr hAr (by omega) hd)
       obtain ⟨R1, hR1⟩ : ∃ R1, R1 = 10000 * R + d := ⟨_, rfl⟩
       rw [<- hR1] at s1 s2 s3 HC1
       obtain ⟨q, hq⟩ : ∃ q, q = R1 / T := ⟨_, rfl⟩
       have hq2 : q < 10000 := by rw [hq, Nat.div_lt_iff_lt_mul HTP.out, Nat.mul_comm]; exact s3
       have hgR1 : glen R1 <= 700 := by have := glen_prod s3; omega
       have hqT : T * q <= R1 := by rw [hq]; exact Nat.mul_div_le R1 T
       have hrem : R1 - T * q = R1 % T := by rw [hq]; have := Nat.div_add_mod R1 T; omega
       rw [<- hq] at s1
       have q1 : (0 : Int) <= (k : Int) := by omega
       have q2 : (k : Int) < ((glen X : Nat) : Int) := by omega
       have q3 : (k : Int) < (f : Int) := by omega
       have HS1 := Lib.hid s1; have HS2 := Lib.hid s2; have HS3 := Lib.hid s3; have HQT := Lib.hid hqT; have HREM := Lib.hid hrem; have HG2 := Lib.hid hG; have HBL := Lib.hid hbl; have HQQ := Lib.hid hq
       clear hc hd2 hR1 hq s1 s2 s3 hqT hrem hG hAr hRlt
       go_wp2_with fail
       refine HC1.out.mono ?_
       rintro e w1 ⟨c1, rfl, hA1, hb1⟩
       have hbl1 := HBL.out.trans (hb1.mono HBL.out.size)
       have hqg := qgroup_any (some ⟨wr.heap.size, 0, none⟩) A' c1 c' R1 T w1 hA1 (HB.out.below hbl1) hT hgR1 HTP.out HS3.out
       rw [<- HQQ.out] at hqg
       have HC2 := Lib.hid hqg; have HA1 := Lib.hid hA1; have HB1 := Lib.hid hb1
       clear hqg hA1 hb1
       have HBL1 := Lib.hid hbl1
       clear hbl1
       go_wp2_with fail
       refine HC2.out.mono ?_
       rintro e w2 ⟨rfl, hb2⟩
       have hbl2 := HBL1.out.trans (hb2.mono HBL1.out.size)
       have hG3 := HG2.out.below ((HB1.out).trans (hb2.mono HB1.out.size)) (Nat.lt_of_lt_of_le HG2.out.lt (Nat.le_refl _))
       have c0 := hG3.cell (iv_at (l := quos (X / T) f (k + 1)) (i := k) (by rw [quos_length]; omega))
       have f0 := hG3.frozen k
       obtain ⟨z, hz⟩ : ∃ z, z = (quos (X / T) f (k + 1))[k]'(by rw [quos_length]; omega) := ⟨_, rfl⟩
       rw [<- hz, iv] at c0
       have hG4 := hG3.set k (iv (q : Nat))
       rw [iv_set, show (q : Int) = (dg4 (X / T) k : Nat) from by rw [HS1.out], quos_set] at hG4
       rw [<- show (q : Int) = (dg4 (X / T) k : Nat) from by rw [HS1.out], iv] at hG4
       have hbl3 : Below w.heap.size w (w2.setCell ⟨w.heap.size, k, none⟩ (.int .i64 (q : Nat))) := hbl2.setCell (Nat.le_refl _) _
       have hlt1 := HG2.out.lt
       have hA1x := (HA1.out.below hb2).far (p := ⟨w.heap.size, k, none⟩) (by rintro b o h; cases h; exact Nat.ne_of_gt hlt1) (.int .i64 (q : Nat))
       have c1 := hG4.cell (iv_at (l := quos (X / T) f k) (i := k) (by rw [quos_length]; omega))
       have hqk : (quos (X / T) f k)[k]'(by rw [quos_length]; omega) = (q : Int) := by rw [<- HS1.out]; simp [quos]
       rw [hqk, iv] at c1
       have hs2 : (w2.setCell ⟨w.heap.size, k, none⟩ (.int .i64 (q : Nat))).heap.size = w2.heap.size := by simp [World.setCell]
       have hb4 : Below w2.heap.size (w2.setCell ⟨w.heap.size, k, none⟩ (.int .i64 (q : Nat))) ((w2.setCell ⟨w.heap.size, k, none⟩ (.int .i64 (q : Nat))).alloc (.cells #[.int .i64 (q : Nat)] 3)) := (Below.refl _ _).alloc (by rw [hs2]; exact Nat.le_refl _) _
       have hb4' := hb4
       rw [<- hs2] at hb4'
       have hbl4 := hbl3.trans (hb4.mono hbl2.size)
       have hG5 := hG4.alloc (.cells #[.int .i64 (q : Nat)] 3)
       have htm := atimes_one A' c' T q w2.heap.size _ (HB.out.below hbl4) (by omega) (by omega) (by simp [World.setCell]) (World.cell?_alloc_at _ _ _ _ (by simp [World.setCell]))
       have hA1y := hA1x.below hb4'
       have HC3 := Lib.hid htm; have HG5 := Lib.hid hG5; have HBL4 := Lib.hid hbl4; have HA1Y := Lib.hid hA1y
       clear hb4 hb4' hG4 hbl3 hA1x hbl2 hG3 hb2 hz hqk hs2 htm hG5 hbl4 hA1y
       go_wp2_with fail
       refine HC3.out.mono ?_
       rintro e w5 ⟨A5, c5, rfl, hA5, hb5⟩
       have hmi := aminus_any (some ⟨wr.heap.size, 0, none⟩) A5 _ c5 R1 (T * q) w5 (HA1Y.out.below hb5) hA5 (by omega) HQT.out
       rw [HREM.out] at hmi
       have hbl5 := HBL4.out.trans (hb5.mono HBL4.out.size)
       have hG6 := HG5.out.below hb5 HG5.out.lt
       have HC4 := Lib.hid hmi; have HG6 := Lib.hid hG6; have HBL5 := Lib.hid hbl5
       clear hmi hG6 hbl5 hb5 hA5
       go_wp2_with fail
       refine HC4.out.mono ?_
       rintro e w6 ⟨A6, c6, rfl, hA6, hb6⟩
       have hG7 := HG6.out.below hb6 HG6.out.lt
       have hbl6 := HBL5.out.trans (hb6.mono HBL5.out.size)
       go_wp2_with fail
       go_roundw
       case rel => exact ⟨k, (k : Int) - 1, _, _, R1 % T, rfl, rfl, by omega, rfl, HS2.out.symm, hA6, hG7, hbl6⟩
       case measure => simp [intOf]
def numAt (w : World) (a : Addr) : Nat -> Nat
 | 0 => 0
 | n + 1 => numAt w a n + 10000 ^ n * (intOf ((w.cell? (a.add n)).getD (.int .i64 0))).toNat
def amVal (w : World) : Value -> Nat
 | .slice (some a) n _ => numAt w a n
 | _ => 0
theorem amVal_of {w : World} {A : Option Addr} {c X : Nat} (h : Am w A (glen X) c X) : amVal w (.slice A (glen X) c) = X := by
 obtain ⟨n, hn⟩ : ∃ n, n = glen X := ⟨_, rfl⟩
 have hX := lt_glen X
 rw [<- hn] at h hX ⊢
 by_cases h0 : 0 < n
 · obtain ⟨b, o, rfl, -, hc⟩ := h.2 h0
   have : ∀ k, k <= n -> numAt w ⟨b, o, none⟩ k = X % 10000 ^ k := by
     intro k
     induction k with
     | zero => intro _; simp [numAt, Nat.mod_one]
     | succ k ih =>
       intro hk
       have e : (⟨b, o, none⟩ : Addr).add k = ⟨b, o + k, none⟩ := by unfold Addr.add; split <;> simp_all
       rw [numAt, ih (by omega), e, hc k (by omega), mod_succ4]
       simp [intOf]
   show numAt w ⟨b, o, none⟩ n = X
   rw [this n (Nat.le_refl _), Nat.mod_eq_of_lt hX]
 · obtain rfl : n = 0 := by omega
   have : X = 0 := by simpa using hX
   subst this
   cases A <;> rfl
set_option maxRecDepth 100000 in
set_option maxHeartbeats 1000000 in
theorem agcd_any (A A' : Option Addr) (c c' X Y : Nat) (w : World) (hA : Am w A (glen X) c X) (hB : Am w A' (glen Y) c' Y) (hX : glen X <= 600) (hY : glen Y <= 600) :
   Calls Tryz.prog 113 #[.slice A (glen X) c, .slice A' (glen Y) c'] w (OutN (Nat.gcd X Y) w) := by
 have HA := Lib.hid hA; have HB := Lib.hid hB
 clear hA hB
 go_enter Tryz.func113, Tryz.ntmps113
 go_wp2
 go_loopw [0, 1] (fun a b wr => ∃ (Ar As : Option Addr) (cr cs P R : Nat), a = .slice Ar (glen P) cr /\ b = .slice As (glen R) cs /\ glen P <= 600 /\ glen R <= 600 /\ Hid (Nat.gcd P R = Nat.gcd X Y) /\ Am wr Ar (glen P) cr P /\ Am wr As (glen R) cs R /\ Below w.heap.size w wr) (fun _ b wr => amVal wr b)
 case atStart => exact ⟨_, _, _, _, _, _, rfl, rfl, hX, hY, rfl, HA.out, HB.out, Below.refl _ _⟩
 case round =>
   clear hX hY
   obtain ⟨Ar, As, cr, cs, P, R, rfl, rfl, hP, hR, HG, hAr, hAs, hbl⟩ := hrel
   by_cases h0 : 0 < R
   · have hg := glen_pos h0
     have hdv := adiv_any Ar As cr cs P R wr hAr hAs hP hR h0
     have HC := Lib.hid hdv
     have hm := Nat.mod_lt P h0
     have hgm : glen (P % R) <= 600 := Nat.le_trans (glen_mono (Nat.le_of_lt hm)) hR
     have HG2 : Hid (Nat.gcd R (P % R) = Nat.gcd X Y) := by
       show Nat.gcd R (P % R) = Nat.gcd X Y
       rw [<- HG.out, Nat.gcd_comm R, <- Nat.gcd_rec, Nat.gcd_comm]
     have HV := Lib.hid (amVal_of hAs)
     have HAs := Lib.hid hAs
     have HM := Lib.hid hm
     clear hdv hAr hAs hm
     go_wp2_with fail
     refine HC.out.mono ?_
     rintro e w1 ⟨A1, c1, A2, c2, rfl, hA1, hA2, hb1⟩
     have HA2 := Lib.hid hA2
     have HV2 := Lib.hid (amVal_of hA2)
     have HB1 := Lib.hid hb1
     have hAs2 := Lib.hid (HAs.out.below hb1)
     clear hA1 hA2 hb1
     go_wp2_with fail
     go_roundw
     case rel => exact ⟨_, _, _, _, R, P % R, rfl, rfl, hR, hgm, HG2, hAs2.out, HA2.out, hbl.trans (HB1.out.mono hbl.size)⟩
     case measure => simp [HV.out, HV2.out, HM.out]
   · have hz : ¬ 0 < glen R := by rw [show R = 0 by omega, glen_zero]; omega
     have hz2 : ((glen R : Nat) : Int) <= 0 := by omega
     have HR := Lib.hid (show P = Nat.gcd X Y by rw [<- HG.out, show R = 0 by omega, Nat.gcd_zero_right])
     clear hAs
     go_wp2
     go_ret
     exact ⟨Ar, cr, by rw [<- HR.out]; rfl, by rw [<- HR.out]; exact hAr, hbl⟩
theorem Am.one (w : World) (q : Nat) (hq : q < 10000) : Am (w.alloc (.cells #[.int .i64 (q : Nat)] 3)) (some ⟨w.heap.size, 0, none⟩) 1 1 q :=
 ⟨Nat.le_refl _, fun _ => ⟨_, _, rfl, by simp, fun i hi => by
   obtain rfl : i = 0 := by omega
   rw [World.cell?_alloc_at _ _ _ _ rfl]
   simp [dg4, Nat.mod_eq_of_lt hq]⟩⟩
def sg (s : Bool) (X : Nat) : Int := if s then -(X : Int) else X
def OutS (s : Bool) (V : Nat) (w : World) (e : Ending) (w' : World) : Prop := ∃ A c, e = .returned (.agg #[.bool s, .slice A (glen V) c]) /\ Am w' A (glen V) c V /\ Below w.heap.size w w'
def sb (s : Bool) (V : Nat) : Bool := s && decide (0 < V)
theorem sb_false (V : Nat) : sb false V = false := rfl
theorem sb_true {V : Nat} (h : 0 < V) : sb true V = true := by unfold sb; simp [h]
theorem sb_zero (s : Bool) : sb s 0 = false := by unfold sb; simp
set_option maxRecDepth 100000 in
theorem signed_any (s : Bool) (A : Option Addr) (c X : Nat) (w : World) (_ : Am w A (glen X) c X) :
   Calls Tryz.prog 73 #[.bool s, .slice A (glen X) c] w (fun e w' => e = .returned (.agg #[.bool (sb s X), .slice A (glen X) c]) /\ Below w.heap.size w w') := by
 obtain ⟨n, hn⟩ : ∃ n, n = glen X := ⟨_, rfl⟩
 have hcase : (s = false) ∨ (s = true /\ 0 < n /\ sb s X = true) ∨ (s = true /\ n = 0 /\ sb s X = false) := by
   cases s with
   | false => exact .inl rfl
   | true =>
     rcases Nat.eq_zero_or_pos X with h | h
     · exact .inr (.inr ⟨rfl, by rw [hn, h, glen_zero], by rw [h]; exact sb_zero _⟩)
     · exact .inr (.inl ⟨rfl, by rw [hn]; exact glen_pos h, sb_true h⟩)
 rw [<- hn]
 clear hn
 rcases hcase with rfl | ⟨rfl, h0, hs⟩ | ⟨rfl, rfl, hs⟩
 · rw [sb_false]
   go_enter Tryz.func73, Tryz.ntmps73
   go_wp2
   exact bodyPost_ret (v := .agg #[.bool false, .slice A n c]) (by simp [results, Tryz.results73, go_sem]) rfl ⟨rfl, (Below.refl _ _).alloc (Nat.le_refl _) _⟩
 · rw [hs]
   clear hs
   have h1 : (0 : Int) < (n : Int) := by omega
   go_enter Tryz.func73, Tryz.ntmps73
   go_wp2
   exact bodyPost_ret (v := .agg #[.bool true, .slice A n c]) (by simp [results, Tryz.results73, go_sem]) rfl ⟨rfl, (Below.refl _ _).alloc (Nat.le_refl _) _⟩
 · rw [hs]
   clear hs
   go_enter Tryz.func73, Tryz.ntmps73
   go_wp2
   exact bodyPost_ret (v := .agg #[.bool false, .slice A 0 c]) (by simp [results, Tryz.results73, go_sem]) rfl ⟨rfl, (Below.refl _ _).alloc (Nat.le_refl _) _⟩
set_option maxRecDepth 100000 in
theorem iszero_any (s : Bool) (A : Option Addr) (c n : Nat) (w : World) (z : Bool) (hz : z = decide (n = 0)) :
   Calls Tryz.prog 74 #[.agg #[.bool s, .slice A n c]] w (fun e w' => e = .returned (.bool z) /\ Below w.heap.size w w') := by
 have h1 : ((n : Int) == 0) = z := by
   rw [hz, Bool.eq_iff_iff, beq_iff_eq, decide_eq_true_eq]; omega
 have hb : Below w.heap.size w (w.alloc (.cells #[.bool s, .slice A n c] 89)) := (Below.refl _ _).alloc (Nat.le_refl _) _
 have HB := Lib.hid hb
 clear hz hb
 go_enter Tryz.func74, Tryz.ntmps74
 go_wp2
 go_ret
 exact ⟨rfl, HB.out⟩
theorem sg_false (X : Nat) : sg false X = X := rfl
theorem sg_true (X : Nat) : sg true X = -(X : Int) := rfl
set_option maxRecDepth 100000 in
theorem ncomp_any (s t : Bool) (A A' : Option Addr) (c c' X Y : Nat) (w : World) (hA : Am w A (glen X) c X) (hB : Am w A' (glen Y) c' Y) (hX : glen X <= 1000) (hY : glen Y <= 1000) (hs : s = true -> 0 < X) (ht : t = true -> 0 < Y) :
   Calls Tryz.prog 111 #[.agg #[.bool s, .slice A (glen X) c], .agg #[.bool t, .slice A' (glen Y) c']] w
     fun e w' => e = .returned (.int .i64 (ordI (sg s X) (sg t Y))) /\ Below w.heap.size w w' := by
 obtain ⟨W, hW⟩ : ∃ W, W = ((w.alloc (.cells #[.bool s, .slice A (glen X) c] 89)).alloc (.cells #[.bool t, .slice A' (glen Y) c'] 89)) := ⟨_, rfl⟩
 have hb : Below w.heap.size w W := by rw [hW]; exact ((Below.refl _ _).alloc (Nat.le_refl _) _).alloc (by simp) _
 have h1 := acomp_any A A' c c' X Y W (hA.below hb) (hB.below hb) hX hY
 have h2 := acomp_any A' A c' c Y X W (hB.below hb) (hA.below hb) hY hX
 have HB := Lib.hid hb
 cases s <;> cases t
 · rw [sg_false, sg_false]
   have H1 := Lib.hid h1
   rw [hW] at H1 HB
   clear h1 h2 hA hB hs ht hb hW
   go_enter Tryz.func111, Tryz.ntmps111
   go_wp2_with fail
   refine H1.out.mono ?_
   rintro e w1 ⟨rfl, k, rfl⟩
   go_wp2_with fail
   go_ret
   exact ⟨rfl, below_drewN HB.out k⟩
 · rw [sg_false, sg_true, ordI_gt (by have := ht rfl; omega)]
   rw [hW] at HB
   clear h1 h2 hA hB hs ht hb hW
   go_enter Tryz.func111, Tryz.ntmps111
   go_wp2_with fail
   go_ret
   exact ⟨rfl, HB.out⟩
 · rw [sg_false, sg_true, ordI_lt (by have := hs rfl; omega)]
   rw [hW] at HB
   clear h1 h2 hA hB hs ht hb hW
   go_enter Tryz.func111, Tryz.ntmps111
   go_wp2_with fail
   go_ret
   exact ⟨rfl, HB.out⟩
 · rw [sg_true, sg_true, show ordI (-(X : Int)) (-(Y : Int)) = ordI Y X from by unfold ordI; split <;> split <;> (try split) <;> (try split) <;> omega]
   have H1 := Lib.hid h2
   rw [hW] at H1 HB
   clear h1 h2 hA hB hs ht hb hW
   go_enter Tryz.func111, Tryz.ntmps111
   go_wp2_with fail
   refine H1.out.mono ?_
   rintro e w1 ⟨rfl, k, rfl⟩
   go_wp2_with fail
   go_ret
   exact ⟨rfl, below_drewN HB.out k⟩
def numW (w : World) (s t : Bool) (A A' : Option Addr) (n c n' c' : Nat) : World :=
 (((w.alloc (.cells #[.bool s, .slice A n c] 89)).alloc (.cells #[.bool t, .slice A' n' c'] 89)).alloc (.cells #[.bool false, .slice none 0 0] 89))
theorem numW_spec (w : World) (s t : Bool) (A A' : Option Addr) (n c n' c' : Nat) :
   Below w.heap.size w (numW w s t A A' n c n' c') /\ (numW w s t A A' n c n' c').heap.size = w.heap.size + 3 ∧
   ∀ W', Below (w.heap.size + 3) (numW w s t A A' n c n' c').drew W' -> W'.cell? ⟨w.heap.size, 0, none⟩ = some (.bool s) /\ W'.cell? ⟨w.heap.size, 1, none⟩ = some (.slice A n c) /\ W'.cell? ⟨w.heap.size + 1, 0, none⟩ = some (.bool t) /\ W'.cell? ⟨w.heap.size + 1, 1, none⟩ = some (.slice A' n' c') ∧
     W'.cell? ⟨w.heap.size + 1 + 1, 0, none⟩ = some (.bool false) /\ W'.cell? ⟨w.heap.size + 1 + 1, 1, none⟩ = some (.slice none 0 0) /\ Blk W' (w.heap.size + 1 + 1) 89 #[.bool false, .slice none 0 0] := by
 unfold numW
 refine ⟨(((Below.refl _ _).alloc (Nat.le_refl _) _).alloc (by simp) _).alloc (by simp; omega) _, by simp, fun W' hW => ?_⟩
 obtain ⟨W, hW0⟩ : ∃ W, W = (((w.alloc (.cells #[.bool s, .slice A n c] 89)).alloc (.cells #[.bool t, .slice A' n' c'] 89)).alloc (.cells #[.bool false, .slice none 0 0] 89)) := ⟨_, rfl⟩
 rw [<- hW0] at hW
 have h1 : ∀ i, W'.cell? ⟨w.heap.size, i, none⟩ = W.cell? ⟨w.heap.size, i, none⟩ := fun i => hW.cell (p := ⟨w.heap.size, i, none⟩) (by simp)
 have h2 : ∀ i, W'.cell? ⟨w.heap.size + 1, i, none⟩ = W.cell? ⟨w.heap.size + 1, i, none⟩ := fun i => hW.cell (p := ⟨w.heap.size + 1, i, none⟩) (by simp)
 have h5 : Blk W (w.heap.size + 1 + 1) 89 #[.bool false, .slice none 0 0] := by
   rw [hW0, show w.heap.size + 1 + 1 = ((w.alloc (.cells #[.bool s, .slice A n c] 89)).alloc (.cells #[.bool t, .slice A' n' c'] 89)).heap.size from by simp]
   exact Blk.new _ _ _
 have h6 := Blk.below (B := w.heap.size + 3) (w' := W') h5.drew hW (by omega)
 rw [h1, h1, h2, h2, hW0]
 refine ⟨?_, ?_, ?_, ?_, h6.cell rfl, h6.cell rfl, h6⟩
 · rw [World.cell?_alloc_past _ _ _ (by simp; omega), World.cell?_alloc_past _ _ _ (by simp), World.cell?_alloc_at _ _ _ _ rfl]; rfl
 · rw [World.cell?_alloc_past _ _ _ (by simp; omega), World.cell?_alloc_past _ _ _ (by simp), World.cell?_alloc_at _ _ _ _ rfl]; rfl
 · rw [World.cell?_alloc_past _ _ _ (by simp), World.cell?_alloc_at _ _ _ _ (by simp)]; rfl
 · rw [World.cell?_alloc_past _ _ _ (by simp), World.cell?_alloc_at _ _ _ _ (by simp)]; rfl
theorem Am.store {w : World} {A A' : Option Addr} {n c V g n' c' : Nat} {t : TypeId} {u : Bool} (h : Am w A n c V) (hB : Blk w g t #[.bool false, .slice none 0 0]) :
   Am ((w.setCell ⟨g, 0, none⟩ (.bool u)).setCell ⟨g, 1, none⟩ (.slice A' n' c')) A n c V := by
 refine ⟨h.1, fun hn => ?_⟩
 obtain ⟨b, o, rfl, hl, hc⟩ := h.2 hn
 have hne : b ≠ g := by
   rintro rfl
   have h1 := hc 0 hn
   have hB2 := hB
   unfold Blk at hB2
   rcases o with _ | _ | o
   · rw [hB.cell (i := 0) rfl] at h1; cases h1
   · rw [hB.cell (i := 1) rfl] at h1; cases h1
   · simp [World.cell?, hB2] at h1
 exact ⟨b, o, rfl, by simpa [World.setCell] using hl, fun i hi => (World.cell?_of_block (w := w.setCell ⟨g, 0, none⟩ (.bool u)) (a := ⟨b, o + i, none⟩) (Below.heap_setCell _ ⟨g, 1, none⟩ _ b hne)).trans ((World.cell?_of_block (w := w) (a := ⟨b, o + i, none⟩) (Below.heap_setCell _ ⟨g, 0, none⟩ _ b hne)).trans (hc i hi))⟩
theorem Blk.two {w : World} {g : Nat} {t : TypeId} {x y u v : Value} (h : Blk w g t #[x, y]) : ((w.setCell ⟨g, 0, none⟩ u).setCell ⟨g, 1, none⟩ v).cell? ⟨g, 0, none⟩ = some u /\ ((w.setCell ⟨g, 0, none⟩ u).setCell ⟨g, 1, none⟩ v).cell? ⟨g, 1, none⟩ = some v := by
 have h2 := (h.set 0 u).set 1 v
 exact ⟨h2.cell rfl, h2.cell rfl⟩
theorem below_undrew {B k : Nat} {w w' : World} (h : Below B (w.drewN k) w') : Below B w.drew w' := ⟨h.os, h.tape, h.output, h.size, h.block⟩
theorem below_undrew0 {B : Nat} {w w' : World} (h : Below B w.drew w') : Below B w.drew w' := h
theorem far_two (w : World) {b b' : Nat} (h : b' ≠ b) (j : Nat) (u v : Value) : ((w.setCell ⟨b, 0, none⟩ u).setCell ⟨b, 1, none⟩ v).cell? ⟨b', j, none⟩ = w.cell? ⟨b', j, none⟩ :=
 (World.cell?_of_block (w := w.setCell ⟨b, 0, none⟩ u) (a := ⟨b', j, none⟩) (Below.heap_setCell _ ⟨b, 1, none⟩ v b' h)).trans (World.cell?_of_block (w := w) (a := ⟨b', j, none⟩) (Below.heap_setCell _ ⟨b, 0, none⟩ u b' h))
set_option maxRecDepth 100000 in
set_option maxHeartbeats 1000000 in
theorem nplus_same (s : Bool) (A A' : Option Addr) (c c' X Y : Nat) (w : World) (hA : Am w A (glen X) c X) (hB : Am w A' (glen Y) c' Y) (hX : glen X <= 500) (hY : glen Y <= 500) :
   Calls Tryz.prog 79 #[.agg #[.bool s, .slice A (glen X) c], .agg #[.bool s, .slice A' (glen Y) c']] w (OutS (sb s (X + Y)) (X + Y) w) := by
 obtain ⟨hb, hsz, hcl⟩ := numW_spec w s s A A' (glen X) c (glen Y) c'
 have hb' := hb
 unfold numW at hb' hsz hcl
 have hc1 := aplus_any A A' c c' X Y _ (hA.below hb'.drew) (hB.below hb'.drew) (by omega) (by omega)
 have HC1 := Lib.hid hc1
 clear hc1
 have HB := Lib.hid hb'.drew; have HK := Lib.hid hcl; have HSZ := Lib.hid hsz
 clear hb hb' hcl hA hB hsz
 have heq : (s == s) = true := by simp
 go_enter Tryz.func79, Tryz.ntmps79
 go_wp2_with fail
 go_region_held3 (fun w' => w'.cell? ⟨w.heap.size, 0, none⟩ = some (.bool s) /\ w'.cell? ⟨w.heap.size, 1, none⟩ = some (.slice A (glen X) c) /\ w'.cell? ⟨w.heap.size + 1, 1, none⟩ = some (.slice A' (glen Y) c'))
   (first | exact ⟨(far_two _ (by omega) _ _ _).trans (HK.out _ (below_undrew0 hb6)).1, (far_two _ (by omega) _ _ _).trans (HK.out _ (below_undrew0 hb6)).2.1, (far_two _ (by omega) _ _ _).trans (HK.out _ (below_undrew0 hb6)).2.2.2.1⟩ | exact ⟨(HK.out _ (below_undrew0 hb6)).1, (HK.out _ (below_undrew0 hb6)).2.1, (HK.out _ (below_undrew0 hb6)).2.2.2.1⟩ | exact ⟨(HK.out _ (below_undrew0 hb4)).1, (HK.out _ (below_undrew0 hb4)).2.1, (HK.out _ (below_undrew0 hb4)).2.2.2.1⟩ | go_keep)
   (first
     | (go_at_call 97; (with_reducible refine HC1.out.mono ?_); rintro e w2 ⟨A2, c2, rfl, hA2, hb2⟩; have hsg := signed_any (s) A2 c2 (X + Y) w2 hA2; have hb4 := (hb2.mono (Nat.le_of_eq HSZ.out.symm)); have hb5 := HB.out.trans (hb2.mono HB.out.size); have HA2 := Lib.hid hA2; clear hA2 hb2; have HC2 := Lib.hid hsg; clear hsg)
     | (go_at_call 73; (with_reducible refine HC2.out.mono ?_); rintro e w3 ⟨rfl, hb3⟩; have hb6 := hb4.trans (hb3.mono (Nat.le_trans (Nat.le_of_eq HSZ.out.symm) hb4.size)); have hb7 := hb5.trans (hb3.mono hb5.size); have HA3 := Lib.hid (HA2.out.below hb3); clear hb3; obtain ⟨-, -, -, -, k0, k1, kb⟩ := HK.out _ (below_undrew0 hb6); have k2 := kb.frozen 0; have k3 := kb.frozen 1))
 rename_i hh
 have HA4 := Lib.hid (HA3.out.store (u := sb (s) (X + Y)) (A' := A2) (n' := glen (X + Y)) (c' := c2) kb)
 have hb9 := Lib.hid ((hb7.setCell (p := ⟨w.heap.size + 1 + 1, 0, none⟩) (by simp; omega) (.bool (sb (s) (X + Y)))).setCell (p := ⟨w.heap.size + 1 + 1, 1, none⟩) (by simp; omega) (.slice A2 (glen (X + Y)) c2))
 obtain ⟨r0, r1⟩ := kb.two (u := .bool (sb (s) (X + Y))) (v := .slice A2 (glen (X + Y)) c2)
 clear hh k0 k1 k2 k3 kb HA3 hb7 hb6 hb5 hb4 HA2 HC2
 go_wp2_with fail
 exact bodyPost_ret (v := .agg #[.bool (sb (s) (X + Y)), .slice A2 (glen (X + Y)) c2]) (by simp [results, Tryz.results79, go_sem, r0, r1]) rfl ⟨A2, c2, rfl, HA4.out, hb9.out⟩
set_option maxRecDepth 100000 in
set_option maxHeartbeats 1000000 in
theorem nplus_less (s t : Bool) (hst : (s == t) = false) (A A' : Option Addr) (c c' X Y : Nat) (w : World) (hA : Am w A (glen X) c X) (hB : Am w A' (glen Y) c' Y) (hX : glen X <= 500) (hY : glen Y <= 500) (hle : X < Y) :
   Calls Tryz.prog 79 #[.agg #[.bool s, .slice A (glen X) c], .agg #[.bool t, .slice A' (glen Y) c']] w (OutS (sb t (Y - X)) (Y - X) w) := by
 obtain ⟨hb, hsz, hcl⟩ := numW_spec w s t A A' (glen X) c (glen Y) c'
 have hb' := hb
 unfold numW at hb' hsz hcl
 have hcm := acomp_any A A' c c' X Y _ (hA.below hb') (hB.below hb') (by omega) (by omega)
 have hc1 := fun k => by
   have hb'' := below_drewN hb' (k + 1)
   exact aminus_any A' A c' c Y X _ (hB.below hb'') (hA.below hb'') (by omega) (by omega)
 rw [ordI_lt (show (X : Int) < Y by omega)] at hcm
 have HCM := Lib.hid hcm
 have HC0 := Lib.hid hc1; have HB0 := Lib.hid hb'
 clear hcm hc1
 have HB := Lib.hid hb'.drew; have HK := Lib.hid hcl; have HSZ := Lib.hid hsz
 clear hb hb' hcl hA hB hsz
 go_enter Tryz.func79, Tryz.ntmps79
 go_wp2_with fail
 refine HCM.out.mono ?_
 rintro e w1 ⟨rfl, k, rfl⟩
 have HC1 := Lib.hid (HC0.out k)
 have HB := Lib.hid (below_drewN HB0.out (k + 1))
 go_wp2_with fail
 go_region_held3 (fun w' => w'.cell? ⟨w.heap.size + 1, 0, none⟩ = some (.bool t) /\ w'.cell? ⟨w.heap.size + 1, 1, none⟩ = some (.slice A' (glen Y) c') /\ w'.cell? ⟨w.heap.size, 1, none⟩ = some (.slice A (glen X) c))
   (first | exact ⟨(far_two _ (by omega) _ _ _).trans (HK.out _ (below_undrew hb6)).2.2.1, (far_two _ (by omega) _ _ _).trans (HK.out _ (below_undrew hb6)).2.2.2.1, (far_two _ (by omega) _ _ _).trans (HK.out _ (below_undrew hb6)).2.1⟩ | exact ⟨(HK.out _ (below_undrew hb6)).2.2.1, (HK.out _ (below_undrew hb6)).2.2.2.1, (HK.out _ (below_undrew hb6)).2.1⟩ | exact ⟨(HK.out _ (below_undrew hb4)).2.2.1, (HK.out _ (below_undrew hb4)).2.2.2.1, (HK.out _ (below_undrew hb4)).2.1⟩ | go_keep)
   (first
     | (go_at_call 99; (with_reducible refine HC1.out.mono ?_); rintro e w2 ⟨A2, c2, rfl, hA2, hb2⟩; have hsg := signed_any (t) A2 c2 (Y - X) w2 hA2; have hb4 := (hb2.mono (Nat.le_of_eq HSZ.out.symm)); have hb5 := HB.out.trans (hb2.mono HB.out.size); have HA2 := Lib.hid hA2; clear hA2 hb2; have HC2 := Lib.hid hsg; clear hsg)
     | (go_at_call 73; (with_reducible refine HC2.out.mono ?_); rintro e w3 ⟨rfl, hb3⟩; have hb6 := hb4.trans (hb3.mono (Nat.le_trans (Nat.le_of_eq HSZ.out.symm) hb4.size)); have hb7 := hb5.trans (hb3.mono hb5.size); have HA3 := Lib.hid (HA2.out.below hb3); clear hb3; obtain ⟨-, -, -, -, k0, k1, kb⟩ := HK.out _ (below_undrew hb6); have k2 := kb.frozen 0; have k3 := kb.frozen 1))
 rename_i hh
 have HA4 := Lib.hid (HA3.out.store (u := sb (t) (Y - X)) (A' := A2) (n' := glen (Y - X)) (c' := c2) kb)
 have hb9 := Lib.hid ((hb7.setCell (p := ⟨w.heap.size + 1 + 1, 0, none⟩) (by simp; omega) (.bool (sb (t) (Y - X)))).setCell (p := ⟨w.heap.size + 1 + 1, 1, none⟩) (by simp; omega) (.slice A2 (glen (Y - X)) c2))
 obtain ⟨r0, r1⟩ := kb.two (u := .bool (sb (t) (Y - X))) (v := .slice A2 (glen (Y - X)) c2)
 clear hh k0 k1 k2 k3 kb HA3 hb7 hb6 hb5 hb4 HA2 HC2
 go_wp2_with fail
 exact bodyPost_ret (v := .agg #[.bool (sb (t) (Y - X)), .slice A2 (glen (Y - X)) c2]) (by simp [results, Tryz.results79, go_sem, r0, r1]) rfl ⟨A2, c2, rfl, HA4.out, hb9.out⟩
set_option maxRecDepth 100000 in
set_option maxHeartbeats 1000000 in
theorem nplus_more (s t : Bool) (hst : (s == t) = false) (A A' : Option Addr) (c c' X Y : Nat) (w : World) (hA : Am w A (glen X) c X) (hB : Am w A' (glen Y) c' Y) (hX : glen X <= 500) (hY : glen Y <= 500) (hle : Y <= X) :
   Calls Tryz.prog 79 #[.agg #[.bool s, .slice A (glen X) c], .agg #[.bool t, .slice A' (glen Y) c']] w (OutS (sb s (X - Y)) (X - Y) w) := by
 obtain ⟨hb, hsz, hcl⟩ := numW_spec w s t A A' (glen X) c (glen Y) c'
 have hb' := hb
 unfold numW at hb' hsz hcl
 have hcm := acomp_any A A' c c' X Y _ (hA.below hb') (hB.below hb') (by omega) (by omega)
 have hc1 := fun k => by
   have hb'' := below_drewN hb' (k + 1)
   exact aminus_any A A' c c' X Y _ (hA.below hb'') (hB.below hb'') (by omega) (by omega)
 have hge : 0 <= ordI (X : Int) (Y : Int) := by unfold ordI; rw [if_neg (by omega)]; split <;> omega
 have HCM := Lib.hid hcm
 have HC0 := Lib.hid hc1; have HB0 := Lib.hid hb'
 clear hcm hc1
 have HB := Lib.hid hb'.drew; have HK := Lib.hid hcl; have HSZ := Lib.hid hsz
 clear hb hb' hcl hA hB hsz
 go_enter Tryz.func79, Tryz.ntmps79
 go_wp2_with fail
 refine HCM.out.mono ?_
 rintro e w1 ⟨rfl, k, rfl⟩
 have HC1 := Lib.hid (HC0.out k)
 have HB := Lib.hid (below_drewN HB0.out (k + 1))
 go_wp2_with fail
 go_region_held3 (fun w' => w'.cell? ⟨w.heap.size, 0, none⟩ = some (.bool s) /\ w'.cell? ⟨w.heap.size, 1, none⟩ = some (.slice A (glen X) c) /\ w'.cell? ⟨w.heap.size + 1, 1, none⟩ = some (.slice A' (glen Y) c'))
   (first | exact ⟨(far_two _ (by omega) _ _ _).trans (HK.out _ (below_undrew hb6)).1, (far_two _ (by omega) _ _ _).trans (HK.out _ (below_undrew hb6)).2.1, (far_two _ (by omega) _ _ _).trans (HK.out _ (below_undrew hb6)).2.2.2.1⟩ | exact ⟨(HK.out _ (below_undrew hb6)).1, (HK.out _ (below_undrew hb6)).2.1, (HK.out _ (below_undrew hb6)).2.2.2.1⟩ | exact ⟨(HK.out _ (below_undrew hb4)).1, (HK.out _ (below_undrew hb4)).2.1, (HK.out _ (below_undrew hb4)).2.2.2.1⟩ | go_keep)
   (first
     | (go_at_call 99; (with_reducible refine HC1.out.mono ?_); rintro e w2 ⟨A2, c2, rfl, hA2, hb2⟩; have hsg := signed_any (s) A2 c2 (X - Y) w2 hA2; have hb4 := (hb2.mono (Nat.le_of_eq HSZ.out.symm)); have hb5 := HB.out.trans (hb2.mono HB.out.size); have HA2 := Lib.hid hA2; clear hA2 hb2; have HC2 := Lib.hid hsg; clear hsg)
     | (go_at_call 73; (with_reducible refine HC2.out.mono ?_); rintro e w3 ⟨rfl, hb3⟩; have hb6 := hb4.trans (hb3.mono (Nat.le_trans (Nat.le_of_eq HSZ.out.symm) hb4.size)); have hb7 := hb5.trans (hb3.mono hb5.size); have HA3 := Lib.hid (HA2.out.below hb3); clear hb3; obtain ⟨-, -, -, -, k0, k1, kb⟩ := HK.out _ (below_undrew hb6); have k2 := kb.frozen 0; have k3 := kb.frozen 1))
 rename_i hh
 have HA4 := Lib.hid (HA3.out.store (u := sb (s) (X - Y)) (A' := A2) (n' := glen (X - Y)) (c' := c2) kb)
 have hb9 := Lib.hid ((hb7.setCell (p := ⟨w.heap.size + 1 + 1, 0, none⟩) (by simp; omega) (.bool (sb (s) (X - Y)))).setCell (p := ⟨w.heap.size + 1 + 1, 1, none⟩) (by simp; omega) (.slice A2 (glen (X - Y)) c2))
 obtain ⟨r0, r1⟩ := kb.two (u := .bool (sb (s) (X - Y))) (v := .slice A2 (glen (X - Y)) c2)
 clear hh k0 k1 k2 k3 kb HA3 hb7 hb6 hb5 hb4 HA2 HC2
 go_wp2_with fail
 exact bodyPost_ret (v := .agg #[.bool (sb (s) (X - Y)), .slice A2 (glen (X - Y)) c2]) (by simp [results, Tryz.results79, go_sem, r0, r1]) rfl ⟨A2, c2, rfl, HA4.out, hb9.out⟩
set_option maxRecDepth 100000 in
set_option maxHeartbeats 1000000 in
theorem ntimes_any (s t u : Bool) (hu : (!(s == t)) = u) (A A' : Option Addr) (c c' X Y : Nat) (w : World) (hA : Am w A (glen X) c X) (hB : Am w A' (glen Y) c' Y) (hX : glen X <= 500) (hY : glen Y <= 500) :
   Calls Tryz.prog 94 #[.agg #[.bool s, .slice A (glen X) c], .agg #[.bool t, .slice A' (glen Y) c']] w (OutS (sb u (X * Y)) (X * Y) w) := by
 obtain ⟨hb, hsz, hcl⟩ := numW_spec w s t A A' (glen X) c (glen Y) c'
 have hb' := hb
 unfold numW at hb' hsz hcl
 have hc1 := atimes_any A A' c c' X Y _ (hA.below hb'.drew) (hB.below hb'.drew) (by omega) (by omega)
 have HC1 := Lib.hid hc1
 clear hc1
 have HB := Lib.hid hb'.drew; have HK := Lib.hid hcl; have HSZ := Lib.hid hsz
 clear hb hb' hcl hA hB hsz
 go_enter Tryz.func94, Tryz.ntmps94
 go_wp2_with fail
 go_region_held3 (fun w' => w'.cell? ⟨w.heap.size, 0, none⟩ = some (.bool s) /\ w'.cell? ⟨w.heap.size, 1, none⟩ = some (.slice A (glen X) c) /\ w'.cell? ⟨w.heap.size + 1, 0, none⟩ = some (.bool t) /\ w'.cell? ⟨w.heap.size + 1, 1, none⟩ = some (.slice A' (glen Y) c'))
   (first | exact ⟨(far_two _ (by omega) _ _ _).trans (HK.out _ (below_undrew0 hb6)).1, (far_two _ (by omega) _ _ _).trans (HK.out _ (below_undrew0 hb6)).2.1, (far_two _ (by omega) _ _ _).trans (HK.out _ (below_undrew0 hb6)).2.2.1, (far_two _ (by omega) _ _ _).trans (HK.out _ (below_undrew0 hb6)).2.2.2.1⟩ | exact ⟨(HK.out _ (below_undrew0 hb6)).1, (HK.out _ (below_undrew0 hb6)).2.1, (HK.out _ (below_undrew0 hb6)).2.2.1, (HK.out _ (below_undrew0 hb6)).2.2.2.1⟩ | exact ⟨(HK.out _ (below_undrew0 hb4)).1, (HK.out _ (below_undrew0 hb4)).2.1, (HK.out _ (below_undrew0 hb4)).2.2.1, (HK.out _ (below_undrew0 hb4)).2.2.2.1⟩ | go_keep)
   (first
     | (go_at_call 106; (with_reducible refine HC1.out.mono ?_); rintro e w2 ⟨A2, c2, rfl, hA2, hb2⟩; have hsg := signed_any (u) A2 c2 (X * Y) w2 hA2; have hb4 := (hb2.mono (Nat.le_of_eq HSZ.out.symm)); have hb5 := HB.out.trans (hb2.mono HB.out.size); have HA2 := Lib.hid hA2; clear hA2 hb2; have HC2 := Lib.hid hsg; clear hsg)
     | (go_at_call 73; (with_reducible refine HC2.out.mono ?_); rintro e w3 ⟨rfl, hb3⟩; have hb6 := hb4.trans (hb3.mono (Nat.le_trans (Nat.le_of_eq HSZ.out.symm) hb4.size)); have hb7 := hb5.trans (hb3.mono hb5.size); have HA3 := Lib.hid (HA2.out.below hb3); clear hb3; obtain ⟨-, -, -, -, k0, k1, kb⟩ := HK.out _ (below_undrew0 hb6); have k2 := kb.frozen 0; have k3 := kb.frozen 1))
 rename_i hh
 have HA4 := Lib.hid (HA3.out.store (u := sb (u) (X * Y)) (A' := A2) (n' := glen (X * Y)) (c' := c2) kb)
 have hb9 := Lib.hid ((hb7.setCell (p := ⟨w.heap.size + 1 + 1, 0, none⟩) (by simp; omega) (.bool (sb (u) (X * Y)))).setCell (p := ⟨w.heap.size + 1 + 1, 1, none⟩) (by simp; omega) (.slice A2 (glen (X * Y)) c2))
 obtain ⟨r0, r1⟩ := kb.two (u := .bool (sb (u) (X * Y))) (v := .slice A2 (glen (X * Y)) c2)
 clear hh k0 k1 k2 k3 kb HA3 hb7 hb6 hb5 hb4 HA2 HC2
 go_wp2_with fail
 exact bodyPost_ret (v := .agg #[.bool (sb (u) (X * Y)), .slice A2 (glen (X * Y)) c2]) (by simp [results, Tryz.results94, go_sem, r0, r1]) rfl ⟨A2, c2, rfl, HA4.out, hb9.out⟩
theorem below_todrew {B : Nat} {w w' : World} (h : Below B w w') : Below B w.drew w' := ⟨h.os, h.tape, h.output, h.size, h.block⟩
def OutZ (z : Int) (w : World) (e : Ending) (w' : World) : Prop := ∃ s X A c, e = .returned (.agg #[.bool s, .slice A (glen X) c]) /\ sg s X = z /\ (s = true -> 0 < X) /\ Am w' A (glen X) c X /\ Below w.heap.size w w'
theorem sg_sb (s : Bool) (V : Nat) : sg (sb s V) V = sg s V := by
 rcases Nat.eq_zero_or_pos V with h | h
 · subst h; cases s <;> rfl
 · cases s with
   | false => rfl
   | true => rw [sb_true h]
theorem sb_pos {s : Bool} {V : Nat} (h : sb s V = true) : 0 < V := by
 rcases Nat.eq_zero_or_pos V with h1 | h1
 · subst h1; rw [sb_zero] at h; cases h
 · exact h1
theorem OutS.z {s : Bool} {V : Nat} {z : Int} {w : World} {e : Ending} {w' : World} (h : OutS (sb s V) V w e w') (hz : sg s V = z) : OutZ z w e w' := by
 obtain ⟨A, c, rfl, hA, hb⟩ := h
 exact ⟨_, _, A, c, rfl, by rw [sg_sb, hz], sb_pos, hA, hb⟩
section
variable (s t : Bool) (A A' : Option Addr) (c c' X Y : Nat) (w : World) (hA : Am w A (glen X) c X) (hB : Am w A' (glen Y) c' Y) (hX : glen X <= 500) (hY : glen Y <= 500)
include hA hB hX hY
theorem nplus_any : Calls Tryz.prog 79 #[.agg #[.bool s, .slice A (glen X) c], .agg #[.bool t, .slice A' (glen Y) c']] w (OutZ (sg s X + sg t Y) w) := by
 by_cases hst : s = t
 · subst hst
   refine (nplus_same s A A' c c' X Y w hA hB hX hY).mono fun e w' h => h.z ?_
   cases s <;> simp [sg] <;> omega
 · have h : (s == t) = false := by simpa using hst
   rcases Nat.lt_or_ge X Y with hl | hl
   · refine (nplus_less s t h A A' c c' X Y w hA hB hX hY hl).mono fun e w' h => h.z ?_
     cases s <;> cases t <;> simp [sg] at * <;> omega
   · refine (nplus_more s t h A A' c c' X Y w hA hB hX hY hl).mono fun e w' h => h.z ?_
     cases s <;> cases t <;> simp [sg] at * <;> omega
theorem ntimes_z : Calls Tryz.prog 94 #[.agg #[.bool s, .slice A (glen X) c], .agg #[.bool t, .slice A' (glen Y) c']] w (OutZ (sg s X * sg t Y) w) := by
 refine (ntimes_any s t _ rfl A A' c c' X Y w hA hB hX hY).mono fun e w' h => h.z ?_
 cases s <;> cases t <;> simp [sg, Int.natCast_mul, Int.neg_mul, Int.mul_neg]
set_option maxRecDepth 100000 in
set_option maxHeartbeats 1000000 in
theorem nminus_any : Calls Tryz.prog 112 #[.agg #[.bool s, .slice A (glen X) c], .agg #[.bool t, .slice A' (glen Y) c']] w (OutZ (sg s X - sg t Y) w) := by
 obtain ⟨hb, hsz, hcl⟩ := numW_spec w s t A A' (glen X) c (glen Y) c'
 have hb' := hb
 unfold numW at hb' hsz hcl
 obtain ⟨u, hu⟩ : ∃ u, u = !t := ⟨_, rfl⟩
 have hsg := signed_any u A' c' Y _ (hB.below hb'.drew)
 have hz : sg s X - sg t Y = sg s X + sg (sb u Y) Y := by rw [sg_sb, hu]; cases t <;> simp [sg] <;> omega
 have hpl : ∀ w2, Below w.heap.size w w2 -> Calls Tryz.prog 79 #[.agg #[.bool s, .slice A (glen X) c], .agg #[.bool (sb u Y), .slice A' (glen Y) c']] w2 (OutZ (sg s X + sg (sb u Y) Y) w2) :=
   fun w2 h2 => nplus_any s (sb u Y) A A' c c' X Y w2 (hA.below h2) (hB.below h2) hX hY
 rw [hz]
 have hu' : (!t) = u := hu.symm
 have HC1 := Lib.hid hsg; have HPL := Lib.hid hpl
 have HB := Lib.hid hb'.drew; have HK := Lib.hid hcl; have HSZ := Lib.hid hsz
 clear hb hb' hcl hA hB hsz hsg hpl hz hu
 go_enter Tryz.func112, Tryz.ntmps112
 go_wp2_with fail
 go_region_held3 (fun w' => w'.cell? ⟨w.heap.size, 0, none⟩ = some (.bool s) /\ w'.cell? ⟨w.heap.size, 1, none⟩ = some (.slice A (glen X) c) /\ w'.cell? ⟨w.heap.size + 1, 0, none⟩ = some (.bool t) /\ w'.cell? ⟨w.heap.size + 1, 1, none⟩ = some (.slice A' (glen Y) c'))
   (first | exact ⟨(far_two _ (by omega) _ _ _).trans (HK.out _ hb6).1, (far_two _ (by omega) _ _ _).trans (HK.out _ hb6).2.1, (far_two _ (by omega) _ _ _).trans (HK.out _ hb6).2.2.1, (far_two _ (by omega) _ _ _).trans (HK.out _ hb6).2.2.2.1⟩ | exact ⟨(HK.out _ hb6).1, (HK.out _ hb6).2.1, (HK.out _ hb6).2.2.1, (HK.out _ hb6).2.2.2.1⟩ | exact ⟨(HK.out _ hb4).1, (HK.out _ hb4).2.1, (HK.out _ hb4).2.2.1, (HK.out _ hb4).2.2.2.1⟩ | go_keep)
   (first
     | (go_at_call 73; (with_reducible refine HC1.out.mono ?_); rintro e w2 ⟨rfl, hb2⟩; have hb4 := (hb2.mono (Nat.le_of_eq HSZ.out.symm)); have hb5 := HB.out.trans (hb2.mono HB.out.size); have HC2 := Lib.hid (HPL.out w2 hb5); clear hb2)
     | (go_at_call 79; (with_reducible refine HC2.out.mono ?_); rintro e w3 ⟨s3, V, A2, c2, rfl, hz3, hs3, hA3, hb3⟩; have hb6 := hb4.trans (hb3.mono (Nat.le_trans (Nat.le_of_eq HSZ.out.symm) hb4.size)); have hb7 := hb5.trans (hb3.mono hb5.size); have HA3 := Lib.hid hA3; have HZ3 := Lib.hid hz3; have HS3 := Lib.hid hs3; clear hb3 hA3 hz3 hs3; obtain ⟨-, -, -, -, k0, k1, kb⟩ := HK.out _ hb6; have k2 := kb.frozen 0; have k3 := kb.frozen 1))
 rename_i hh
 have HA4 := Lib.hid (HA3.out.store (u := s3) (A' := A2) (n' := glen V) (c' := c2) kb)
 have hb9 := Lib.hid ((hb7.setCell (p := ⟨w.heap.size + 1 + 1, 0, none⟩) (by simp; omega) (.bool s3)).setCell (p := ⟨w.heap.size + 1 + 1, 1, none⟩) (by simp; omega) (.slice A2 (glen V) c2))
 obtain ⟨r0, r1⟩ := kb.two (u := .bool s3) (v := .slice A2 (glen V) c2)
 clear hh k0 k1 k2 k3 kb HA3 hb7 hb6 hb5 hb4 HC2
 go_wp2_with fail
 exact bodyPost_ret (v := .agg #[.bool s3, .slice A2 (glen V) c2]) (by simp [results, Tryz.results112, go_sem, r0, r1]) rfl ⟨s3, V, A2, c2, rfl, HZ3.out, HS3.out, HA4.out, hb9.out⟩
set_option maxRecDepth 100000 in
set_option maxHeartbeats 1000000 in
theorem ngcd_any : Calls Tryz.prog 104 #[.agg #[.bool s, .slice A (glen X) c], .agg #[.bool t, .slice A' (glen Y) c']] w (OutZ (Nat.gcd X Y : Nat) w) := by
 obtain ⟨hb, hsz, hcl⟩ := numW_spec w s t A A' (glen X) c (glen Y) c'
 have hb' := hb
 unfold numW at hb' hsz hcl
 have hgc := agcd_any A A' c c' X Y _ (hA.below hb') (hB.below hb') (by omega) (by omega)
 have HC1 := Lib.hid hgc
 have HB := Lib.hid hb'; have HK := Lib.hid hcl; have HSZ := Lib.hid hsz
 clear hb hb' hcl hA hB hsz hgc
 go_enter Tryz.func104, Tryz.ntmps104
 go_wp2_with fail
 refine HC1.out.mono ?_
 rintro e w2 ⟨A2, c2, rfl, hA2, hb2⟩
 have hb4 := (hb2.mono (Nat.le_of_eq HSZ.out.symm))
 have hb5 := HB.out.trans (hb2.mono HB.out.size)
 have hsg := signed_any false A2 c2 (Nat.gcd X Y) w2 hA2
 have HC2 := Lib.hid hsg; have HA2 := Lib.hid hA2
 clear hsg hA2 hb2
 go_wp2_with fail
 refine HC2.out.mono ?_
 rintro e w3 ⟨rfl, hb3⟩
 have hb6 := hb4.trans (hb3.mono (Nat.le_trans (Nat.le_of_eq HSZ.out.symm) hb4.size))
 have hb7 := hb5.trans (hb3.mono hb5.size)
 have HA3 := Lib.hid (HA2.out.below hb3)
 obtain ⟨-, -, -, -, k0, k1, kb⟩ := HK.out _ (below_todrew hb6)
 have k2 := kb.frozen 0; have k3 := kb.frozen 1
 have HA4 := Lib.hid (HA3.out.store (u := sb false (Nat.gcd X Y)) (A' := A2) (n' := glen (Nat.gcd X Y)) (c' := c2) kb)
 have hb9 := Lib.hid ((hb7.setCell (p := ⟨w.heap.size + 1 + 1, 0, none⟩) (by simp; omega) (.bool (sb false (Nat.gcd X Y)))).setCell (p := ⟨w.heap.size + 1 + 1, 1, none⟩) (by simp; omega) (.slice A2 (glen (Nat.gcd X Y)) c2))
 obtain ⟨r0, r1⟩ := kb.two (u := .bool (sb false (Nat.gcd X Y))) (v := .slice A2 (glen (Nat.gcd X Y)) c2)
 clear kb HA3 hb7 hb6 hb5 hb4 hb3 HC2 HA2
 go_wp2_with fail
 exact bodyPost_ret (v := .agg #[.bool (sb false (Nat.gcd X Y)), .slice A2 (glen (Nat.gcd X Y)) c2]) (by simp [results, Tryz.results104, go_sem, r0, r1]) rfl ⟨sb false (Nat.gcd X Y), Nat.gcd X Y, A2, c2, rfl, by rw [sg_sb]; rfl, sb_pos, HA4.out, hb9.out⟩
end
def OutD (x y : Int) (w : World) (e : Ending) (w' : World) : Prop :=
 ∃ s Q A c R A' c', e = .returned (.tuple #[.agg #[.bool s, .slice A (glen Q) c], .agg #[.bool false, .slice A' (glen R) c']]) /\ sg s Q = x / y /\ (s = true -> 0 < Q) /\ (R : Int) = x % y /\ Am w' A (glen Q) c Q /\ Am w' A' (glen R) c' R /\ Below w.heap.size w w'
theorem sg_div0 (s t : Bool) (X Y : Nat) (hY : 0 < Y) (h : s = true -> X % Y = 0) : sg (sb (!(s == t)) (X / Y)) (X / Y) = sg s X / sg t Y /\ ((X % Y : Nat) : Int) = sg s X % sg t Y := by
 rw [sg_sb]
 have h1 := Nat.div_add_mod X Y
 have e : (X : Int) = (Y : Int) * (X / Y : Nat) + (X % Y : Nat) := by exact_mod_cast h1.symm
 have hp : (0 : Int) < Y := by omega
 have hq := Int.natCast_ediv X Y
 have hr := Int.natCast_emod X Y
 cases s <;> cases t
 · simp [sg]
 · simp [sg]
 · have h0 := h rfl
   have hd : (Y : Int) ∣ X := by rw [Int.natCast_dvd_natCast]; exact Nat.dvd_of_mod_eq_zero h0
   simp [sg]
   rw [Int.neg_ediv_of_dvd hd, Int.neg_emod_eq_sub_emod]
   refine ⟨rfl, ?_⟩
   rw [h0] at hr
   have : (X : Int) % Y = 0 := by omega
   obtain ⟨k, hk⟩ := hd
   rw [hk, Int.mul_emod_right, <- Int.mul_one (Y : Int), Int.mul_assoc, <- Int.mul_sub]
   simp
 · have h0 := h rfl
   have hd : (Y : Int) ∣ X := by rw [Int.natCast_dvd_natCast]; exact Nat.dvd_of_mod_eq_zero h0
   simp [sg]
   rw [Int.neg_ediv_of_dvd hd]
   have : (X : Int) % Y = 0 := by rw [h0] at hr; omega
   obtain ⟨k, hk⟩ := hd
   refine ⟨by omega, ?_⟩
   rw [this, hk]
   rw [show -((Y : Int) * k) = Y * (-k) from (Int.mul_neg _ _).symm, Int.mul_emod_right]
theorem sg_div1 (t : Bool) (X Y : Nat) (hY : 0 < Y) (h : 0 < X % Y) : sg (sb (!(true == t)) (X / Y + 1)) (X / Y + 1) = sg true X / sg t Y /\ ((Y - X % Y : Nat) : Int) = sg true X % sg t Y := by
 rw [sg_sb]
 have h1 := Nat.div_add_mod X Y
 have h2 := Nat.mod_lt X hY
 have hp : (0 : Int) < Y := by omega
 have hu : -(X : Int) / Y = -((X / Y : Nat) + 1 : Int) /\ -(X : Int) % Y = ((Y - X % Y : Nat) : Int) := by
   rw [Int.ediv_emod_unique hp]
   refine ⟨?_, by omega, by omega⟩
   have e : (X : Int) = (Y : Int) * (X / Y : Nat) + (X % Y : Nat) := by exact_mod_cast h1.symm
   have e2 : ((Y - X % Y : Nat) : Int) = Y - (X % Y : Nat) := by omega
   rw [e2, Int.mul_neg, Int.mul_add, Int.mul_one]
   omega
 cases t
 · simp only [sg, if_true]
   refine ⟨?_, ?_⟩
   · simp; rw [hu.1]; simp
   · simp; rw [hu.2]
 · refine ⟨?_, ?_⟩
   · simp [sg]; rw [hu.1]; simp
   · simp [sg]; rw [hu.2]
theorem numW4_spec (w : World) (s t : Bool) (A A' : Option Addr) (n c n' c' : Nat) (W : World)
   (hW : W = ((((w.alloc (.cells #[.bool s, .slice A n c] 89)).alloc (.cells #[.bool t, .slice A' n' c'] 89)).alloc (.cells #[.bool false, .slice none 0 0] 89)).alloc (.cells #[.bool false, .slice none 0 0] 89))) :
   Below w.heap.size w W /\ W.heap.size = w.heap.size + 4 ∧
   ∀ W', Below (w.heap.size + 4) W W' -> W'.cell? ⟨w.heap.size, 0, none⟩ = some (.bool s) /\ W'.cell? ⟨w.heap.size + 1, 0, none⟩ = some (.bool t) /\ W'.cell? ⟨w.heap.size + 1, 1, none⟩ = some (.slice A' n' c') ∧
     Blk W' (w.heap.size + 1 + 1) 89 #[.bool false, .slice none 0 0] /\ Blk W' (w.heap.size + 1 + 1 + 1) 89 #[.bool false, .slice none 0 0] := by
 subst hW
 refine ⟨((((Below.refl _ _).alloc (Nat.le_refl _) _).alloc (by simp) _).alloc (by simp; omega) _).alloc (by simp; omega) _, by simp, fun W' hb => ?_⟩
 have b0 : Blk W' w.heap.size 89 #[.bool s, .slice A n c] := ((((Blk.new w _ _).alloc _).alloc _).alloc _).below hb (by omega)
 have b1 : Blk W' (w.heap.size + 1) 89 #[.bool t, .slice A' n' c'] := by
   have h := Blk.new (w.alloc (.cells #[.bool s, .slice A n c] 89)) 89 #[.bool t, .slice A' n' c']
   rw [show (w.alloc (.cells #[.bool s, .slice A n c] 89)).heap.size = w.heap.size + 1 from by simp] at h
   exact ((h.alloc _).alloc _).below hb (by omega)
 have b2 : Blk W' (w.heap.size + 1 + 1) 89 #[.bool false, .slice none 0 0] := by
   have h := Blk.new ((w.alloc (.cells #[.bool s, .slice A n c] 89)).alloc (.cells #[.bool t, .slice A' n' c'] 89)) 89 #[.bool false, .slice none 0 0]
   rw [show ((w.alloc (.cells #[.bool s, .slice A n c] 89)).alloc (.cells #[.bool t, .slice A' n' c'] 89)).heap.size = w.heap.size + 1 + 1 from by simp] at h
   exact (h.alloc _).below hb (by omega)
 have b3 : Blk W' (w.heap.size + 1 + 1 + 1) 89 #[.bool false, .slice none 0 0] := by
   have h := Blk.new (((w.alloc (.cells #[.bool s, .slice A n c] 89)).alloc (.cells #[.bool t, .slice A' n' c'] 89)).alloc (.cells #[.bool false, .slice none 0 0] 89)) 89 #[.bool false, .slice none 0 0]
   rw [show (((w.alloc (.cells #[.bool s, .slice A n c] 89)).alloc (.cells #[.bool t, .slice A' n' c'] 89)).alloc (.cells #[.bool false, .slice none 0 0] 89)).heap.size = w.heap.size + 1 + 1 + 1 from by simp] at h
   exact h.below hb (by omega)
 exact ⟨b0.cell rfl, b1.cell rfl, b1.cell rfl, b2, b3⟩
theorem Blk.far_two {w : World} {g b : Nat} {t : TypeId} {cs : Array Value} (h : Blk w g t cs) (hne : g ≠ b) (u v : Value) : Blk ((w.setCell ⟨b, 0, none⟩ u).setCell ⟨b, 1, none⟩ v) g t cs := (h.far (p := ⟨b, 0, none⟩) hne u).far (p := ⟨b, 1, none⟩) hne v
set_option maxRecDepth 100000 in
set_option maxHeartbeats 2000000 in
theorem ndiv_any (s t : Bool) (A A' : Option Addr) (c c' X Y : Nat) (w : World) (hA : Am w A (glen X) c X) (hB : Am w A' (glen Y) c' Y) (hX : glen X <= 500) (hY : glen Y <= 500) (hY0 : 0 < Y) :
   Calls Tryz.prog 114 #[.agg #[.bool s, .slice A (glen X) c], .agg #[.bool t, .slice A' (glen Y) c']] w (OutD (sg s X) (sg t Y) w) := by
 obtain ⟨W, hW⟩ : ∃ W, W = ((((w.alloc (.cells #[.bool s, .slice A (glen X) c] 89)).alloc (.cells #[.bool t, .slice A' (glen Y) c'] 89)).alloc (.cells #[.bool false, .slice none 0 0] 89)).alloc (.cells #[.bool false, .slice none 0 0] 89)) := ⟨_, rfl⟩
 obtain ⟨hb, hsz, hcl⟩ := numW4_spec w s t A A' (glen X) c (glen Y) c' W hW
 have hdv := adiv_any A A' c c' X Y W (hA.below hb) (hB.below hb) (by omega) (by omega) hY0
 have HC1 := Lib.hid hdv
 have HB := Lib.hid hb; have HK := Lib.hid hcl; have HSZ := Lib.hid hsz
 have HBB := Lib.hid hB
 rw [hW] at HC1
 have HW := Lib.hid hW
 clear hb hcl hA hB hsz hdv hW
 have d0 := sg_div0 s t X Y hY0
 have d1 := sg_div1 t X Y hY0
 have HY0 := Lib.hid hY0
 have hlt := Lib.hid (Nat.mod_lt X hY0)
 have hgq : glen (X / Y) <= 500 := Nat.le_trans (glen_mono (Nat.div_le_self _ _)) hX
 obtain ⟨Q, hQ⟩ : ∃ Q, Q = X / Y := ⟨_, rfl⟩
 obtain ⟨R, hR⟩ : ∃ R, R = X % Y := ⟨_, rfl⟩
 unfold OutQ at HC1
 rw [<- hQ, <- hR] at d0 d1 HC1
 rw [<- hQ] at hgq
 rw [<- hR] at hlt
 have HD0 := Lib.hid d0; have HD1 := Lib.hid d1
 clear d0 d1 hQ hR hY0
 go_enter Tryz.func114, Tryz.ntmps114
 go_wp2_with fail
 refine HC1.out.mono ?_
 rintro e w2 ⟨A1, c1, A2, c2, rfl, hA1, hA2, hb2⟩
 rw [<- HW.out] at hb2
 have hb4 := (hb2.mono (Nat.le_of_eq HSZ.out.symm))
 have hb5 := HB.out.trans (hb2.mono HB.out.size)
 obtain ⟨k0, k1, k2, -, -⟩ := HK.out _ hb4
 have HA1 := Lib.hid hA1; have HA2 := Lib.hid hA2; have HB4 := Lib.hid hb4; have HB5 := Lib.hid hb5
 clear hA1 hA2 hb2 hb4 hb5
 by_cases hn : s = true /\ 0 < R
 · obtain ⟨rfl, hR0⟩ := hn
   have hg0 := glen_pos hR0
   have hi0 : (0 : Int) < ((glen R : Nat) : Int) := by omega
   have hw3 : Below w2.heap.size w2 (w2.alloc (.cells #[.int .i64 1] 3)).drew := ((Below.refl _ _).alloc (Nat.le_refl _) _).drew
   have h1 := Am.one w2 1 (by omega)
   rw [show ((1 : Nat) : Int) = 1 from rfl] at h1
   have hpl := aplus_any A1 (some ⟨w2.heap.size, 0, none⟩) c1 1 Q 1 (w2.alloc (.cells #[.int .i64 1] 3)).drew (HA1.out.below hw3) (by rw [show glen 1 = 1 from glen_eq (by omega) (.inr (by decide))]; exact h1.drew) (by omega) (by rw [show glen 1 = 1 from glen_eq (by omega) (.inr (by decide))]; omega)
   rw [show glen 1 = 1 from glen_eq (by omega) (.inr (by decide))] at hpl
   have HC4 := Lib.hid hpl; have HW3 := Lib.hid hw3
   have HR0 := Lib.hid hR0
   clear hpl hw3 h1 hR0
   go_wp2_with fail
   go_region_held3 (fun w' => w'.cell? ⟨w.heap.size + 1, 1, none⟩ = some (.slice A' (glen Y) c'))
     (first | exact (HK.out _ hx4).2.2.1 | exact (HK.out _ hx3).2.2.1 | go_keep)
     (first
       | (go_at_call 97; (with_reducible refine HC4.out.mono ?_); rintro e w3 ⟨A3, c3, rfl, hA3, hb3⟩; have hx3 := HB4.out.trans ((HW3.out.trans (hb3.mono HW3.out.size)).mono (by have := HB4.out.size; have := HSZ.out; omega)); have hx5 := HB5.out.trans ((HW3.out.trans (hb3.mono HW3.out.size)).mono HB5.out.size); have HA2b := Lib.hid ((HA2.out.below HW3.out).below hb3); have hmi := aminus_any A' A2 c' c2 Y R w3 (HBB.out.below hx5) HA2b.out (by omega) (Nat.le_of_lt hlt.out); have HC5 := Lib.hid hmi; have HA3a := Lib.hid hA3; clear hmi hb3 hA3)
       | (go_at_call 99; (with_reducible refine HC5.out.mono ?_); rintro e w4x ⟨A4, c4, rfl, hA4, hb4⟩; have hx4 := hx3.trans (hb4.mono (by have := hx3.size; have := HSZ.out; omega)); have hx6 := hx5.trans (hb4.mono hx5.size); have HA4 := Lib.hid hA4; have HA3 := Lib.hid (HA3a.out.below hb4); clear hb4 hA4))
   all_goals
     rename_i hh
     clear hh
     have HX4 := Lib.hid hx4; have HX5 := Lib.hid hx6
     obtain ⟨k0', k1', k2', -, -⟩ := HK.out _ hx4
     clear hx3 hx4 hx5 hx6 k0 k1 k2
     cases t
     · have hs1 := signed_any true A3 c3 (Q + 1) w4x HA3.out
       have HC2 := Lib.hid hs1
       clear hs1
       go_wp2_with fail
       refine HC2.out.mono ?_
       rintro e w4 ⟨rfl, hb3⟩
       have hb6 := HX4.out.trans (hb3.mono (by have := HX4.out.size; have := HSZ.out; omega))
       have hb7 := HX5.out.trans (hb3.mono HX5.out.size)
       have HA5 := Lib.hid (HA3.out.below hb3); have HA6 := Lib.hid (HA4.out.below hb3)
       have hs2 := signed_any false A4 c4 (Y - R) w4 HA6.out
       rw [sb_false] at hs2
       have HC3 := Lib.hid hs2; have HB6 := Lib.hid hb6; have HB7 := Lib.hid hb7
       clear hs2 hb3 hb6 hb7
       go_wp2_with fail
       refine HC3.out.mono ?_
       rintro e w5 ⟨rfl, hb8⟩
       have hb9 := HB6.out.trans (hb8.mono (by have := HB6.out.size; have := HSZ.out; omega))
       have hb10 := HB7.out.trans (hb8.mono HB7.out.size)
       have HA7 := Lib.hid (HA5.out.below hb8); have HA8 := Lib.hid (HA6.out.below hb8)
       obtain ⟨-, -, -, B2, B3⟩ := HK.out _ hb9
       have x0 := B2.cell (i := 0) rfl; have x1 := B2.cell (i := 1) rfl; have x2 := B2.frozen 0; have x3 := B2.frozen 1
       have B3' := B3.far_two (b := w.heap.size + 1 + 1) (by omega) (.bool (sb true (Q + 1))) (.slice A3 (glen (Q + 1)) c3)
       have y0 := B3'.cell (i := 0) rfl; have y1 := B3'.cell (i := 1) rfl; have y2 := B3'.frozen 0; have y3 := B3'.frozen 1
       have B2' := ((B2.set 0 (.bool (sb true (Q + 1)))).set 1 (.slice A3 (glen (Q + 1)) c3)).far_two (b := w.heap.size + 1 + 1 + 1) (by omega) (.bool false) (.slice A4 (glen (Y - R)) c4)
       have z0 := B2'.cell (i := 0) rfl; have z1 := B2'.cell (i := 1) rfl
       obtain ⟨z2, z3⟩ := B3'.two (u := .bool false) (v := .slice A4 (glen (Y - R)) c4)
       have HA9 := Lib.hid ((HA7.out.store (u := sb true (Q + 1)) (A' := A3) (n' := glen (Q + 1)) (c' := c3) B2).store (u := false) (A' := A4) (n' := glen (Y - R)) (c' := c4) B3')
       have HA10 := Lib.hid ((HA8.out.store (u := sb true (Q + 1)) (A' := A3) (n' := glen (Q + 1)) (c' := c3) B2).store (u := false) (A' := A4) (n' := glen (Y - R)) (c' := c4) B3')
       have HB11 := Lib.hid ((((hb10.setCell (p := ⟨w.heap.size + 1 + 1, 0, none⟩) (by simp; omega) (.bool (sb true (Q + 1)))).setCell (p := ⟨w.heap.size + 1 + 1, 1, none⟩) (by simp; omega) (.slice A3 (glen (Q + 1)) c3)).setCell (p := ⟨w.heap.size + 1 + 1 + 1, 0, none⟩) (by simp; omega) (.bool false)).setCell (p := ⟨w.heap.size + 1 + 1 + 1, 1, none⟩) (by simp; omega) (.slice A4 (glen (Y - R)) c4))
       clear B2 B3 B3' B2' HA7 HA8 hb8 hb9 hb10 HC3 HB6 HB7 HA5 HA6 HC2
       go_wp2_with fail
       exact bodyPost_ret (v := .tuple #[.agg #[.bool (sb true (Q + 1)), .slice A3 (glen (Q + 1)) c3], .agg #[.bool false, .slice A4 (glen (Y - R)) c4]]) (by simp [results, Tryz.results114, go_sem, z0, z1, z2, z3]) rfl ⟨_, _, _, _, _, _, _, rfl, (HD1.out HR0.out).1, sb_pos, (HD1.out HR0.out).2, HA9.out, HA10.out, HB11.out⟩
     · have hs1 := signed_any false A3 c3 (Q + 1) w4x HA3.out
       have HC2 := Lib.hid hs1
       clear hs1
       go_wp2_with fail
       refine HC2.out.mono ?_
       rintro e w4 ⟨rfl, hb3⟩
       have hb6 := HX4.out.trans (hb3.mono (by have := HX4.out.size; have := HSZ.out; omega))
       have hb7 := HX5.out.trans (hb3.mono HX5.out.size)
       have HA5 := Lib.hid (HA3.out.below hb3); have HA6 := Lib.hid (HA4.out.below hb3)
       have hs2 := signed_any false A4 c4 (Y - R) w4 HA6.out
       rw [sb_false] at hs2
       have HC3 := Lib.hid hs2; have HB6 := Lib.hid hb6; have HB7 := Lib.hid hb7
       clear hs2 hb3 hb6 hb7
       go_wp2_with fail
       refine HC3.out.mono ?_
       rintro e w5 ⟨rfl, hb8⟩
       have hb9 := HB6.out.trans (hb8.mono (by have := HB6.out.size; have := HSZ.out; omega))
       have hb10 := HB7.out.trans (hb8.mono HB7.out.size)
       have HA7 := Lib.hid (HA5.out.below hb8); have HA8 := Lib.hid (HA6.out.below hb8)
       obtain ⟨-, -, -, B2, B3⟩ := HK.out _ hb9
       have x0 := B2.cell (i := 0) rfl; have x1 := B2.cell (i := 1) rfl; have x2 := B2.frozen 0; have x3 := B2.frozen 1
       have B3' := B3.far_two (b := w.heap.size + 1 + 1) (by omega) (.bool (sb false (Q + 1))) (.slice A3 (glen (Q + 1)) c3)
       have y0 := B3'.cell (i := 0) rfl; have y1 := B3'.cell (i := 1) rfl; have y2 := B3'.frozen 0; have y3 := B3'.frozen 1
       have B2' := ((B2.set 0 (.bool (sb false (Q + 1)))).set 1 (.slice A3 (glen (Q + 1)) c3)).far_two (b := w.heap.size + 1 + 1 + 1) (by omega) (.bool false) (.slice A4 (glen (Y - R)) c4)
       have z0 := B2'.cell (i := 0) rfl; have z1 := B2'.cell (i := 1) rfl
       obtain ⟨z2, z3⟩ := B3'.two (u := .bool false) (v := .slice A4 (glen (Y - R)) c4)
       have HA9 := Lib.hid ((HA7.out.store (u := sb false (Q + 1)) (A' := A3) (n' := glen (Q + 1)) (c' := c3) B2).store (u := false) (A' := A4) (n' := glen (Y - R)) (c' := c4) B3')
       have HA10 := Lib.hid ((HA8.out.store (u := sb false (Q + 1)) (A' := A3) (n' := glen (Q + 1)) (c' := c3) B2).store (u := false) (A' := A4) (n' := glen (Y - R)) (c' := c4) B3')
       have HB11 := Lib.hid ((((hb10.setCell (p := ⟨w.heap.size + 1 + 1, 0, none⟩) (by simp; omega) (.bool (sb false (Q + 1)))).setCell (p := ⟨w.heap.size + 1 + 1, 1, none⟩) (by simp; omega) (.slice A3 (glen (Q + 1)) c3)).setCell (p := ⟨w.heap.size + 1 + 1 + 1, 0, none⟩) (by simp; omega) (.bool false)).setCell (p := ⟨w.heap.size + 1 + 1 + 1, 1, none⟩) (by simp; omega) (.slice A4 (glen (Y - R)) c4))
       clear B2 B3 B3' B2' HA7 HA8 hb8 hb9 hb10 HC3 HB6 HB7 HA5 HA6 HC2
       go_wp2_with fail
       exact bodyPost_ret (v := .tuple #[.agg #[.bool (sb false (Q + 1)), .slice A3 (glen (Q + 1)) c3], .agg #[.bool false, .slice A4 (glen (Y - R)) c4]]) (by simp [results, Tryz.results114, go_sem, z0, z1, z2, z3]) rfl ⟨_, _, _, _, _, _, _, rfl, (HD1.out HR0.out).1, sb_pos, (HD1.out HR0.out).2, HA9.out, HA10.out, HB11.out⟩
 · have hn2 : (s = false) ∨ (s = true /\ R = 0) := by
     cases s
     · exact .inl rfl
     · exact .inr ⟨rfl, by have : ¬ 0 < R := fun h => hn ⟨rfl, h⟩; omega⟩
   clear hn
   rcases hn2 with rfl | ⟨rfl, hR0⟩
   · cases t
     · have hs1 := signed_any false A1 c1 (Q) w2 HA1.out
       have HC2 := Lib.hid hs1
       clear hs1
       go_wp2_with fail
       refine HC2.out.mono ?_
       rintro e w4 ⟨rfl, hb3⟩
       have hb6 := HB4.out.trans (hb3.mono (by have := HB4.out.size; have := HSZ.out; omega))
       have hb7 := HB5.out.trans (hb3.mono HB5.out.size)
       have HA5 := Lib.hid (HA1.out.below hb3); have HA6 := Lib.hid (HA2.out.below hb3)
       have hs2 := signed_any false A2 c2 (R) w4 HA6.out
       rw [sb_false] at hs2
       have HC3 := Lib.hid hs2; have HB6 := Lib.hid hb6; have HB7 := Lib.hid hb7
       clear hs2 hb3 hb6 hb7
       go_wp2_with fail
       refine HC3.out.mono ?_
       rintro e w5 ⟨rfl, hb8⟩
       have hb9 := HB6.out.trans (hb8.mono (by have := HB6.out.size; have := HSZ.out; omega))
       have hb10 := HB7.out.trans (hb8.mono HB7.out.size)
       have HA7 := Lib.hid (HA5.out.below hb8); have HA8 := Lib.hid (HA6.out.below hb8)
       obtain ⟨-, -, -, B2, B3⟩ := HK.out _ hb9
       have x0 := B2.cell (i := 0) rfl; have x1 := B2.cell (i := 1) rfl; have x2 := B2.frozen 0; have x3 := B2.frozen 1
       have B3' := B3.far_two (b := w.heap.size + 1 + 1) (by omega) (.bool (sb false (Q))) (.slice A1 (glen (Q)) c1)
       have y0 := B3'.cell (i := 0) rfl; have y1 := B3'.cell (i := 1) rfl; have y2 := B3'.frozen 0; have y3 := B3'.frozen 1
       have B2' := ((B2.set 0 (.bool (sb false (Q)))).set 1 (.slice A1 (glen (Q)) c1)).far_two (b := w.heap.size + 1 + 1 + 1) (by omega) (.bool false) (.slice A2 (glen (R)) c2)
       have z0 := B2'.cell (i := 0) rfl; have z1 := B2'.cell (i := 1) rfl
       obtain ⟨z2, z3⟩ := B3'.two (u := .bool false) (v := .slice A2 (glen (R)) c2)
       have HA9 := Lib.hid ((HA7.out.store (u := sb false (Q)) (A' := A1) (n' := glen (Q)) (c' := c1) B2).store (u := false) (A' := A2) (n' := glen (R)) (c' := c2) B3')
       have HA10 := Lib.hid ((HA8.out.store (u := sb false (Q)) (A' := A1) (n' := glen (Q)) (c' := c1) B2).store (u := false) (A' := A2) (n' := glen (R)) (c' := c2) B3')
       have HB11 := Lib.hid ((((hb10.setCell (p := ⟨w.heap.size + 1 + 1, 0, none⟩) (by simp; omega) (.bool (sb false (Q)))).setCell (p := ⟨w.heap.size + 1 + 1, 1, none⟩) (by simp; omega) (.slice A1 (glen (Q)) c1)).setCell (p := ⟨w.heap.size + 1 + 1 + 1, 0, none⟩) (by simp; omega) (.bool false)).setCell (p := ⟨w.heap.size + 1 + 1 + 1, 1, none⟩) (by simp; omega) (.slice A2 (glen (R)) c2))
       clear B2 B3 B3' B2' HA7 HA8 hb8 hb9 hb10 HC3 HB6 HB7 HA5 HA6 HC2
       go_wp2_with fail
       exact bodyPost_ret (v := .tuple #[.agg #[.bool (sb false (Q)), .slice A1 (glen (Q)) c1], .agg #[.bool false, .slice A2 (glen (R)) c2]]) (by simp [results, Tryz.results114, go_sem, z0, z1, z2, z3]) rfl ⟨_, _, _, _, _, _, _, rfl, (HD0.out (fun h => by cases h)).1, sb_pos, (HD0.out (fun h => by cases h)).2, HA9.out, HA10.out, HB11.out⟩
     · have hs1 := signed_any true A1 c1 (Q) w2 HA1.out
       have HC2 := Lib.hid hs1
       clear hs1
       go_wp2_with fail
       refine HC2.out.mono ?_
       rintro e w4 ⟨rfl, hb3⟩
       have hb6 := HB4.out.trans (hb3.mono (by have := HB4.out.size; have := HSZ.out; omega))
       have hb7 := HB5.out.trans (hb3.mono HB5.out.size)
       have HA5 := Lib.hid (HA1.out.below hb3); have HA6 := Lib.hid (HA2.out.below hb3)
       have hs2 := signed_any false A2 c2 (R) w4 HA6.out
       rw [sb_false] at hs2
       have HC3 := Lib.hid hs2; have HB6 := Lib.hid hb6; have HB7 := Lib.hid hb7
       clear hs2 hb3 hb6 hb7
       go_wp2_with fail
       refine HC3.out.mono ?_
       rintro e w5 ⟨rfl, hb8⟩
       have hb9 := HB6.out.trans (hb8.mono (by have := HB6.out.size; have := HSZ.out; omega))
       have hb10 := HB7.out.trans (hb8.mono HB7.out.size)
       have HA7 := Lib.hid (HA5.out.below hb8); have HA8 := Lib.hid (HA6.out.below hb8)
       obtain ⟨-, -, -, B2, B3⟩ := HK.out _ hb9
       have x0 := B2.cell (i := 0) rfl; have x1 := B2.cell (i := 1) rfl; have x2 := B2.frozen 0; have x3 := B2.frozen 1
       have B3' := B3.far_two (b := w.heap.size + 1 + 1) (by omega) (.bool (sb true (Q))) (.slice A1 (glen (Q)) c1)
       have y0 := B3'.cell (i := 0) rfl; have y1 := B3'.cell (i := 1) rfl; have y2 := B3'.frozen 0; have y3 := B3'.frozen 1
       have B2' := ((B2.set 0 (.bool (sb true (Q)))).set 1 (.slice A1 (glen (Q)) c1)).far_two (b := w.heap.size + 1 + 1 + 1) (by omega) (.bool false) (.slice A2 (glen (R)) c2)
       have z0 := B2'.cell (i := 0) rfl; have z1 := B2'.cell (i := 1) rfl
       obtain ⟨z2, z3⟩ := B3'.two (u := .bool false) (v := .slice A2 (glen (R)) c2)
       have HA9 := Lib.hid ((HA7.out.store (u := sb true (Q)) (A' := A1) (n' := glen (Q)) (c' := c1) B2).store (u := false) (A' := A2) (n' := glen (R)) (c' := c2) B3')
       have HA10 := Lib.hid ((HA8.out.store (u := sb true (Q)) (A' := A1) (n' := glen (Q)) (c' := c1) B2).store (u := false) (A' := A2) (n' := glen (R)) (c' := c2) B3')
       have HB11 := Lib.hid ((((hb10.setCell (p := ⟨w.heap.size + 1 + 1, 0, none⟩) (by simp; omega) (.bool (sb true (Q)))).setCell (p := ⟨w.heap.size + 1 + 1, 1, none⟩) (by simp; omega) (.slice A1 (glen (Q)) c1)).setCell (p := ⟨w.heap.size + 1 + 1 + 1, 0, none⟩) (by simp; omega) (.bool false)).setCell (p := ⟨w.heap.size + 1 + 1 + 1, 1, none⟩) (by simp; omega) (.slice A2 (glen (R)) c2))
       clear B2 B3 B3' B2' HA7 HA8 hb8 hb9 hb10 HC3 HB6 HB7 HA5 HA6 HC2
       go_wp2_with fail
       exact bodyPost_ret (v := .tuple #[.agg #[.bool (sb true (Q)), .slice A1 (glen (Q)) c1], .agg #[.bool false, .slice A2 (glen (R)) c2]]) (by simp [results, Tryz.results114, go_sem, z0, z1, z2, z3]) rfl ⟨_, _, _, _, _, _, _, rfl, (HD0.out (fun h => by cases h)).1, sb_pos, (HD0.out (fun h => by cases h)).2, HA9.out, HA10.out, HB11.out⟩
   · have hi0 : ((glen R : Nat) : Int) <= 0 := by rw [hR0, glen_zero]; omega
     have hi1 : ¬ 0 < glen R := by omega
     have HR0 := Lib.hid hR0
     clear hR0
     cases t
     · have hs1 := signed_any true A1 c1 (Q) w2 HA1.out
       have HC2 := Lib.hid hs1
       clear hs1
       go_wp2_with fail
       refine HC2.out.mono ?_
       rintro e w4 ⟨rfl, hb3⟩
       have hb6 := HB4.out.trans (hb3.mono (by have := HB4.out.size; have := HSZ.out; omega))
       have hb7 := HB5.out.trans (hb3.mono HB5.out.size)
       have HA5 := Lib.hid (HA1.out.below hb3); have HA6 := Lib.hid (HA2.out.below hb3)
       have hs2 := signed_any false A2 c2 (R) w4 HA6.out
       rw [sb_false] at hs2
       have HC3 := Lib.hid hs2; have HB6 := Lib.hid hb6; have HB7 := Lib.hid hb7
       clear hs2 hb3 hb6 hb7
       go_wp2_with fail
       refine HC3.out.mono ?_
       rintro e w5 ⟨rfl, hb8⟩
       have hb9 := HB6.out.trans (hb8.mono (by have := HB6.out.size; have := HSZ.out; omega))
       have hb10 := HB7.out.trans (hb8.mono HB7.out.size)
       have HA7 := Lib.hid (HA5.out.below hb8); have HA8 := Lib.hid (HA6.out.below hb8)
       obtain ⟨-, -, -, B2, B3⟩ := HK.out _ hb9
       have x0 := B2.cell (i := 0) rfl; have x1 := B2.cell (i := 1) rfl; have x2 := B2.frozen 0; have x3 := B2.frozen 1
       have B3' := B3.far_two (b := w.heap.size + 1 + 1) (by omega) (.bool (sb true (Q))) (.slice A1 (glen (Q)) c1)
       have y0 := B3'.cell (i := 0) rfl; have y1 := B3'.cell (i := 1) rfl; have y2 := B3'.frozen 0; have y3 := B3'.frozen 1
       have B2' := ((B2.set 0 (.bool (sb true (Q)))).set 1 (.slice A1 (glen (Q)) c1)).far_two (b := w.heap.size + 1 + 1 + 1) (by omega) (.bool false) (.slice A2 (glen (R)) c2)
       have z0 := B2'.cell (i := 0) rfl; have z1 := B2'.cell (i := 1) rfl
       obtain ⟨z2, z3⟩ := B3'.two (u := .bool false) (v := .slice A2 (glen (R)) c2)
       have HA9 := Lib.hid ((HA7.out.store (u := sb true (Q)) (A' := A1) (n' := glen (Q)) (c' := c1) B2).store (u := false) (A' := A2) (n' := glen (R)) (c' := c2) B3')
       have HA10 := Lib.hid ((HA8.out.store (u := sb true (Q)) (A' := A1) (n' := glen (Q)) (c' := c1) B2).store (u := false) (A' := A2) (n' := glen (R)) (c' := c2) B3')
       have HB11 := Lib.hid ((((hb10.setCell (p := ⟨w.heap.size + 1 + 1, 0, none⟩) (by simp; omega) (.bool (sb true (Q)))).setCell (p := ⟨w.heap.size + 1 + 1, 1, none⟩) (by simp; omega) (.slice A1 (glen (Q)) c1)).setCell (p := ⟨w.heap.size + 1 + 1 + 1, 0, none⟩) (by simp; omega) (.bool false)).setCell (p := ⟨w.heap.size + 1 + 1 + 1, 1, none⟩) (by simp; omega) (.slice A2 (glen (R)) c2))
       clear B2 B3 B3' B2' HA7 HA8 hb8 hb9 hb10 HC3 HB6 HB7 HA5 HA6 HC2
       go_wp2_with fail
       exact bodyPost_ret (v := .tuple #[.agg #[.bool (sb true (Q)), .slice A1 (glen (Q)) c1], .agg #[.bool false, .slice A2 (glen (R)) c2]]) (by simp [results, Tryz.results114, go_sem, z0, z1, z2, z3]) rfl ⟨_, _, _, _, _, _, _, rfl, (HD0.out (fun _ => HR0.out)).1, sb_pos, (HD0.out (fun _ => HR0.out)).2, HA9.out, HA10.out, HB11.out⟩
     · have hs1 := signed_any false A1 c1 (Q) w2 HA1.out
       have HC2 := Lib.hid hs1
       clear hs1
       go_wp2_with fail
       refine HC2.out.mono ?_
       rintro e w4 ⟨rfl, hb3⟩
       have hb6 := HB4.out.trans (hb3.mono (by have := HB4.out.size; have := HSZ.out; omega))
       have hb7 := HB5.out.trans (hb3.mono HB5.out.size)
       have HA5 := Lib.hid (HA1.out.below hb3); have HA6 := Lib.hid (HA2.out.below hb3)
       have hs2 := signed_any false A2 c2 (R) w4 HA6.out
       rw [sb_false] at hs2
       have HC3 := Lib.hid hs2; have HB6 := Lib.hid hb6; have HB7 := Lib.hid hb7
       clear hs2 hb3 hb6 hb7
       go_wp2_with fail
       refine HC3.out.mono ?_
       rintro e w5 ⟨rfl, hb8⟩
       have hb9 := HB6.out.trans (hb8.mono (by have := HB6.out.size; have := HSZ.out; omega))
       have hb10 := HB7.out.trans (hb8.mono HB7.out.size)
       have HA7 := Lib.hid (HA5.out.below hb8); have HA8 := Lib.hid (HA6.out.below hb8)
       obtain ⟨-, -, -, B2, B3⟩ := HK.out _ hb9
       have x0 := B2.cell (i := 0) rfl; have x1 := B2.cell (i := 1) rfl; have x2 := B2.frozen 0; have x3 := B2.frozen 1
       have B3' := B3.far_two (b := w.heap.size + 1 + 1) (by omega) (.bool (sb false (Q))) (.slice A1 (glen (Q)) c1)
       have y0 := B3'.cell (i := 0) rfl; have y1 := B3'.cell (i := 1) rfl; have y2 := B3'.frozen 0; have y3 := B3'.frozen 1
       have B2' := ((B2.set 0 (.bool (sb false (Q)))).set 1 (.slice A1 (glen (Q)) c1)).far_two (b := w.heap.size + 1 + 1 + 1) (by omega) (.bool false) (.slice A2 (glen (R)) c2)
       have z0 := B2'.cell (i := 0) rfl; have z1 := B2'.cell (i := 1) rfl
       obtain ⟨z2, z3⟩ := B3'.two (u := .bool false) (v := .slice A2 (glen (R)) c2)
       have HA9 := Lib.hid ((HA7.out.store (u := sb false (Q)) (A' := A1) (n' := glen (Q)) (c' := c1) B2).store (u := false) (A' := A2) (n' := glen (R)) (c' := c2) B3')
       have HA10 := Lib.hid ((HA8.out.store (u := sb false (Q)) (A' := A1) (n' := glen (Q)) (c' := c1) B2).store (u := false) (A' := A2) (n' := glen (R)) (c' := c2) B3')
       have HB11 := Lib.hid ((((hb10.setCell (p := ⟨w.heap.size + 1 + 1, 0, none⟩) (by simp; omega) (.bool (sb false (Q)))).setCell (p := ⟨w.heap.size + 1 + 1, 1, none⟩) (by simp; omega) (.slice A1 (glen (Q)) c1)).setCell (p := ⟨w.heap.size + 1 + 1 + 1, 0, none⟩) (by simp; omega) (.bool false)).setCell (p := ⟨w.heap.size + 1 + 1 + 1, 1, none⟩) (by simp; omega) (.slice A2 (glen (R)) c2))
       clear B2 B3 B3' B2' HA7 HA8 hb8 hb9 hb10 HC3 HB6 HB7 HA5 HA6 HC2
       go_wp2_with fail
       exact bodyPost_ret (v := .tuple #[.agg #[.bool (sb false (Q)), .slice A1 (glen (Q)) c1], .agg #[.bool false, .slice A2 (glen (R)) c2]]) (by simp [results, Tryz.results114, go_sem, z0, z1, z2, z3]) rfl ⟨_, _, _, _, _, _, _, rfl, (HD0.out (fun _ => HR0.out)).1, sb_pos, (HD0.out (fun _ => HR0.out)).2, HA9.out, HA10.out, HB11.out⟩
end Go.Proofs.YtpjbihfkedbenaaGreat
