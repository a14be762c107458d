/- The contracts of plane's reversed, chain and its test of turns. Conditions: slices read, at most a million places. | copy(s[i+1:], s[i:]) on a slice of the call's own, and an element set. No conditions. | The contracts of plane's isLess and sorted. Conditions: the slice read, at most a million places. | The contracts of plane's hull, Hull and isConvex. Conditions: valid lists of places. -/
import Derived.Deep.CutRange
import Derived.Laws.CopyRow
import Derived.Laws.IdiomCopy
import Derived.Test.YtpjbihfkedbenaaGreatHC
import Derived.Test.YtpjbihfkedbenaaGreatHB
namespace Go.Proofs.YtpjbihfkedbenaaGreat
open Go.RowKit Go.Lib
abbrev Oz (W : World) (B : Nat) (v : Value) (l : List P7) : Prop := OwnL p7c 2 31 W B v l
theorem OwnL.cut {α : Type} {cs : α -> List Value} {k : Nat} {T : TypeId} {W : World} {B n c t : Nat} {A : Option Addr} {l : List α} (hk : ∀ x, (cs x).length = k) (h : OwnL cs k T W B (.slice A n c) l) (ht : t <= l.length) : OwnL cs k T W B (.slice A t c) (l.take t) := by
 have hlen : ∀ m : List α, (m.flatMap cs).length = m.length * k := fun m => by
   induction m with
   | nil => simp
   | cons x r ih => simp only [List.flatMap_cons, List.length_append, List.length_cons, hk, ih]; rw [Nat.add_mul]; omega
 have htk : ((l.take t).flatMap cs) = (l.flatMap cs).take (t * k) := by
   have e : l.flatMap cs = (l.take t).flatMap cs ++ (l.drop t).flatMap cs := by rw [<- List.flatMap_append, List.take_append_drop]
   have e2 : ((l.take t).flatMap cs).length = t * k := by rw [hlen, List.length_take, Nat.min_eq_left ht]
   rw [e, <- e2, List.take_left]
 have e3 : (l.take t).length = t := by rw [List.length_take, Nat.min_eq_left ht]
 unfold OwnL at h ⊢
 rw [e3]
 refine ⟨by rw [hlen, e3], ?_⟩
 rcases h.2 with ⟨h1, h0⟩ | ⟨g, cap, cur, h1, h2, h3, h4, h5, h6, h7⟩
 · simp only [Value.slice.injEq] at h1
   obtain ⟨rfl, h2, rfl⟩ := h1
   obtain rfl : t = 0 := by omega
   exact Or.inl ⟨rfl, rfl⟩
 · simp only [Value.slice.injEq] at h1
   obtain ⟨rfl, rfl, rfl⟩ := h1
   refine Or.inr ⟨g, c, cur, rfl, h2, h3, by omega, h5, h6, ?_⟩
   rw [htk, <- h7, List.take_take, Nat.min_eq_left (Nat.mul_le_mul_right k ht)]
theorem OwnL.cut2 {W : World} {B t c : Nat} {A : Option Addr} {l : List P7} (h : Oz W B (.slice A l.length c) l) (ht : t <= l.length) : Oz W B (.slice A t c) (l.take t) := OwnL.cut (fun _ => rfl) h ht
def fits7 (a b c : P7) : Bool := decide (0 < sd7 a b c)
set_option maxRecDepth 100000 in
set_option maxHeartbeats 8000000 in
theorem fits7_any (a b c : P7) (w : World) : Yl 47 #[p7v a, p7v b, p7v c] w (.bool (fits7 a b c)) := by
 have HS := Lib.hid (fun W => side_any a b c W)
 unfold fits7
 generalize sd7 a b c = n at *
 have S_0 : Hid (Blk (((w.alloc (.cells #[.int .i64 a.x, .int .i64 a.y] 31)).alloc (.cells #[.int .i64 b.x, .int .i64 b.y] 31)).alloc (.cells #[.int .i64 c.x, .int .i64 c.y] 31)) w.heap.size 31 #[.int .i64 a.x, .int .i64 a.y]) := allocs_blk [(#[.int .i64 a.x, .int .i64 a.y], 31), (#[.int .i64 b.x, .int .i64 b.y], 31), (#[.int .i64 c.x, .int .i64 c.y], 31)] w 0 _ rfl
 have T_0 : Hid (Blk (((w.alloc (.cells #[.int .i64 a.x, .int .i64 a.y] 31)).alloc (.cells #[.int .i64 b.x, .int .i64 b.y] 31)).alloc (.cells #[.int .i64 c.x, .int .i64 c.y] 31)) (w.heap.size + 1) 31 #[.int .i64 b.x, .int .i64 b.y]) := allocs_blk [(#[.int .i64 a.x, .int .i64 a.y], 31), (#[.int .i64 b.x, .int .i64 b.y], 31), (#[.int .i64 c.x, .int .i64 c.y], 31)] w 1 _ rfl
 have U_0 : Hid (Blk (((w.alloc (.cells #[.int .i64 a.x, .int .i64 a.y] 31)).alloc (.cells #[.int .i64 b.x, .int .i64 b.y] 31)).alloc (.cells #[.int .i64 c.x, .int .i64 c.y] 31)) (w.heap.size + 2) 31 #[.int .i64 c.x, .int .i64 c.y]) := allocs_blk [(#[.int .i64 a.x, .int .i64 a.y], 31), (#[.int .i64 b.x, .int .i64 b.y], 31), (#[.int .i64 c.x, .int .i64 c.y], 31)] w 2 _ rfl
 have HB_0 : Hid (Below w.heap.size w (((w.alloc (.cells #[.int .i64 a.x, .int .i64 a.y] 31)).alloc (.cells #[.int .i64 b.x, .int .i64 b.y] 31)).alloc (.cells #[.int .i64 c.x, .int .i64 c.y] 31))) := allocs_below [(#[.int .i64 a.x, .int .i64 a.y], 31), (#[.int .i64 b.x, .int .i64 b.y], 31), (#[.int .i64 c.x, .int .i64 c.y], 31)] w (Below.refl w.heap.size w) (Nat.le_refl _)
 go_enter Tryz.func47, Tryz.ntmps47
 have yy0 := S_0.out.cell (i := 0) (v := .int .i64 a.x) rfl; have yy1 := S_0.out.cell (i := 1) (v := .int .i64 a.y) rfl
 have yy2 := T_0.out.cell (i := 0) (v := .int .i64 b.x) rfl; have yy3 := T_0.out.cell (i := 1) (v := .int .i64 b.y) rfl
 have yy4 := U_0.out.cell (i := 0) (v := .int .i64 c.x) rfl; have yy5 := U_0.out.cell (i := 1) (v := .int .i64 c.y) rfl
 go_wp2_with fail
 refine (HS.out _).mono ?_
 rintro e v0 ⟨rfl, hb⟩
 clear yy0 yy1 yy2 yy3 yy4 yy5
 have S_1 : Hid (Blk v0 w.heap.size 31 #[.int .i64 a.x, .int .i64 a.y]) := Lib.hid (S_0.out.below hb S_0.out.lt)
 have T_1 : Hid (Blk v0 (w.heap.size + 1) 31 #[.int .i64 b.x, .int .i64 b.y]) := Lib.hid (T_0.out.below hb T_0.out.lt)
 have U_1 : Hid (Blk v0 (w.heap.size + 2) 31 #[.int .i64 c.x, .int .i64 c.y]) := Lib.hid (U_0.out.below hb U_0.out.lt)
 have HB_1 : Hid (Below w.heap.size w v0) := Lib.hid (HB_0.out.trans (hb.mono HB_0.out.size))
 clear hb S_0 T_0 U_0 HB_0
 go_wp2_with fail
 go_ret
 exact ⟨rfl, HB_1.out⟩
set_option maxRecDepth 100000 in
set_option maxHeartbeats 8000000 in
theorem preversed_any (l : List P7) (A : Option Addr) (c : Nat) (w : World) (hA : Pz w A l) (hz : l.length <= 1000000) :
   Calls Tryz.prog 49 #[.slice A l.length c] w fun e w' => (∃ v, e = .returned v /\ Oz w' w.heap.size v l.reverse) /\ Below w.heap.size w w' := by
 have HA := Lib.hid hA; clear hA
 go_enter Tryz.func49, Tryz.ntmps49
 go_wp2_with fail
 go_loopw [3, 7] (fun vv ii wr => ∃ (i : Nat) (v1 : Value), v1 = vv /\ ii = .int .i64 i /\ i <= l.length /\ Oz wr w.heap.size v1 (l.reverse.take i) /\ Below w.heap.size w wr) (fun _ ii _ => l.length - (intOf ii).toNat)
 case atStart => exact ⟨0, _, rfl, rfl, Nat.zero_le _, OwnL.nil _ _, Below.refl _ _⟩
 case round =>
   obtain ⟨i, v1, rfl, rfl, hi, hown, hB⟩ := hrel
   have HOW := Lib.hid hown; have HB := Lib.hid hB; clear hown hB
   by_cases hlt : i < l.length
   case neg =>
     obtain rfl : i = l.length := by omega
     have HE : Hid (l.reverse.take l.length = l.reverse) := Lib.hid (List.take_of_length_le (by simp))
     rw [HE.out] at HOW
     clear hlt hi HE
     go_wp2_with fail
     go_ret
     exact ⟨⟨_, rfl, HOW.out⟩, HB.out⟩
   case pos =>
     obtain ⟨b, o, rfl⟩ := HA.out.some (by omega)
     obtain ⟨k, hk⟩ : ∃ k, k = l.length - 1 - i := ⟨_, rfl⟩
     have hkl : k < l.length := by omega
     obtain ⟨k0, k1⟩ := Pz.cell HA.out HB.out (Nat.le_refl _) hkl
     have HT : Hid (l.reverse.take (i + 1) = l.reverse.take i ++ [l[k]]) := Lib.hid (by
       rw [List.take_add_one, List.getElem?_reverse (by omega), <- hk, List.getElem?_eq_getElem hkl]; rfl)
     have HLN : Hid ((l.reverse.take i).length = i) := Lib.hid (by rw [List.length_take, List.length_reverse]; omega)
     obtain ⟨d, hd⟩ : ∃ d, d = l[k] := ⟨_, rfl⟩
     rw [<- hd] at k0 k1 HT
     have e1 : IntKind.i64.wrap ((l.length : Int) - 1) = (l.length : Int) - 1 := IntWalk.i64_in _ (by omega)
     have e2 : IntKind.i64.wrap ((l.length : Int) - 1 - (i : Int)) = (k : Int) := by rw [show (l.length : Int) - 1 - (i : Int) = (k : Int) by omega]; exact IntWalk.i64_in _ (by omega)
     have q1 : (0 : Int) <= (k : Int) := by omega
     have q2 : (k : Int) < (l.length : Int) := by omega
     have q3 : (i : Int) < (l.length : Int) := by omega
     have q5 : (i : Int) <= 9223372036854775806 := by omega
     have HI := Lib.hid hlt; have HM : Hid (i <= 1000000) := Lib.hid (by omega)
     clear hd hk hkl hlt hi
     go_wp2_with (at_builtin; refine wpList_append_one apP rfl _ _ rfl w.heap.size v1 (l.reverse.take i) rfl (show Oz (wr.alloc (.cells #[.int .i64 d.x, .int .i64 d.y] 31)) _ _ _ from HOW.out.below ((Below.refl _ _).alloc (Nat.le_refl _) _)) wr.heap.size d rfl (Blk.new wr _ _) (by rw [HLN.out]; exact HM.out) (by have := HB.out.size; simp; omega) ?_; intro v4 w4 hown4 hgrow4; have HO4 := Lib.hid hown4; have HB4 := Lib.hid ((HB.out.alloc HB.out.size _).grown hgrow4 (HB.out.alloc HB.out.size _).size (fun k e => OwnL.block HOW.out e)); clear hown4 hgrow4)
     go_roundw
     case rel => exact ⟨i + 1, v4, rfl, by go_num, HI.out, by rw [HT.out]; exact HO4.out, HB4.out⟩
     case measure => have := HI.out; simp [intOf]; omega
theorem st7_take (f : P7 -> P7 -> P7 -> Bool) {l : List P7} {i : Nat} (h : i < l.length) : st7 f (l.take (i + 1)) = l[i] :: pop7 f (st7 f (l.take i)) l[i] := by
 unfold st7
 rw [List.take_add_one, List.getElem?_eq_getElem h, Option.toList_some, List.foldl_append]; rfl
theorem pop7_few (f : P7 -> P7 -> P7 -> Bool) {s : List P7} (n : P7) (h : s.length <= 1) : pop7 f s n = s := by
 match s, h with
 | [], _ => rfl
 | [_], _ => rfl
theorem take_two {KS : List P7} {t : Nat} (h : 2 <= t) (hK : t <= KS.length) : (KS.take t).reverse = KS[t - 1] :: KS[t - 2] :: (KS.take (t - 2)).reverse := by
 have e1 : KS.take t = KS.take (t - 1) ++ [KS[t - 1]] := by
   conv => lhs; rw [show t = t - 1 + 1 by omega]
   rw [List.take_add_one, List.getElem?_eq_getElem (show t - 1 < KS.length by omega)]; rfl
 have e2 : KS.take (t - 1) = KS.take (t - 2) ++ [KS[t - 2]] := by
   conv => lhs; rw [show t - 1 = t - 2 + 1 by omega]
   rw [List.take_add_one, List.getElem?_eq_getElem (show t - 2 < KS.length by omega)]; rfl
 rw [e1, e2]; simp
theorem pop7_stop (f : P7 -> P7 -> P7 -> Bool) {KS : List P7} {t : Nat} {n : P7} (h : 2 <= t) (hK : t <= KS.length) (hf : f KS[t - 2] KS[t - 1] n = true) : pop7 f (KS.take t).reverse n = (KS.take t).reverse := by
 rw [take_two h hK, pop7, if_pos hf]
theorem pop7_go (f : P7 -> P7 -> P7 -> Bool) {KS : List P7} {t : Nat} {n : P7} (h : 2 <= t) (hK : t <= KS.length) (hf : f KS[t - 2] KS[t - 1] n = false) : pop7 f (KS.take t).reverse n = pop7 f (KS.take (t - 1)).reverse n := by
 have e : (KS.take (t - 1)).reverse = KS[t - 2] :: (KS.take (t - 2)).reverse := by
   have e2 : KS.take (t - 1) = KS.take (t - 2) ++ [KS[t - 2]] := by
     conv => lhs; rw [show t - 1 = t - 2 + 1 by omega]
     rw [List.take_add_one, List.getElem?_eq_getElem (show t - 2 < KS.length by omega)]; rfl
   rw [e2]; simp
 rw [take_two h hK, pop7, if_neg (by rw [hf]; exact Bool.false_ne_true), e]
set_option maxRecDepth 100000 in
set_option maxHeartbeats 16000000 in
theorem pchain_any (l : List P7) (A : Option Addr) (c : Nat) (w : World) (hA : Pz w A l) (hz : l.length <= 1000000) :
   Calls Tryz.prog 48 #[.slice A l.length c, .func (.func 47) #[] #[]] w fun e w' => (∃ v, e = .returned v /\ Oz w' w.heap.size v (st7 fits7 l).reverse) /\ Below w.heap.size w w' := by
 have HA := Lib.hid hA; clear hA
 go_enter Tryz.func48, Tryz.ntmps48
 go_wp2_with fail
 go_loopw [5, 11] (fun vv ii wr => ∃ (i : Nat) (v1 : Value), v1 = vv /\ ii = .int .i64 i /\ i <= l.length /\ ((st7 fits7 (l.take i)).length <= i) /\ Oz wr w.heap.size v1 (st7 fits7 (l.take i)).reverse /\ Below w.heap.size w wr) (fun _ ii _ => l.length - (intOf ii).toNat)
 case atStart => exact ⟨0, _, rfl, rfl, Nat.zero_le _, Nat.le_refl _, OwnL.nil _ _, Below.refl _ _⟩
 case round =>
   obtain ⟨i, v1, rfl, rfl, hi, hki, hown, hB⟩ := hrel
   have HOW := Lib.hid hown; have HB := Lib.hid hB; clear hown hB
   by_cases hlt : i < l.length
   case neg =>
     obtain rfl : i = l.length := by omega
     have HE : Hid (l.take l.length = l) := Lib.hid List.take_length
     rw [HE.out] at HOW
     clear hlt hi HE hki
     go_wp2_with fail
     go_ret
     exact ⟨⟨_, rfl, HOW.out⟩, HB.out⟩
   case pos =>
     obtain ⟨b, o, rfl⟩ := HA.out.some (by omega)
     obtain ⟨k0, k1⟩ := Pz.cell HA.out HB.out (Nat.le_refl _) hlt
     have HT : Hid (st7 fits7 (l.take (i + 1)) = l[i] :: pop7 fits7 (st7 fits7 (l.take i)) l[i]) := Lib.hid (st7_take fits7 hlt)
     obtain ⟨KS, hK⟩ : ∃ KS, KS = (st7 fits7 (l.take i)).reverse := ⟨_, rfl⟩
     have hKr : st7 fits7 (l.take i) = KS.reverse := by rw [hK, List.reverse_reverse]
     have hkl : KS.length <= i := by rw [hK, List.length_reverse]; exact hki
     obtain ⟨d, hd⟩ : ∃ d, d = l[i] := ⟨_, rfl⟩
     rw [<- hd] at k0 k1 HT
     rw [hKr] at HT
     rw [<- hK] at HOW
     obtain ⟨A1, c1, rfl, hzK, hcap, _, hmax⟩ := OwnL.read apP HOW.out
     have q1 : (0 : Int) <= (i : Int) := by omega
     have q2 : (i : Int) < (l.length : Int) := by omega
     have q5 : (i : Int) <= 9223372036854775806 := by omega
     have e1 : IntKind.i64.wrap ((KS.length : Int) - 1) = (KS.length : Int) - 1 := IntWalk.i64_in _ (by omega)
     have HI := Lib.hid hlt; have HKL := Lib.hid hkl; have HIZ : Hid (i <= 1000000) := Lib.hid (by omega)
     have HC1 := Lib.hid hcap
     have HSM : Hid (KS.length <= 1000000) := Lib.hid (by omega)
     clear hd hK hKr hkl hki hlt hi hzK
     have HO2 := Lib.hid (HOW.out.below ((Below.refl wr.heap.size wr).alloc (Nat.le_refl _) (.cells #[.int .i64 d.x, .int .i64 d.y] 31)))
     have HB2 := Lib.hid (HB.out.alloc HB.out.size (.cells #[.int .i64 d.x, .int .i64 d.y] 31))
     have HD := Lib.hid (Blk.new wr 31 #[.int .i64 d.x, .int .i64 d.y])
     have HWR := Lib.hid HB.out.size
     go_wp2_with fail
     clear k0 k1
     go_loopw [8] (fun jj wi => ∃ t : Nat, jj = .int .i64 ((t : Int) - 1) /\ t <= KS.length /\ (0 < KS.length -> 0 < t) /\ pop7 fits7 (KS.take t).reverse d = pop7 fits7 KS.reverse d /\ Oz wi w.heap.size (.slice A1 KS.length c1) KS /\ Blk wi wr.heap.size 31 #[.int .i64 d.x, .int .i64 d.y] /\ Below w.heap.size w wi) (fun jj _ => (intOf jj).toNat)
     case atStart => exact ⟨KS.length, rfl, Nat.le_refl _, id, by rw [List.take_length], HO2.out, HD.out, HB2.out⟩
     case round =>
       rename World => wi
       clear HO2 HB2 HD HOW HB
       obtain ⟨t, rfl, ht, ht0, hpop, hown, hD, hB⟩ := hrel
       have HOW := Lib.hid hown; have HB := Lib.hid hB; have HD := Lib.hid hD; have HPO := Lib.hid hpop; clear hown hB hD hpop
       have HTL := Lib.hid ht; have HT0 := Lib.hid ht0
       have ewt : IntKind.i64.wrap (t : Int) = (t : Int) := IntWalk.i64_in _ (by have := HSM.out; omega)
       have etn : IntKind.i64.wrap ((t : Int) - 1 + 1) = (t : Int) := by rw [show (t : Int) - 1 + 1 = (t : Int) by omega]; exact IntWalk.i64_in _ (by have := HSM.out; omega)
       by_cases h2 : 2 <= t
       case neg =>
         have hd0 : ¬ (0 : Int) < (t : Int) - 1 := by omega
         have hd1 : (t : Int) - 1 <= 0 := by omega
         have HST : Hid (pop7 fits7 (KS.take t).reverse d = (KS.take t).reverse) := Lib.hid (pop7_few fits7 d (by simp; omega))
         have hundef := un_none
         clear h2 ht ht0
         go_wp2_with fail
         refine wp_region_grow (S := (fun w' => True)) ((fun w' => Below wi.heap.size wi w')) (by kernel_rfl) (⟨fun w2 h2 => trivial, fun w2 w3 h2 hb2 => h2.trans (hb2.mono h2.size)⟩) ((Below.refl _ _).drew) (fun hCalm => ?_)
         refine grow_take 0 (some 18) ?_ rfl rfl (by kernel_rfl) (fun _ _ _ h => h) (by kernel_rfl) hCalm ?_ ?_
         rotate_left
         · intro wS hS; (try dsimp only at hS); go_simp <;> with_reducible rfl
         try simp only [Act.put, q8a, q8b, q8c]
         refine grow_take 1 (some 19) (.bool false) rfl rfl (by kernel_rfl) (fun _ _ _ h => h) (by kernel_rfl) hCalm ?_ ?_
         · intro wS hS; (try dsimp only at hS); go_simp
           all_goals omega
         try simp only [Act.put, q8a, q8b, q8c]
         refine grow_take 2 (some 20) ?_ rfl rfl (by kernel_rfl) (fun _ _ _ h => h) (by kernel_rfl) hCalm ?_ ?_
         rotate_left
         · intro wS hS; (try dsimp only at hS); go_simp <;> with_reducible rfl
         try simp only [Act.put, q8a, q8b, q8c]
         refine grow_skip 3 (some 21) rfl rfl (by kernel_rfl) (fun _ _ _ h => h) (by kernel_rfl) hCalm ?_
         try simp only [Act.put, q8a, q8b, q8c]
         refine grow_skip 4 (some 22) rfl rfl (by kernel_rfl) (fun _ _ _ h => h) (by kernel_rfl) hCalm ?_
         try simp only [Act.put, q8a, q8b, q8c]
         refine grow_skip 5 (some 23) rfl rfl (by kernel_rfl) (fun _ _ _ h => h) (by kernel_rfl) hCalm ?_
         try simp only [Act.put, q8a, q8b, q8c]
         refine grow_skip 6 (some 24) rfl rfl (by kernel_rfl) (fun _ _ _ h => h) (by kernel_rfl) hCalm ?_
         try simp only [Act.put, q8a, q8b, q8c]
         refine grow_skip 7 (some 25) rfl rfl (by kernel_rfl) (fun _ _ _ h => h) (by kernel_rfl) hCalm ?_
         try simp only [Act.put, q8a, q8b, q8c]
         refine grow_skip 8 (some 26) rfl rfl (by kernel_rfl) (fun _ _ _ h => h) (by kernel_rfl) hCalm ?_
         try simp only [Act.put, q8a, q8b, q8c]
         refine grow_skip 9 (some 27) rfl rfl (by kernel_rfl) (fun _ _ _ h => h) (by kernel_rfl) hCalm ?_
         try simp only [Act.put, q8a, q8b, q8c]
         refine grow_skip 10 (some 28) rfl rfl (by kernel_rfl) (fun _ _ _ h => h) (by kernel_rfl) hCalm ?_
         try simp only [Act.put, q8a, q8b, q8c]
         refine grow_skip 11 (some 29) rfl rfl (by kernel_rfl) (fun _ _ _ h => h) (by kernel_rfl) hCalm ?_
         try simp only [Act.put, q8a, q8b, q8c]
         refine grow_skip 12 (some 30) rfl rfl (by kernel_rfl) (fun _ _ _ h => h) (by kernel_rfl) hCalm ?_
         try simp only [Act.put, q8a, q8b, q8c]
         refine grow_skip 13 (some 31) rfl rfl (by kernel_rfl) (fun _ _ _ h => h) (by kernel_rfl) hCalm ?_
         try simp only [Act.put, q8a, q8b, q8c]
         refine grow_skip 14 (some 32) rfl rfl (by kernel_rfl) (fun _ _ _ h => h) (by kernel_rfl) hCalm ?_
         try simp only [Act.put, q8a, q8b, q8c]
         refine grow_skip 15 (some 33) rfl rfl (by kernel_rfl) (fun _ _ _ h => h) (by kernel_rfl) hCalm ?_
         try simp only [Act.put, q8a, q8b, q8c]
         refine grow_take 16 (some 34) ?_ rfl rfl (by kernel_rfl) (fun _ _ _ h => h) (by kernel_rfl) hCalm ?_ ?_
         rotate_left
         · intro wS hS; (try dsimp only at hS); go_simp <;> with_reducible rfl
         try simp only [Act.put, q8a, q8b, q8c]
         refine grow_done (by kernel_rfl) (fun wA hA => ?_) _
         have hb := hA; clear hA hCalm
         obtain ⟨wj, hwj⟩ : ∃ q, q = wA := ⟨_, rfl⟩
         rw [<- hwj] at hb ⊢
         clear hwj
         have HO9 := Lib.hid (HOW.out.below hb); have HD9 := Lib.hid (HD.out.below hb HD.out.lt); have HB9 := Lib.hid (HB.out.trans (hb.mono HB.out.size))
         clear HOW HD HB hb
         have HOW := HO9; have HD := HD9; have HB := HB9; clear HO9 HD9 HB9
         have HOC := Lib.hid (OwnL.cut2 HOW.out HTL.out)
         have hg1 : (0 : Int) <= (t : Int) := by omega
         have hg2 : (t : Int) <= (c1 : Int) := by have := HC1.out; have := HTL.out; omega
         have hg3 : t <= c1 := by have := HC1.out; have := HTL.out; omega
         go_wp2_with fail
         refine wp_region_grow (S := (fun w' => True)) ((fun w' => Below w.heap.size w w' /\ OwnL p7c 2 31 w' w.heap.size (.slice A1 t c1) (KS.take t) /\ Blk w' wr.heap.size 31 #[.int .i64 d.x, .int .i64 d.y])) (by kernel_rfl) (⟨fun w2 h2 => trivial, fun w2 w3 h2 hb2 => ⟨h2.1.trans (hb2.mono h2.1.size), OwnL.below h2.2.1 hb2, h2.2.2.below hb2 h2.2.2.lt⟩⟩) (⟨HB.out.drew, OwnL.drew HOC.out, HD.out.drew⟩) (fun hCalm => ?_)
         refine grow_take 0 (some 37) ?_ rfl rfl (by kernel_rfl) (fun _ _ _ h => h) (by kernel_rfl) hCalm ?_ ?_
         rotate_left
         · intro wS hS; (try dsimp only at hS); go_simp <;> with_reducible rfl
         try simp only [Act.put, q8a, q8b, q8c]
         refine grow_take 1 (some 38) ?_ rfl rfl (by kernel_rfl) (fun _ _ _ h => h) (by kernel_rfl) hCalm ?_ ?_
         rotate_left
         · intro wS hS; (try dsimp only at hS); go_simp <;> with_reducible rfl
         try simp only [Act.put, q8a, q8b, q8c]
         refine grow_take 2 (some 39) ?_ rfl rfl (by kernel_rfl) (fun _ _ _ h => h) (by kernel_rfl) hCalm ?_ ?_
         rotate_left
         · intro wS hS; (try dsimp only at hS); go_simp <;> with_reducible rfl
         try simp only [Act.put, q8a, q8b, q8c]
         refine grow_take 3 (some 40) ?_ rfl rfl (by kernel_rfl) (fun _ _ _ h => h) (by kernel_rfl) hCalm ?_ ?_
         rotate_left
         · intro wS hS; (try dsimp only at hS); go_simp <;> with_reducible rfl
         try simp only [Act.put, q8a, q8b, q8c]
         refine grow_each [4] (by kernel_rfl) (by decide) ?_
         refine grow_cons 4 rfl (by kernel_rfl) (fun wA hA K hK => ?_) grow_nil
         have z0 := hA.2.2.cell (i := 0) (v := .int .i64 d.x) rfl
         have z1 := hA.2.2.cell (i := 1) (v := .int .i64 d.y) rfl
         go_simp
         refine hK.out _ _ (fun w' => Below w.heap.size w w' /\ OwnL p7c 2 31 w' w.heap.size (.slice A1 t c1) (KS.take t)) ⟨fun w2 h2 => trivial, fun w2 w3 h2 hb2 => ⟨h2.1.trans (hb2.mono h2.1.size), OwnL.below h2.2 hb2⟩⟩ ⟨hA.1, hA.2.1⟩ ?_
         clear z0 z1 hK K hA wA hCalm
         have hCalm : Calm (fun w' => True) (fun w' => Below w.heap.size w w' /\ OwnL p7c 2 31 w' w.heap.size (.slice A1 t c1) (KS.take t)) := ⟨fun w2 h2 => trivial, fun w2 w3 h2 hb2 => ⟨h2.1.trans (hb2.mono h2.1.size), OwnL.below h2.2 hb2⟩⟩
         try simp only [Act.put, q8a, q8b, q8c]
         refine grow_each [5] (by kernel_rfl) (by decide) ?_
         refine grow_cons 5 rfl (by kernel_rfl) (fun wA hA K hK => ?_) grow_nil
         obtain ⟨pN, hpN⟩ : ∃ b, b = wA.heap.size := ⟨_, rfl⟩
         have hnew : Blk (wA.alloc (.cells #[.int .i64 d.x, .int .i64 d.y] 31)) pN 31 #[.int .i64 d.x, .int .i64 d.y] := by rw [hpN]; exact Blk.new wA _ _
         go_simp
         rw [<- hpN]
         refine hK.out _ _ (fun w' => Below w.heap.size w w' /\ OwnL p7c 2 31 w' w.heap.size (.slice A1 t c1) (KS.take t) /\ Blk w' pN 31 #[.int .i64 d.x, .int .i64 d.y]) ⟨fun w2 h2 => trivial, fun w2 w3 h2 hb2 => ⟨h2.1.trans (hb2.mono h2.1.size), OwnL.below h2.2.1 hb2, h2.2.2.below hb2 h2.2.2.lt⟩⟩ ⟨hA.1.alloc hA.1.size _, OwnL.below hA.2 ((Below.refl _ _).alloc (Nat.le_refl _) _), hnew⟩ ?_
         clear hnew hpN hK K hA wA hCalm
         have hCalm : Calm (fun w' => True) (fun w' => Below w.heap.size w w' /\ OwnL p7c 2 31 w' w.heap.size (.slice A1 t c1) (KS.take t) /\ Blk w' pN 31 #[.int .i64 d.x, .int .i64 d.y]) := ⟨fun w2 h2 => trivial, fun w2 w3 h2 hb2 => ⟨h2.1.trans (hb2.mono h2.1.size), OwnL.below h2.2.1 hb2, h2.2.2.below hb2 h2.2.2.lt⟩⟩
         try simp only [Act.put, q8a, q8b, q8c]
         refine grow_each [6] (by kernel_rfl) (by decide) ?_
         refine grow_cons 6 rfl (by kernel_rfl) (fun wA hA K hK => ?_) grow_nil
         refine wp_append_one apP _ _ rfl w.heap.size (.slice A1 t c1) (KS.take t) rfl hA.2.1 pN d rfl hA.2.2 (by have := HSM.out; have := HTL.out; rw [List.length_take]; omega) (Nat.le_trans (Nat.le_refl _) hA.1.size) ?_
         intro vN w2 hown2 hgrow2
         have hbg := hA.1.grown hgrow2 hA.1.size (fun k e => Nat.le_trans (Nat.le_refl _) (OwnL.block hA.2.1 e))
         refine hK.out _ _ (fun w' => Below w.heap.size w w' /\ OwnL p7c 2 31 w' w.heap.size vN ((KS.take t) ++ [d])) ⟨fun w2 h2 => trivial, fun w2 w3 h2 hb2 => ⟨h2.1.trans (hb2.mono h2.1.size), OwnL.below h2.2 hb2⟩⟩ ⟨hbg, hown2⟩ ?_
         clear hbg hown2 hgrow2 hK K hA wA hCalm w2
         have hCalm : Calm (fun w' => True) (fun w' => Below w.heap.size w w' /\ OwnL p7c 2 31 w' w.heap.size vN ((KS.take t) ++ [d])) := ⟨fun w2 h2 => trivial, fun w2 w3 h2 hb2 => ⟨h2.1.trans (hb2.mono h2.1.size), OwnL.below h2.2 hb2⟩⟩
         try simp only [Act.put, List.setIfInBounds_toArray]
         refine grow_take 7 (some 5) ?_ rfl rfl (by kernel_rfl) (fun _ _ _ h => h) (by kernel_rfl) hCalm ?_ ?_
         rotate_left
         · intro wS hS; (try dsimp only at hS); go_simp <;> with_reducible rfl
         try simp only [Act.put]
         refine grow_done (by kernel_rfl) (fun wA hA => ?_) _
         have HO3 := Lib.hid hA.2
         have HB3 := Lib.hid hA.1
         go_wp2_with fail
         go_roundw
         case rel => exact ⟨i + 1, vN, rfl, by go_num, HI.out, by rw [HT.out, <- HPO.out, HST.out]; simp; have := HTL.out; have := HKL.out; omega, by rw [HT.out, <- HPO.out, HST.out]; simpa using HO3.out, HB3.out⟩
         case measure => have := HI.out; simp [intOf]; omega
       case pos =>
         obtain ⟨b1, o1, rfl⟩ : ∃ b1 o1, A1 = some ⟨b1, o1, none⟩ := by
           obtain ⟨A3, c3, e3, hz3, _⟩ := OwnL.read apP HOW.out
           simp only [Value.slice.injEq] at e3
           obtain ⟨rfl, -, rfl⟩ := e3
           exact hz3.some (by omega)
         obtain ⟨m1, hm1⟩ : ∃ m, m = t - 1 := ⟨_, rfl⟩
         obtain ⟨m2, hm2⟩ : ∃ m, m = t - 2 := ⟨_, rfl⟩
         have hl1 : m1 < KS.length := by omega
         have hl2 : m2 < KS.length := by omega
         have hzz : Pz wi (some ⟨b1, o1, none⟩) KS := by
           obtain ⟨A3, c3, e3, hz3, _⟩ := OwnL.read apP HOW.out
           simp only [Value.slice.injEq] at e3
           obtain ⟨rfl, -, rfl⟩ := e3
           exact hz3
         have HPS : Hid (fits7 KS[m2] KS[m1] d = true -> pop7 fits7 (KS.take t).reverse d = (KS.take t).reverse) := Lib.hid (fun h => pop7_stop fits7 h2 ht (by subst hm1 hm2; exact h))
         have HPG : Hid (fits7 KS[m2] KS[m1] d = false -> pop7 fits7 (KS.take t).reverse d = pop7 fits7 (KS.take (t - 1)).reverse d) := Lib.hid (fun h => pop7_go fits7 h2 ht (by subst hm1 hm2; exact h))
         have HCx : Hid (∀ W, Below wi.heap.size wi W -> W.cell? ⟨b1, o1 + m2 * 2, none⟩ = some (.int .i64 KS[m2].x) /\ W.cell? ⟨b1, o1 + m2 * 2 + 1, none⟩ = some (.int .i64 KS[m2].y)) := Lib.hid (fun W hW => Pz.cell hzz hW (Nat.le_refl _) hl2)
         have HCy : Hid (∀ W, Below wi.heap.size wi W -> W.cell? ⟨b1, o1 + m1 * 2, none⟩ = some (.int .i64 KS[m1].x) /\ W.cell? ⟨b1, o1 + m1 * 2 + 1, none⟩ = some (.int .i64 KS[m1].y)) := Lib.hid (fun W hW => Pz.cell hzz hW (Nat.le_refl _) hl1)
         obtain ⟨x, hx⟩ : ∃ x, x = KS[m2] := ⟨_, rfl⟩
         obtain ⟨y, hy⟩ : ∃ y, y = KS[m1] := ⟨_, rfl⟩
         rw [<- hx, <- hy] at HPS HPG
         rw [<- hx] at HCx
         rw [<- hy] at HCy
         have p0 : (0 : Int) < (t : Int) - 1 := by omega
         have p1 : (t : Int) - 1 = (m1 : Int) := by omega
         have p2 : IntKind.i64.wrap ((t : Int) - 1 - 1) = (m2 : Int) := by rw [show (t : Int) - 1 - 1 = (m2 : Int) by omega]; exact IntWalk.i64_in _ (by have := HSM.out; omega)
         have p4 : IntKind.i64.wrap ((m1 : Int) - 1) = (m2 : Int) := by rw [show (m1 : Int) - 1 = (m2 : Int) by omega]; exact IntWalk.i64_in _ (by have := HSM.out; omega)
         have p5 : IntKind.i64.wrap ((m1 : Int) + 1) = (t : Int) := by rw [show (m1 : Int) + 1 = (t : Int) by omega]; exact IntWalk.i64_in _ (by have := HSM.out; omega)
         have r1 : (0 : Int) <= (m1 : Int) := by omega
         have r2 : (m1 : Int) < (KS.length : Int) := by omega
         have r3 : (0 : Int) <= (m2 : Int) := by omega
         have r4 : (m2 : Int) < (KS.length : Int) := by omega
         have r5 : (0 : Int) < (m1 : Int) := by omega
         have HM2 : Hid (m2 = t - 2) := Lib.hid hm2
         have HM1 : Hid (m1 = t - 1) := Lib.hid hm1
         have H2 : Hid (2 <= t) := Lib.hid h2
         clear hx hy hl1 hl2 hm1 hm2 h2 ht ht0 hzz
         rw [p1] at p0 p2 etn ⊢
         clear p0 p1 p2
         cases hf : fits7 x y d
         case false =>
           have HN := Lib.hid (HPG.out hf)
           go_wp2_with fail
           refine wp_region_grow (S := (fun w' => w'.cell? ⟨wr.heap.size, 0, none⟩ = some (.int .i64 d.x) /\ w'.cell? ⟨wr.heap.size, 1, none⟩ = some (.int .i64 d.y) /\ w'.cell? ⟨b1, o1 + m2 * 2, none⟩ = some (.int .i64 x.x) /\ w'.cell? ⟨b1, o1 + m2 * 2 + 1, none⟩ = some (.int .i64 x.y) /\ w'.cell? ⟨b1, o1 + m1 * 2, none⟩ = some (.int .i64 y.x) /\ w'.cell? ⟨b1, o1 + m1 * 2 + 1, none⟩ = some (.int .i64 y.y))) ((fun w' => Below wi.heap.size wi w')) (by kernel_rfl) (⟨fun w2 h2 => ⟨(HD.out.below h2 HD.out.lt).cell (i := 0) (v := .int .i64 d.x) rfl, (HD.out.below h2 HD.out.lt).cell (i := 1) (v := .int .i64 d.y) rfl, (HCx.out _ h2).1, (HCx.out _ h2).2, (HCy.out _ h2).1, (HCy.out _ h2).2⟩, fun w2 w3 h2 hb2 => h2.trans (hb2.mono h2.size)⟩) ((Below.refl _ _).drew) (fun hCalm => ?_)
           refine grow_take 0 (some 18) ?_ rfl rfl (by kernel_rfl) (fun _ _ _ h => h) (by kernel_rfl) hCalm ?_ ?_
           rotate_left
           · intro wS hS; (try dsimp only at hS); go_simp <;> with_reducible rfl
           try simp only [Act.put, q8a, q8b, q8c]
           refine grow_take 1 (some 19) (.bool true) rfl rfl (by kernel_rfl) (fun _ _ _ h => h) (by kernel_rfl) hCalm ?_ ?_
           · intro wS hS; (try dsimp only at hS); go_simp
             all_goals omega
           try simp only [Act.put, q8a, q8b, q8c]
           refine grow_take 2 (some 20) ?_ rfl rfl (by kernel_rfl) (fun _ _ _ h => h) (by kernel_rfl) hCalm ?_ ?_
           rotate_left
           · intro wS hS; (try dsimp only at hS); go_simp <;> with_reducible rfl
           try simp only [Act.put, q8a, q8b, q8c]
           refine grow_take 3 (some 21) ?_ rfl rfl (by kernel_rfl) (fun _ _ _ h => h) (by kernel_rfl) hCalm ?_ ?_
           rotate_left
           · intro wS hS; (try dsimp only at hS); go_simp <;> with_reducible rfl
           try simp only [Act.put, q8a, q8b, q8c]
           refine grow_take 4 (some 22) ?_ rfl rfl (by kernel_rfl) (fun _ _ _ h => h) (by kernel_rfl) hCalm ?_ ?_
           rotate_left
           · intro wS hS; (try dsimp only at hS); go_simp <;> with_reducible rfl
           try simp only [Act.put, q8a, q8b, q8c]
           refine grow_take 5 (some 23) ?_ rfl rfl (by kernel_rfl) (fun _ _ _ h => h) (by kernel_rfl) hCalm ?_ ?_
           rotate_left
           · intro wS hS; (try dsimp only at hS); go_simp <;> with_reducible rfl
           try simp only [Act.put, q8a, q8b, q8c]
           refine grow_take 6 (some 24) ?_ rfl rfl (by kernel_rfl) (fun _ _ _ h => h) (by kernel_rfl) hCalm ?_ ?_
           rotate_left
           · intro wS hS; (try dsimp only at hS); go_simp <;> with_reducible rfl
           try simp only [Act.put, q8a, q8b, q8c]
           refine grow_take 7 (some 25) ?_ rfl rfl (by kernel_rfl) (fun _ _ _ h => h) (by kernel_rfl) hCalm ?_ ?_
           rotate_left
           · intro wS hS; (try dsimp only at hS); go_simp <;> with_reducible rfl
           try simp only [Act.put, q8a, q8b, q8c]
           refine grow_take 8 (some 26) ?_ rfl rfl (by kernel_rfl) (fun _ _ _ h => h) (by kernel_rfl) hCalm ?_ ?_
           rotate_left
           · intro wS hS; (try dsimp only at hS); go_simp <;> with_reducible rfl
           try simp only [Act.put, q8a, q8b, q8c]
           refine grow_take 9 (some 27) ?_ rfl rfl (by kernel_rfl) (fun _ _ _ h => h) (by kernel_rfl) hCalm ?_ ?_
           rotate_left
           · intro wS hS; (try dsimp only at hS); go_simp <;> with_reducible rfl
           try simp only [Act.put, q8a, q8b, q8c]
           refine grow_take 10 (some 28) ?_ rfl rfl (by kernel_rfl) (fun _ _ _ h => h) (by kernel_rfl) hCalm ?_ ?_
           rotate_left
           · intro wS hS; (try dsimp only at hS); go_simp <;> with_reducible rfl
           try simp only [Act.put, q8a, q8b, q8c]
           refine grow_take 11 (some 29) ?_ rfl rfl (by kernel_rfl) (fun _ _ _ h => h) (by kernel_rfl) hCalm ?_ ?_
           rotate_left
           · intro wS hS; (try dsimp only at hS); go_simp <;> with_reducible rfl
           try simp only [Act.put, q8a, q8b, q8c]
           refine grow_take 12 (some 30) ?_ rfl rfl (by kernel_rfl) (fun _ _ _ h => h) (by kernel_rfl) hCalm ?_ ?_
           rotate_left
           · intro wS hS; (try dsimp only at hS); go_simp <;> with_reducible rfl
           try simp only [Act.put, q8a, q8b, q8c]
           refine grow_take 13 (some 31) ?_ rfl rfl (by kernel_rfl) (fun _ _ _ h => h) (by kernel_rfl) hCalm ?_ ?_
           rotate_left
           · intro wS hS; (try dsimp only at hS); go_simp <;> with_reducible rfl
           try simp only [Act.put, q8a, q8b, q8c]
           refine grow_enter 14 (some 32) (.bool false) 47 (#[p7v x, p7v y, p7v d]) rfl rfl (by kernel_rfl) (fun _ _ _ h => h) (by kernel_rfl) hCalm (fun wz _ => (fits7_any x y d wz).eq (by rw [hf])) ?_ ?_
           · intro wS hS; (try dsimp only at hS); go_simp
           try simp only [Act.put, q8a, q8b, q8c]
           refine grow_take 15 (some 33) ?_ rfl rfl (by kernel_rfl) (fun _ _ _ h => h) (by kernel_rfl) hCalm ?_ ?_
           rotate_left
           · intro wS hS; (try dsimp only at hS); go_simp <;> with_reducible rfl
           try simp only [Act.put, q8a, q8b, q8c]
           refine grow_take 16 (some 34) ?_ rfl rfl (by kernel_rfl) (fun _ _ _ h => h) (by kernel_rfl) hCalm ?_ ?_
           rotate_left
           · intro wS hS; (try dsimp only at hS); go_simp <;> with_reducible rfl
           try simp only [Act.put, q8a, q8b, q8c]
           refine grow_done (by kernel_rfl) (fun wA hA => ?_) _
           have hb := hA; clear hA hCalm
           obtain ⟨wj, hwj⟩ : ∃ q, q = wA := ⟨_, rfl⟩
           rw [<- hwj] at hb ⊢
           clear hwj
           have HO9 := Lib.hid (HOW.out.below hb); have HD9 := Lib.hid (HD.out.below hb HD.out.lt); have HB9 := Lib.hid (HB.out.trans (hb.mono HB.out.size))
           clear HOW HD HB hb
           have HOW := HO9; have HD := HD9; have HB := HB9; clear HO9 HD9 HB9
           clear hf
           go_wp2_with fail
           go_roundw
           case rel => exact ⟨t - 1, by rw [show ((t - 1 : Nat) : Int) - 1 = (m2 : Int) by have := HM2.out; have := H2.out; omega], by have := HTL.out; omega, fun _ => by have := H2.out; omega, HN.out.symm.trans HPO.out, HOW.out, HD.out, HB.out⟩
           case measure => have := HM1.out; have := HM2.out; have := H2.out; simp [intOf]; omega
         case true =>
           have HST := Lib.hid (HPS.out hf)
           go_wp2_with fail
           refine wp_region_grow (S := (fun w' => w'.cell? ⟨wr.heap.size, 0, none⟩ = some (.int .i64 d.x) /\ w'.cell? ⟨wr.heap.size, 1, none⟩ = some (.int .i64 d.y) /\ w'.cell? ⟨b1, o1 + m2 * 2, none⟩ = some (.int .i64 x.x) /\ w'.cell? ⟨b1, o1 + m2 * 2 + 1, none⟩ = some (.int .i64 x.y) /\ w'.cell? ⟨b1, o1 + m1 * 2, none⟩ = some (.int .i64 y.x) /\ w'.cell? ⟨b1, o1 + m1 * 2 + 1, none⟩ = some (.int .i64 y.y))) ((fun w' => Below wi.heap.size wi w')) (by kernel_rfl) (⟨fun w2 h2 => ⟨(HD.out.below h2 HD.out.lt).cell (i := 0) (v := .int .i64 d.x) rfl, (HD.out.below h2 HD.out.lt).cell (i := 1) (v := .int .i64 d.y) rfl, (HCx.out _ h2).1, (HCx.out _ h2).2, (HCy.out _ h2).1, (HCy.out _ h2).2⟩, fun w2 w3 h2 hb2 => h2.trans (hb2.mono h2.size)⟩) ((Below.refl _ _).drew) (fun hCalm => ?_)
           refine grow_take 0 (some 18) ?_ rfl rfl (by kernel_rfl) (fun _ _ _ h => h) (by kernel_rfl) hCalm ?_ ?_
           rotate_left
           · intro wS hS; (try dsimp only at hS); go_simp <;> with_reducible rfl
           try simp only [Act.put, q8a, q8b, q8c]
           refine grow_take 1 (some 19) (.bool true) rfl rfl (by kernel_rfl) (fun _ _ _ h => h) (by kernel_rfl) hCalm ?_ ?_
           · intro wS hS; (try dsimp only at hS); go_simp
             all_goals omega
           try simp only [Act.put, q8a, q8b, q8c]
           refine grow_take 2 (some 20) ?_ rfl rfl (by kernel_rfl) (fun _ _ _ h => h) (by kernel_rfl) hCalm ?_ ?_
           rotate_left
           · intro wS hS; (try dsimp only at hS); go_simp <;> with_reducible rfl
           try simp only [Act.put, q8a, q8b, q8c]
           refine grow_take 3 (some 21) ?_ rfl rfl (by kernel_rfl) (fun _ _ _ h => h) (by kernel_rfl) hCalm ?_ ?_
           rotate_left
           · intro wS hS; (try dsimp only at hS); go_simp <;> with_reducible rfl
           try simp only [Act.put, q8a, q8b, q8c]
           refine grow_take 4 (some 22) ?_ rfl rfl (by kernel_rfl) (fun _ _ _ h => h) (by kernel_rfl) hCalm ?_ ?_
           rotate_left
           · intro wS hS; (try dsimp only at hS); go_simp <;> with_reducible rfl
           try simp only [Act.put, q8a, q8b, q8c]
           refine grow_take 5 (some 23) ?_ rfl rfl (by kernel_rfl) (fun _ _ _ h => h) (by kernel_rfl) hCalm ?_ ?_
           rotate_left
           · intro wS hS; (try dsimp only at hS); go_simp <;> with_reducible rfl
           try simp only [Act.put, q8a, q8b, q8c]
           refine grow_take 6 (some 24) ?_ rfl rfl (by kernel_rfl) (fun _ _ _ h => h) (by kernel_rfl) hCalm ?_ ?_
           rotate_left
           · intro wS hS; (try dsimp only at hS); go_simp <;> with_reducible rfl
           try simp only [Act.put, q8a, q8b, q8c]
           refine grow_take 7 (some 25) ?_ rfl rfl (by kernel_rfl) (fun _ _ _ h => h) (by kernel_rfl) hCalm ?_ ?_
           rotate_left
           · intro wS hS; (try dsimp only at hS); go_simp <;> with_reducible rfl
           try simp only [Act.put, q8a, q8b, q8c]
           refine grow_take 8 (some 26) ?_ rfl rfl (by kernel_rfl) (fun _ _ _ h => h) (by kernel_rfl) hCalm ?_ ?_
           rotate_left
           · intro wS hS; (try dsimp only at hS); go_simp <;> with_reducible rfl
           try simp only [Act.put, q8a, q8b, q8c]
           refine grow_take 9 (some 27) ?_ rfl rfl (by kernel_rfl) (fun _ _ _ h => h) (by kernel_rfl) hCalm ?_ ?_
           rotate_left
           · intro wS hS; (try dsimp only at hS); go_simp <;> with_reducible rfl
           try simp only [Act.put, q8a, q8b, q8c]
           refine grow_take 10 (some 28) ?_ rfl rfl (by kernel_rfl) (fun _ _ _ h => h) (by kernel_rfl) hCalm ?_ ?_
           rotate_left
           · intro wS hS; (try dsimp only at hS); go_simp <;> with_reducible rfl
           try simp only [Act.put, q8a, q8b, q8c]
           refine grow_take 11 (some 29) ?_ rfl rfl (by kernel_rfl) (fun _ _ _ h => h) (by kernel_rfl) hCalm ?_ ?_
           rotate_left
           · intro wS hS; (try dsimp only at hS); go_simp <;> with_reducible rfl
           try simp only [Act.put, q8a, q8b, q8c]
           refine grow_take 12 (some 30) ?_ rfl rfl (by kernel_rfl) (fun _ _ _ h => h) (by kernel_rfl) hCalm ?_ ?_
           rotate_left
           · intro wS hS; (try dsimp only at hS); go_simp <;> with_reducible rfl
           try simp only [Act.put, q8a, q8b, q8c]
           refine grow_take 13 (some 31) ?_ rfl rfl (by kernel_rfl) (fun _ _ _ h => h) (by kernel_rfl) hCalm ?_ ?_
           rotate_left
           · intro wS hS; (try dsimp only at hS); go_simp <;> with_reducible rfl
           try simp only [Act.put, q8a, q8b, q8c]
           refine grow_enter 14 (some 32) (.bool true) 47 (#[p7v x, p7v y, p7v d]) rfl rfl (by kernel_rfl) (fun _ _ _ h => h) (by kernel_rfl) hCalm (fun wz _ => (fits7_any x y d wz).eq (by rw [hf])) ?_ ?_
           · intro wS hS; (try dsimp only at hS); go_simp
           try simp only [Act.put, q8a, q8b, q8c]
           refine grow_take 15 (some 33) ?_ rfl rfl (by kernel_rfl) (fun _ _ _ h => h) (by kernel_rfl) hCalm ?_ ?_
           rotate_left
           · intro wS hS; (try dsimp only at hS); go_simp <;> with_reducible rfl
           try simp only [Act.put, q8a, q8b, q8c]
           refine grow_take 16 (some 34) ?_ rfl rfl (by kernel_rfl) (fun _ _ _ h => h) (by kernel_rfl) hCalm ?_ ?_
           rotate_left
           · intro wS hS; (try dsimp only at hS); go_simp <;> with_reducible rfl
           try simp only [Act.put, q8a, q8b, q8c]
           refine grow_done (by kernel_rfl) (fun wA hA => ?_) _
           have hb := hA; clear hA hCalm
           obtain ⟨wj, hwj⟩ : ∃ q, q = wA := ⟨_, rfl⟩
           rw [<- hwj] at hb ⊢
           clear hwj
           have HO9 := Lib.hid (HOW.out.below hb); have HD9 := Lib.hid (HD.out.below hb HD.out.lt); have HB9 := Lib.hid (HB.out.trans (hb.mono HB.out.size))
           clear HOW HD HB hb
           have HOW := HO9; have HD := HD9; have HB := HB9; clear HO9 HD9 HB9
           clear hf
           have HOC := Lib.hid (OwnL.cut2 HOW.out HTL.out)
           have hg1 : (0 : Int) <= (t : Int) := by omega
           have hg2 : (t : Int) <= (c1 : Int) := by have := HC1.out; have := HTL.out; omega
           have hg3 : t <= c1 := by have := HC1.out; have := HTL.out; omega
           go_wp2_with fail
           refine wp_region_grow (S := (fun w' => True)) ((fun w' => Below w.heap.size w w' /\ OwnL p7c 2 31 w' w.heap.size (.slice (some ⟨b1, o1, none⟩) t c1) (KS.take t) /\ Blk w' wr.heap.size 31 #[.int .i64 d.x, .int .i64 d.y])) (by kernel_rfl) (⟨fun w2 h2 => trivial, fun w2 w3 h2 hb2 => ⟨h2.1.trans (hb2.mono h2.1.size), OwnL.below h2.2.1 hb2, h2.2.2.below hb2 h2.2.2.lt⟩⟩) (⟨HB.out.drew, OwnL.drew HOC.out, HD.out.drew⟩) (fun hCalm => ?_)
           refine grow_take 0 (some 37) ?_ rfl rfl (by kernel_rfl) (fun _ _ _ h => h) (by kernel_rfl) hCalm ?_ ?_
           rotate_left
           · intro wS hS; (try dsimp only at hS); go_simp <;> with_reducible rfl
           try simp only [Act.put, q8a, q8b, q8c]
           refine grow_take 1 (some 38) ?_ rfl rfl (by kernel_rfl) (fun _ _ _ h => h) (by kernel_rfl) hCalm ?_ ?_
           rotate_left
           · intro wS hS; (try dsimp only at hS); go_simp <;> with_reducible rfl
           try simp only [Act.put, q8a, q8b, q8c]
           refine grow_take 2 (some 39) ?_ rfl rfl (by kernel_rfl) (fun _ _ _ h => h) (by kernel_rfl) hCalm ?_ ?_
           rotate_left
           · intro wS hS; (try dsimp only at hS); go_simp <;> with_reducible rfl
           try simp only [Act.put, q8a, q8b, q8c]
           refine grow_take 3 (some 40) ?_ rfl rfl (by kernel_rfl) (fun _ _ _ h => h) (by kernel_rfl) hCalm ?_ ?_
           rotate_left
           · intro wS hS; (try dsimp only at hS); go_simp <;> with_reducible rfl
           try simp only [Act.put, q8a, q8b, q8c]
           refine grow_each [4] (by kernel_rfl) (by decide) ?_
           refine grow_cons 4 rfl (by kernel_rfl) (fun wA hA K hK => ?_) grow_nil
           have z0 := hA.2.2.cell (i := 0) (v := .int .i64 d.x) rfl
           have z1 := hA.2.2.cell (i := 1) (v := .int .i64 d.y) rfl
           go_simp
           refine hK.out _ _ (fun w' => Below w.heap.size w w' /\ OwnL p7c 2 31 w' w.heap.size (.slice (some ⟨b1, o1, none⟩) t c1) (KS.take t)) ⟨fun w2 h2 => trivial, fun w2 w3 h2 hb2 => ⟨h2.1.trans (hb2.mono h2.1.size), OwnL.below h2.2 hb2⟩⟩ ⟨hA.1, hA.2.1⟩ ?_
           clear z0 z1 hK K hA wA hCalm
           have hCalm : Calm (fun w' => True) (fun w' => Below w.heap.size w w' /\ OwnL p7c 2 31 w' w.heap.size (.slice (some ⟨b1, o1, none⟩) t c1) (KS.take t)) := ⟨fun w2 h2 => trivial, fun w2 w3 h2 hb2 => ⟨h2.1.trans (hb2.mono h2.1.size), OwnL.below h2.2 hb2⟩⟩
           try simp only [Act.put, q8a, q8b, q8c]
           refine grow_each [5] (by kernel_rfl) (by decide) ?_
           refine grow_cons 5 rfl (by kernel_rfl) (fun wA hA K hK => ?_) grow_nil
           obtain ⟨pN, hpN⟩ : ∃ b, b = wA.heap.size := ⟨_, rfl⟩
           have hnew : Blk (wA.alloc (.cells #[.int .i64 d.x, .int .i64 d.y] 31)) pN 31 #[.int .i64 d.x, .int .i64 d.y] := by rw [hpN]; exact Blk.new wA _ _
           go_simp
           rw [<- hpN]
           refine hK.out _ _ (fun w' => Below w.heap.size w w' /\ OwnL p7c 2 31 w' w.heap.size (.slice (some ⟨b1, o1, none⟩) t c1) (KS.take t) /\ Blk w' pN 31 #[.int .i64 d.x, .int .i64 d.y]) ⟨fun w2 h2 => trivial, fun w2 w3 h2 hb2 => ⟨h2.1.trans (hb2.mono h2.1.size), OwnL.below h2.2.1 hb2, h2.2.2.below hb2 h2.2.2.lt⟩⟩ ⟨hA.1.alloc hA.1.size _, OwnL.below hA.2 ((Below.refl _ _).alloc (Nat.le_refl _) _), hnew⟩ ?_
           clear hnew hpN hK K hA wA hCalm
           have hCalm : Calm (fun w' => True) (fun w' => Below w.heap.size w w' /\ OwnL p7c 2 31 w' w.heap.size (.slice (some ⟨b1, o1, none⟩) t c1) (KS.take t) /\ Blk w' pN 31 #[.int .i64 d.x, .int .i64 d.y]) := ⟨fun w2 h2 => trivial, fun w2 w3 h2 hb2 => ⟨h2.1.trans (hb2.mono h2.1.size), OwnL.below h2.2.1 hb2, h2.2.2.below hb2 h2.2.2.lt⟩⟩
           try simp only [Act.put, q8a, q8b, q8c]
           refine grow_each [6] (by kernel_rfl) (by decide) ?_
           refine grow_cons 6 rfl (by kernel_rfl) (fun wA hA K hK => ?_) grow_nil
           refine wp_append_one apP _ _ rfl w.heap.size (.slice (some ⟨b1, o1, none⟩) t c1) (KS.take t) rfl hA.2.1 pN d rfl hA.2.2 (by have := HSM.out; have := HTL.out; rw [List.length_take]; omega) (Nat.le_trans (Nat.le_refl _) hA.1.size) ?_
           intro vN w2 hown2 hgrow2
           have hbg := hA.1.grown hgrow2 hA.1.size (fun k e => Nat.le_trans (Nat.le_refl _) (OwnL.block hA.2.1 e))
           refine hK.out _ _ (fun w' => Below w.heap.size w w' /\ OwnL p7c 2 31 w' w.heap.size vN ((KS.take t) ++ [d])) ⟨fun w2 h2 => trivial, fun w2 w3 h2 hb2 => ⟨h2.1.trans (hb2.mono h2.1.size), OwnL.below h2.2 hb2⟩⟩ ⟨hbg, hown2⟩ ?_
           clear hbg hown2 hgrow2 hK K hA wA hCalm w2
           have hCalm : Calm (fun w' => True) (fun w' => Below w.heap.size w w' /\ OwnL p7c 2 31 w' w.heap.size vN ((KS.take t) ++ [d])) := ⟨fun w2 h2 => trivial, fun w2 w3 h2 hb2 => ⟨h2.1.trans (hb2.mono h2.1.size), OwnL.below h2.2 hb2⟩⟩
           try simp only [Act.put, List.setIfInBounds_toArray]
           refine grow_take 7 (some 5) ?_ rfl rfl (by kernel_rfl) (fun _ _ _ h => h) (by kernel_rfl) hCalm ?_ ?_
           rotate_left
           · intro wS hS; (try dsimp only at hS); go_simp <;> with_reducible rfl
           try simp only [Act.put]
           refine grow_done (by kernel_rfl) (fun wA hA => ?_) _
           have HO3 := Lib.hid hA.2
           have HB3 := Lib.hid hA.1
           go_wp2_with fail
           go_roundw
           case rel => exact ⟨i + 1, vN, rfl, by go_num, HI.out, by rw [HT.out, <- HPO.out, HST.out]; simp; have := HTL.out; have := HKL.out; omega, by rw [HT.out, <- HPO.out, HST.out]; simpa using HO3.out, HB3.out⟩
           case measure => have := HI.out; simp [intOf]; omega
theorem run_copy_rowk {P : Program} (w : World) (dT sT ty elem : TypeId) (k n g o dLen dCap : Nat) (a : Addr) (sLen sCap : Nat) (cur : Array Value) (t : TypeId) (cs : List Value)
   (hu : P.underlying dT = some (.slice elem)) (hs : (P.info? elem).map (·.size) = some k)
   (hg : w.heap[g]? = some (.cells cur t (0, 0))) (hn : n = Nat.min sLen dLen) (hc : cs.length = n * k)
   (hsrc : ∀ j v, cs[j]? = some v -> w.cell? (a.add j) = some v) (hfit : o + cs.length <= cur.size) (h1 : ∀ v ∈ cs, v.oneCell' = true) :
   (Builtin.copy_ #[dT, sT] ty #[.slice (some ⟨g, o, none⟩) dLen dCap, .slice (some a) sLen sCap]).run P w =
     .ok (goInt n) (w.setRow g (cur.toList.take o ++ cs ++ cur.toList.drop (o + cs.length)).toArray) := by
 have hl := run_loadCells_list (P := P) w a cs hsrc
 have hst := run_storeCells_at P g o t cs 0 cur w hg (by simpa using hfit) h1
 rw [hc] at hl
 cases hq : P.info? elem with
 | none => simp [hq] at hs
 | some i =>
   have hi : i.size = k := by simpa [hq] using hs
   simp [Builtin.copy_, run_underlying hu, Builtin.lenOf, Builtin.firstCells, sizeOf, typeInfo, hq, hi, <- hn, hl, hst]
theorem run_copy_nonek {P : Program} (w : World) (dT sT ty elem : TypeId) (k : Nat) (d a : Option Addr) (dLen dCap sLen sCap : Nat) (hu : P.underlying dT = some (.slice elem)) (hs : (P.info? elem).map (·.size) = some k) (hn : Nat.min sLen dLen = 0) :
   (Builtin.copy_ #[dT, sT] ty #[.slice d dLen dCap, .slice a sLen sCap]).run P w = .ok (goInt 0) w := by
 cases hq : P.info? elem with
 | none => simp [hq] at hs
 | some i =>
   have hl : ∀ (x : Addr), (loadCells x 0).run P w = .ok #[] w := fun x => by simpa using run_loadCells_list (P := P) w x [] (by simp)
   cases d <;> cases a <;> simp [Builtin.copy_, run_underlying hu, Builtin.lenOf, Builtin.firstCells, sizeOf, typeInfo, hq, hn, storeCells, hl]
section
variable {α : Type} {cs : α -> List Value} {k : Nat} {T TS : TypeId}
theorem flat_len (hk : ∀ x, (cs x).length = k) (l : List α) : (l.flatMap cs).length = l.length * k := by
 induction l with
 | nil => simp
 | cons x r ih => simp only [List.flatMap_cons, List.length_append, List.length_cons, hk, ih]; rw [Nat.add_mul]; omega
theorem flat_take (hk : ∀ x, (cs x).length = k) (l : List α) (t : Nat) (ht : t <= l.length) : (l.take t).flatMap cs = (l.flatMap cs).take (t * k) := by
 have e : l.flatMap cs = (l.take t).flatMap cs ++ (l.drop t).flatMap cs := by rw [<- List.flatMap_append, List.take_append_drop]
 have e2 : ((l.take t).flatMap cs).length = t * k := by rw [flat_len hk, List.length_take, Nat.min_eq_left ht]
 rw [e, <- e2, List.take_left]
theorem flat_drop (hk : ∀ x, (cs x).length = k) (l : List α) (t : Nat) (ht : t <= l.length) : (l.drop t).flatMap cs = (l.flatMap cs).drop (t * k) := by
 have e : l.flatMap cs = (l.take t).flatMap cs ++ (l.drop t).flatMap cs := by rw [<- List.flatMap_append, List.take_append_drop]
 have e2 : ((l.take t).flatMap cs).length = t * k := by rw [flat_len hk, List.length_take, Nat.min_eq_left ht]
 rw [e, <- e2, List.drop_left]
theorem wp_copy_shift (ap : Ap cs k T TS) {w : World} {o : Oper} {a : Act} {K : Act -> World -> Prop} {Q : Exit -> Act -> World -> Prop} (d s : Operand)
   (ho : o.op = .call { callee := .builtin .copy, args := #[d, s], argTypes := #[TS, TS] }) (B g c m i : Nat) (L : List α) (hL : L.length = m) (hi : i + 1 <= m) (hown : OwnL cs k T w B (.slice (some ⟨g, 0, none⟩) m c) L)
   (dp sp : Option Addr) (dl sl dc sc : Nat) (hd : a.eval d = .slice dp dl dc) (hs : a.eval s = .slice sp sl sc) (hdl : dl = m - (i + 1)) (hsl : sl = m - i) (hdp : i + 1 < m -> dp = some ⟨g, (i + 1) * k, none⟩) (hsp : i + 1 < m -> sp = some ⟨g, i * k, none⟩)
   (h : ∀ v w', OwnL cs k T w' B (.slice (some ⟨g, 0, none⟩) m c) (L.take (i + 1) ++ (L.drop i).take (m - (i + 1))) -> w.grownBy w' (some g) -> (i + 1 = m -> w' = w) -> K (a.put o.dst v) w') : Oper.wp Tryz.prog o a w K Q := by
 subst hdl hsl
 obtain ⟨inf, z, b, hinf, hz, hsz, hb, hb1, hzc⟩ := ap.info
 have hsize : (Tryz.prog.info? T).map (·.size) = some k := by rw [hinf]; simp [hsz]
 subst hL
 by_cases hm : i + 1 < L.length
 · obtain rfl := hdp hm; obtain rfl := hsp hm
   have hcl : ((L.drop i).take (L.length - (i + 1))).length = L.length - (i + 1) := by rw [List.length_take, List.length_drop]; omega
   have hfl := flat_len (cs := cs) ap.len ((L.drop i).take (L.length - (i + 1)))
   rw [hcl] at hfl
   have h2 := hown.2
   unfold OwnL at hown
   rcases h2 with ⟨h1, _⟩ | ⟨g', cap, cur, h1, h2, h3, h4, h5, h6, h7⟩
   · cases h1
   · simp only [Value.slice.injEq, Option.some.injEq, Addr.mk.injEq] at h1
     obtain ⟨⟨rfl, -, -⟩, -, rfl⟩ := h1
     have hcur : ∀ j v, j < L.length * k -> (L.flatMap cs)[j]? = some v -> cur[j]? = some v := fun j v hj hv => by
       rw [<- h7, List.getElem?_take_of_lt hj] at hv; simpa using hv
     have hmul : (L.length - (i + 1)) * k + (i + 1) * k = L.length * k := by rw [<- Nat.add_mul, show L.length - (i + 1) + (i + 1) = L.length by omega]
     have hmul2 : (i + 1) * k = i * k + k := by rw [Nat.add_mul, Nat.one_mul]
     have hcap : L.length * k <= c * k := Nat.mul_le_mul_right k h4
     have hck : ∀ j v, (((L.drop i).take (L.length - (i + 1))).flatMap cs)[j]? = some v -> w.cell? ((⟨g, i * k, none⟩ : Addr).add j) = some v := fun j v hj => by
       have hj2 : j < (L.length - (i + 1)) * k := by rw [<- hfl]; exact (List.getElem?_eq_some_iff.1 hj).1
       have e : (⟨g, i * k, none⟩ : Addr).add j = ⟨g, i * k + j, none⟩ := by unfold Addr.add; split <;> simp_all
       rw [flat_take ap.len (L.drop i) (L.length - (i + 1)) (by rw [List.length_drop]; omega), flat_drop ap.len L i (by omega), List.getElem?_take_of_lt hj2, List.getElem?_drop] at hj
       rw [e]
       exact Blk.cell (show Blk w g T cur from h3) (hcur _ _ (by omega) hj)
     have hrun := run_copy_rowk (P := Tryz.prog) w TS TS o.type T k (L.length - (i + 1)) g ((i + 1) * k) (L.length - (i + 1)) dc ⟨g, i * k, none⟩ (L.length - i) sc cur T (((L.drop i).take (L.length - (i + 1))).flatMap cs) ap.und hsize h3 (by
       show _ = min _ _; omega) hfl hck (by rw [hfl, h6]; omega) (fun v hv => by
         obtain ⟨x, _, hx⟩ := List.mem_flatMap.1 hv
         exact ap.one x v hx)
     obtain ⟨row, hrow⟩ : ∃ row, row = (cur.toList.take ((i + 1) * k) ++ ((L.drop i).take (L.length - (i + 1))).flatMap cs ++ cur.toList.drop ((i + 1) * k + (((L.drop i).take (L.length - (i + 1))).flatMap cs).length)).toArray := ⟨_, rfl⟩
     rw [<- hrow] at hrun
     have hgo : w.grownBy (w.setRow g row) (some g) :=
       ⟨rfl, rfl, rfl, by simp [World.setRow], fun q _ hq => setRow_other w g q _ (fun e => hq (by rw [e]))⟩
     have hlen2 : (L.take (i + 1) ++ (L.drop i).take (L.length - (i + 1))).length = L.length := by rw [List.length_append, hcl, List.length_take]; omega
     have hown2 : OwnL cs k T (w.setRow g row) B (.slice (some ⟨g, 0, none⟩) L.length c) (L.take (i + 1) ++ (L.drop i).take (L.length - (i + 1))) := by
       unfold OwnL
       rw [hlen2]
       refine ⟨by rw [flat_len ap.len, hlen2], Or.inr ⟨g, c, _, rfl, h2, setRow_heap w g cur _ T _ h3, h4, h5, ?_, ?_⟩⟩
       · rw [hrow]; simp only [List.size_toArray, List.length_append, List.length_take, List.length_drop, Array.length_toList, hfl, h6]; omega
       · rw [hrow, List.flatMap_append, List.toList_toArray, List.append_assoc, List.take_append, List.take_append]
         simp only [List.length_take, Array.length_toList, h6, hfl]
         have e1 : min ((i + 1) * k) (c * k) = (i + 1) * k := by omega
         rw [e1, flat_take ap.len L (i + 1) (by omega), <- h7, List.take_take, List.take_take, Nat.min_eq_left (show (i + 1) * k <= L.length * k by omega), Nat.min_eq_right (show (i + 1) * k <= L.length * k by omega)]
         rw [List.take_of_length_le (show _ <= L.length * k - (i + 1) * k by rw [hfl]; omega), show L.length * k - (i + 1) * k - (L.length - (i + 1)) * k = 0 by omega, List.take_zero, List.append_nil]
     have hK := h (goInt ((L.length - (i + 1) : Nat) : Int)) _ hown2 hgo (fun e => by omega)
     unfold Oper.wp
     simp [execOp, ho, resolve, invoke, builtin, hd, hs, hrun, Result.andThen]
     exact hK
 · have hm1 : L.length = i + 1 := by omega
   have hrun := run_copy_nonek (P := Tryz.prog) w TS TS o.type T k dp sp (L.length - (i + 1)) dc (L.length - i) sc ap.und hsize (by show min _ _ = 0; omega)
   have e : L.take (i + 1) ++ (L.drop i).take (L.length - (i + 1)) = L := by rw [hm1, Nat.sub_self, List.take_zero, List.append_nil, List.take_of_length_le (by omega)]
   rw [e] at h
   have hK := h (goInt 0) w hown ⟨rfl, rfl, rfl, Nat.le_refl _, fun _ _ _ => rfl⟩ (fun _ => rfl)
   unfold Oper.wp
   simp [execOp, ho, resolve, invoke, builtin, hd, hs, hrun, Result.andThen]
   exact hK
end
theorem Oz.cells {w : World} {B g n c i : Nat} {L : List P7} (h : Oz w B (.slice (some ⟨g, 0, none⟩) n c) L) (hi : i < L.length) :
   (w.cell? ⟨g, i * 2, none⟩ = some (.int .i64 L[i].x) /\ w.cell? ⟨g, i * 2 + 1, none⟩ = some (.int .i64 L[i].y)) /\ w.frozen? ⟨g, i * 2, none⟩ = false /\ w.frozen? ⟨g, i * 2 + 1, none⟩ = false := by
 obtain ⟨A, c', e, hz, _⟩ := OwnL.read apP h
 simp only [Value.slice.injEq] at e
 obtain ⟨rfl, -, rfl⟩ := e
 have h1 := Pz.cell hz (Below.refl w.heap.size w) (Nat.le_refl _) hi
 rw [Nat.zero_add] at h1
 refine ⟨h1, ?_⟩
 rcases h.2 with ⟨h1, _⟩ | ⟨g', cap, cur, h1, _, h3, _⟩
 · cases h1
 · simp only [Value.slice.injEq, Option.some.injEq, Addr.mk.injEq] at h1
   obtain ⟨⟨rfl, -, -⟩, -, rfl⟩ := h1
   exact ⟨Blk.frozen (show Blk w g _ cur from h3) _, Blk.frozen (show Blk w g _ cur from h3) _⟩
theorem Oz.base {w : World} {B g n c : Nat} {L : List P7} (h : Oz w B (.slice (some ⟨g, 0, none⟩) n c) L) : B <= g := OwnL.block h rfl
theorem Oz.room {w : World} {B g n c : Nat} {L : List P7} (h : Oz w B (.slice (some ⟨g, 0, none⟩) n c) L) : L.length <= c := by
 rcases h.2 with ⟨h1, _⟩ | ⟨g', cap, cur, h1, _, _, h4, _⟩
 · cases h1
 · simp only [Value.slice.injEq] at h1
   obtain ⟨-, -, rfl⟩ := h1
   exact h4
theorem Oz.ne_blk {w : World} {B g q n c : Nat} {t : TypeId} {L : List P7} {x y : Value} (h : Oz w B (.slice (some ⟨g, 0, none⟩) n c) L) (hb : Blk w q t #[x, y]) (hL : 2 <= L.length) : g ≠ q := by
 rintro rfl
 rcases h.2 with ⟨h1, _⟩ | ⟨g', cap, cur, h1, _, h3, h4, h5, h6, _⟩
 · cases h1
 · simp only [Value.slice.injEq, Option.some.injEq, Addr.mk.injEq] at h1
   obtain ⟨⟨rfl, -, -⟩, -, rfl⟩ := h1
   unfold Blk at hb
   rw [hb] at h3
   simp only [Option.some.injEq, Obj.cells.injEq] at h3
   obtain ⟨rfl, -⟩ := h3
   simp only [List.size_toArray, List.length_cons, List.length_nil] at h6
   omega
theorem Oz.set {w : World} {B g c i : Nat} {L : List P7} (h : Oz w B (.slice (some ⟨g, 0, none⟩) L.length c) L) (hi : i < L.length) (p : P7) :
   Oz ((w.setCell ⟨g, i * 2, none⟩ (.int .i64 p.x)).setCell ⟨g, i * 2 + 1, none⟩ (.int .i64 p.y)) B (.slice (some ⟨g, 0, none⟩) L.length c) (L.set i p) := by
 have h2 := h.2
 rcases h2 with ⟨h1, _⟩ | ⟨g', cap, cur, h1, h2, h3, h4, h5, h6, h7⟩
 · cases h1
 · simp only [Value.slice.injEq, Option.some.injEq, Addr.mk.injEq] at h1
   obtain ⟨⟨rfl, -, -⟩, -, rfl⟩ := h1
   unfold Oz OwnL
   rw [List.length_set]
   refine ⟨by rw [flat_len (k := 2) (fun _ => rfl), List.length_set], Or.inr ⟨g, c, _, rfl, h2, ((show Blk w g _ cur from h3).set (i * 2) (.int .i64 p.x)).set (i * 2 + 1) (.int .i64 p.y), h4, h5, by simp [h6], ?_⟩⟩
   have key : ∀ (L : List P7) (i : Nat), i < L.length -> (L.set i p).flatMap p7c = ((L.flatMap p7c).set (i * 2) (.int .i64 p.x)).set (i * 2 + 1) (.int .i64 p.y) := by
     intro L
     induction L with
     | nil => intro i hi; simp at hi
     | cons x r ih =>
       intro i hi
       cases i with
       | zero => simp [p7c]
       | succ i =>
         rw [List.set_cons_succ, List.flatMap_cons, ih i (by simpa using hi), List.flatMap_cons, show (i + 1) * 2 = i * 2 + 1 + 1 by omega]
         simp [p7c]
   rw [key L i hi, <- h7, Array.toList_setIfInBounds, Array.toList_setIfInBounds, List.take_set, List.take_set]
set_option maxRecDepth 100000 in
set_option maxHeartbeats 8000000 in
theorem pisless_any (a b : P7) (w : World) : Yl 59 #[p7v a, p7v b] w (.bool (decide (lt7 a b))) := by
 by_cases h1 : a.y < b.y
 case pos =>
   rw [decide_eq_true (show lt7 a b from Or.inl h1)]
   have S_0 : Hid (Blk ((w.alloc (.cells #[.int .i64 a.x, .int .i64 a.y] 31)).alloc (.cells #[.int .i64 b.x, .int .i64 b.y] 31)) w.heap.size 31 #[.int .i64 a.x, .int .i64 a.y]) := allocs_blk [(#[.int .i64 a.x, .int .i64 a.y], 31), (#[.int .i64 b.x, .int .i64 b.y], 31)] w 0 _ rfl
   have T_0 : Hid (Blk ((w.alloc (.cells #[.int .i64 a.x, .int .i64 a.y] 31)).alloc (.cells #[.int .i64 b.x, .int .i64 b.y] 31)) (w.heap.size + 1) 31 #[.int .i64 b.x, .int .i64 b.y]) := allocs_blk [(#[.int .i64 a.x, .int .i64 a.y], 31), (#[.int .i64 b.x, .int .i64 b.y], 31)] w 1 _ rfl
   have HB_0 : Hid (Below w.heap.size w ((w.alloc (.cells #[.int .i64 a.x, .int .i64 a.y] 31)).alloc (.cells #[.int .i64 b.x, .int .i64 b.y] 31))) := allocs_below [(#[.int .i64 a.x, .int .i64 a.y], 31), (#[.int .i64 b.x, .int .i64 b.y], 31)] w (Below.refl w.heap.size w) (Nat.le_refl _)
   have hundef := un_none
   go_enter Tryz.func59, Tryz.ntmps59
   have yy0 := S_0.out.cell (i := 0) (v := .int .i64 a.x) rfl; have yy1 := S_0.out.cell (i := 1) (v := .int .i64 a.y) rfl
   have yy2 := T_0.out.cell (i := 0) (v := .int .i64 b.x) rfl; have yy3 := T_0.out.cell (i := 1) (v := .int .i64 b.y) rfl
   go_wp2_with fail
   go_ret
   exact ⟨rfl, HB_0.out⟩
 case neg =>
  by_cases h2 : a.y = b.y
  case neg =>
   rw [decide_eq_false (show ¬ lt7 a b by unfold lt7; omega)]
   have h2b : (a.y == b.y) = false := by simpa using h2
   have S_0 : Hid (Blk ((w.alloc (.cells #[.int .i64 a.x, .int .i64 a.y] 31)).alloc (.cells #[.int .i64 b.x, .int .i64 b.y] 31)) w.heap.size 31 #[.int .i64 a.x, .int .i64 a.y]) := allocs_blk [(#[.int .i64 a.x, .int .i64 a.y], 31), (#[.int .i64 b.x, .int .i64 b.y], 31)] w 0 _ rfl
   have T_0 : Hid (Blk ((w.alloc (.cells #[.int .i64 a.x, .int .i64 a.y] 31)).alloc (.cells #[.int .i64 b.x, .int .i64 b.y] 31)) (w.heap.size + 1) 31 #[.int .i64 b.x, .int .i64 b.y]) := allocs_blk [(#[.int .i64 a.x, .int .i64 a.y], 31), (#[.int .i64 b.x, .int .i64 b.y], 31)] w 1 _ rfl
   have HB_0 : Hid (Below w.heap.size w ((w.alloc (.cells #[.int .i64 a.x, .int .i64 a.y] 31)).alloc (.cells #[.int .i64 b.x, .int .i64 b.y] 31))) := allocs_below [(#[.int .i64 a.x, .int .i64 a.y], 31), (#[.int .i64 b.x, .int .i64 b.y], 31)] w (Below.refl w.heap.size w) (Nat.le_refl _)
   have hundef := un_none
   go_enter Tryz.func59, Tryz.ntmps59
   have yy0 := S_0.out.cell (i := 0) (v := .int .i64 a.x) rfl; have yy1 := S_0.out.cell (i := 1) (v := .int .i64 a.y) rfl
   have yy2 := T_0.out.cell (i := 0) (v := .int .i64 b.x) rfl; have yy3 := T_0.out.cell (i := 1) (v := .int .i64 b.y) rfl
   go_wp2_with fail
   go_ret
   exact ⟨rfl, HB_0.out⟩
  case pos =>
   have h2b : (a.y == b.y) = true := by simpa using h2
   by_cases h3 : a.x < b.x
   case pos =>
    rw [decide_eq_true (show lt7 a b from Or.inr ⟨h2, h3⟩)]
    clear h2
    have S_0 : Hid (Blk ((w.alloc (.cells #[.int .i64 a.x, .int .i64 a.y] 31)).alloc (.cells #[.int .i64 b.x, .int .i64 b.y] 31)) w.heap.size 31 #[.int .i64 a.x, .int .i64 a.y]) := allocs_blk [(#[.int .i64 a.x, .int .i64 a.y], 31), (#[.int .i64 b.x, .int .i64 b.y], 31)] w 0 _ rfl
    have T_0 : Hid (Blk ((w.alloc (.cells #[.int .i64 a.x, .int .i64 a.y] 31)).alloc (.cells #[.int .i64 b.x, .int .i64 b.y] 31)) (w.heap.size + 1) 31 #[.int .i64 b.x, .int .i64 b.y]) := allocs_blk [(#[.int .i64 a.x, .int .i64 a.y], 31), (#[.int .i64 b.x, .int .i64 b.y], 31)] w 1 _ rfl
    have HB_0 : Hid (Below w.heap.size w ((w.alloc (.cells #[.int .i64 a.x, .int .i64 a.y] 31)).alloc (.cells #[.int .i64 b.x, .int .i64 b.y] 31))) := allocs_below [(#[.int .i64 a.x, .int .i64 a.y], 31), (#[.int .i64 b.x, .int .i64 b.y], 31)] w (Below.refl w.heap.size w) (Nat.le_refl _)
    go_enter Tryz.func59, Tryz.ntmps59
    have yy0 := S_0.out.cell (i := 0) (v := .int .i64 a.x) rfl; have yy1 := S_0.out.cell (i := 1) (v := .int .i64 a.y) rfl
    have yy2 := T_0.out.cell (i := 0) (v := .int .i64 b.x) rfl; have yy3 := T_0.out.cell (i := 1) (v := .int .i64 b.y) rfl
    go_wp2_with fail
    go_ret
    exact ⟨rfl, HB_0.out⟩
   case neg =>
    rw [decide_eq_false (show ¬ lt7 a b by unfold lt7; omega)]
    clear h2
    have S_0 : Hid (Blk ((w.alloc (.cells #[.int .i64 a.x, .int .i64 a.y] 31)).alloc (.cells #[.int .i64 b.x, .int .i64 b.y] 31)) w.heap.size 31 #[.int .i64 a.x, .int .i64 a.y]) := allocs_blk [(#[.int .i64 a.x, .int .i64 a.y], 31), (#[.int .i64 b.x, .int .i64 b.y], 31)] w 0 _ rfl
    have T_0 : Hid (Blk ((w.alloc (.cells #[.int .i64 a.x, .int .i64 a.y] 31)).alloc (.cells #[.int .i64 b.x, .int .i64 b.y] 31)) (w.heap.size + 1) 31 #[.int .i64 b.x, .int .i64 b.y]) := allocs_blk [(#[.int .i64 a.x, .int .i64 a.y], 31), (#[.int .i64 b.x, .int .i64 b.y], 31)] w 1 _ rfl
    have HB_0 : Hid (Below w.heap.size w ((w.alloc (.cells #[.int .i64 a.x, .int .i64 a.y] 31)).alloc (.cells #[.int .i64 b.x, .int .i64 b.y] 31))) := allocs_below [(#[.int .i64 a.x, .int .i64 a.y], 31), (#[.int .i64 b.x, .int .i64 b.y], 31)] w (Below.refl w.heap.size w) (Nat.le_refl _)
    go_enter Tryz.func59, Tryz.ntmps59
    have yy0 := S_0.out.cell (i := 0) (v := .int .i64 a.x) rfl; have yy1 := S_0.out.cell (i := 1) (v := .int .i64 a.y) rfl
    have yy2 := T_0.out.cell (i := 0) (v := .int .i64 b.x) rfl; have yy3 := T_0.out.cell (i := 1) (v := .int .i64 b.y) rfl
    go_wp2_with fail
    go_ret
    exact ⟨rfl, HB_0.out⟩
theorem srt7_take {l : List P7} {i : Nat} (h : i < l.length) : srt7 (l.take (i + 1)) = ins7 (srt7 (l.take i)) l[i] := by
 unfold srt7
 rw [List.take_add_one, List.getElem?_eq_getElem h, Option.toList_some, List.foldl_append]; rfl
theorem getD_at {l : List P7} {i : Nat} (h : i < l.length) : l.getD i ⟨0, 0⟩ = l[i] := by
 rw [List.getD_eq_getElem?_getD, List.getElem?_eq_getElem h, Option.getD_some]
theorem idx7_less {l : List P7} {d : P7} {t : Nat} (h : 1 <= t) (hl : t <= l.length) (hd : lt7 d l[t - 1]) : idx7 l d t = idx7 l d (t - 1) := by
 obtain ⟨k, rfl⟩ : ∃ k, t = k + 1 := ⟨t - 1, by omega⟩
 rw [idx7, if_pos (by rw [getD_at (by omega)]; exact hd)]; rfl
theorem idx7_stop {l : List P7} {d : P7} {t : Nat} (h : 1 <= t) (hl : t <= l.length) (hd : ¬ lt7 d l[t - 1]) : idx7 l d t = t := by
 obtain ⟨k, rfl⟩ : ∃ k, t = k + 1 := ⟨t - 1, by omega⟩
 rw [idx7, if_neg (by rw [getD_at (by omega)]; exact hd)]
theorem ins7_in {l : List P7} {d : P7} {t : Nat} (ht : idx7 l d l.length = t) (h : t = 0 ∨ l.getD (t - 1) ⟨0, 0⟩ ≠ d) : ins7 l d = l.take t ++ d :: l.drop t := by
 unfold ins7; rw [ht, if_pos h]
theorem ins7_out {l : List P7} {d : P7} {t : Nat} (ht : idx7 l d l.length = t) (h : 1 <= t) (h2 : l.getD (t - 1) ⟨0, 0⟩ = d) : ins7 l d = l := by
 unfold ins7; rw [ht, if_neg (by rintro (h3 | h3); omega; exact h3 h2)]
theorem shifted {l : List P7} {d : P7} {t : Nat} (ht : t <= l.length) : (((l ++ [d]).take (t + 1) ++ ((l ++ [d]).drop t).take ((l ++ [d]).length - (t + 1))).set t d) = l.take t ++ d :: l.drop t := by
 have h1 : (l ++ [d]).take (t + 1) = l.take t ++ [(l ++ [d])[t]'(by simp; omega)] := by
   rw [List.take_add_one, List.getElem?_eq_getElem (by simp; omega), Option.toList_some, List.take_append_of_le_length ht]
 have h2 : ((l ++ [d]).drop t).take ((l ++ [d]).length - (t + 1)) = l.drop t := by
   rw [List.drop_append_of_le_length ht, List.take_append_of_le_length (by simp), List.take_of_length_le (by simp)]
 have h3 : (l.take t).length = t := by rw [List.length_take]; omega
 rw [h1, h2, List.append_assoc, List.set_append_right _ _ (by omega), h3, Nat.sub_self]
 simp
theorem ins7_len (l : List P7) (d : P7) : (ins7 l d).length <= l.length + 1 := by
 unfold ins7; split
 · simp; omega
 · omega
set_option maxRecDepth 100000 in
set_option maxHeartbeats 16000000 in
theorem psorted7_any (l : List P7) (A : Option Addr) (c : Nat) (w : World) (hA : Pz w A l) (hz : l.length <= 900000) :
   Calls Tryz.prog 46 #[.slice A l.length c] w fun e w' => (∃ v, e = .returned v /\ Oz w' w.heap.size v (srt7 l)) /\ Below w.heap.size w w' := by
 have HA := Lib.hid hA; clear hA
 go_enter Tryz.func46, Tryz.ntmps46
 go_wp2_with fail
 go_loopw [3, 9] (fun vv ii wr => ∃ (i : Nat) (v1 : Value), v1 = vv /\ ii = .int .i64 i /\ i <= l.length /\ ((srt7 (l.take i)).length <= i) /\ Oz wr w.heap.size v1 (srt7 (l.take i)) /\ Below w.heap.size w wr) (fun _ ii _ => l.length - (intOf ii).toNat)
 case atStart => exact ⟨0, _, rfl, rfl, Nat.zero_le _, Nat.le_refl _, OwnL.nil _ _, Below.refl _ _⟩
 case round =>
   obtain ⟨i, v1, rfl, rfl, hi, hki, hown, hB⟩ := hrel
   have HOW := Lib.hid hown; have HB := Lib.hid hB; clear hown hB
   by_cases hlt : i < l.length
   case neg =>
     obtain rfl : i = l.length := by omega
     have HE : Hid (l.take l.length = l) := Lib.hid List.take_length
     rw [HE.out] at HOW
     clear hlt hi HE hki
     go_wp2_with fail
     go_ret
     exact ⟨⟨_, rfl, HOW.out⟩, HB.out⟩
   case pos =>
     obtain ⟨b, o, rfl⟩ := HA.out.some (by omega)
     obtain ⟨k0, k1⟩ := Pz.cell HA.out HB.out (Nat.le_refl _) hlt
     have HT : Hid (srt7 (l.take (i + 1)) = ins7 (srt7 (l.take i)) l[i]) := Lib.hid (srt7_take hlt)
     obtain ⟨KS, hK⟩ : ∃ KS, KS = srt7 (l.take i) := ⟨_, rfl⟩
     have hkl : KS.length <= i := by rw [hK]; exact hki
     obtain ⟨d, hd⟩ : ∃ d, d = l[i] := ⟨_, rfl⟩
     rw [<- hd] at k0 k1 HT
     rw [<- hK] at HT HOW
     obtain ⟨A1, c1, rfl, hzK, hcap, _, hmax⟩ := OwnL.read apP HOW.out
     have q1 : (0 : Int) <= (i : Int) := by omega
     have q2 : (i : Int) < (l.length : Int) := by omega
     have q5 : (i : Int) <= 9223372036854775806 := by omega
     have HI := Lib.hid hlt; have HKL := Lib.hid hkl
     have HSM : Hid (KS.length <= 900000) := Lib.hid (by omega)
     have HLEN : Hid ((ins7 KS d).length <= i + 1) := Lib.hid (Nat.le_trans (ins7_len KS d) (by omega))
     have HPD : Hid (Value.ownBlock (.slice A1 KS.length c1) ≠ some wr.heap.size) := Lib.hid (fun e => by have := (World.ownsRow.lt HOW.out _ e).2; omega)
     clear hd hK hkl hki hlt hi hzK hcap
     have HO2 := Lib.hid (HOW.out.below ((Below.refl wr.heap.size wr).alloc (Nat.le_refl _) (.cells #[.int .i64 d.x, .int .i64 d.y] 31)))
     have HB2 := Lib.hid (HB.out.alloc HB.out.size (.cells #[.int .i64 d.x, .int .i64 d.y] 31))
     have HD := Lib.hid (Blk.new wr 31 #[.int .i64 d.x, .int .i64 d.y])
     have HWR := Lib.hid HB.out.size
     go_wp2_with fail
     clear k0 k1
     go_loopw [6] (fun jj wi => ∃ t : Nat, jj = .int .i64 t /\ t <= KS.length /\ idx7 KS d KS.length = idx7 KS d t /\ Oz wi w.heap.size (.slice A1 KS.length c1) KS /\ Blk wi wr.heap.size 31 #[.int .i64 d.x, .int .i64 d.y] /\ Below w.heap.size w wi) (fun jj _ => (intOf jj).toNat)
     case atStart => exact ⟨KS.length, rfl, Nat.le_refl _, rfl, HO2.out, HD.out, HB2.out⟩
     case round =>
       rename World => wi
       clear HO2 HB2 HD HOW HB
       obtain ⟨t, rfl, ht, hidx, hown, hD, hB⟩ := hrel
       have HOW := Lib.hid hown; have HB := Lib.hid hB; have HD := Lib.hid hD; have HIX := Lib.hid hidx; clear hown hB hD hidx
       have HTL := Lib.hid ht
       by_cases h2 : 1 <= t
       case neg =>
         have ht9 : t = 0 := by omega
         have HIN : Hid (ins7 KS d = KS.take t ++ d :: KS.drop t) := Lib.hid (ins7_in (by rw [HIX.out, ht9]; rfl) (Or.inl ht9))
         have hz9 : ((t : Int) == 0) = true := by rw [ht9]; rfl
         have hz8 : (t : Int) <= 0 := by omega
         clear h2 ht
         go_wp2_with fail
         refine wp_region_grow (S := (fun w' => True)) ((fun w' => Below wi.heap.size wi w')) (by kernel_rfl) (⟨fun w2 h2 => trivial, fun w2 w3 h2 hb2 => h2.trans (hb2.mono h2.size)⟩) ((Below.refl _ _).drew) (fun hCalm => ?_)
         refine grow_take 0 (some 15) ?_ rfl rfl (by kernel_rfl) (fun _ _ _ h => h) (by kernel_rfl) hCalm ?_ ?_
         rotate_left
         · intro wS hS; (try dsimp only at hS); go_simp <;> with_reducible rfl
         try simp only [Act.put, q8a, q8b, q8c]
         refine grow_take 1 (some 16) (.bool false) rfl rfl (by kernel_rfl) (fun _ _ _ h => h) (by kernel_rfl) hCalm ?_ ?_
         · intro wS hS; (try dsimp only at hS); go_simp
           all_goals omega
         try simp only [Act.put, q8a, q8b, q8c]
         refine grow_take 2 (some 17) ?_ rfl rfl (by kernel_rfl) (fun _ _ _ h => h) (by kernel_rfl) hCalm ?_ ?_
         rotate_left
         · intro wS hS; (try dsimp only at hS); go_simp <;> with_reducible rfl
         try simp only [Act.put, q8a, q8b, q8c]
         refine grow_skip 3 (some 18) rfl rfl (by kernel_rfl) (fun _ _ _ h => h) (by kernel_rfl) hCalm ?_
         try simp only [Act.put, q8a, q8b, q8c]
         refine grow_skip 4 (some 19) rfl rfl (by kernel_rfl) (fun _ _ _ h => h) (by kernel_rfl) hCalm ?_
         try simp only [Act.put, q8a, q8b, q8c]
         refine grow_skip 5 (some 20) rfl rfl (by kernel_rfl) (fun _ _ _ h => h) (by kernel_rfl) hCalm ?_
         try simp only [Act.put, q8a, q8b, q8c]
         refine grow_skip 6 (some 21) rfl rfl (by kernel_rfl) (fun _ _ _ h => h) (by kernel_rfl) hCalm ?_
         try simp only [Act.put, q8a, q8b, q8c]
         refine grow_skip 7 (some 22) rfl rfl (by kernel_rfl) (fun _ _ _ h => h) (by kernel_rfl) hCalm ?_
         try simp only [Act.put, q8a, q8b, q8c]
         refine grow_skip 8 (some 23) rfl rfl (by kernel_rfl) (fun _ _ _ h => h) (by kernel_rfl) hCalm ?_
         try simp only [Act.put, q8a, q8b, q8c]
         refine grow_skip 9 (some 24) rfl rfl (by kernel_rfl) (fun _ _ _ h => h) (by kernel_rfl) hCalm ?_
         try simp only [Act.put, q8a, q8b, q8c]
         refine grow_take 10 (some 25) ?_ rfl rfl (by kernel_rfl) (fun _ _ _ h => h) (by kernel_rfl) hCalm ?_ ?_
         rotate_left
         · intro wS hS; (try dsimp only at hS); go_simp <;> with_reducible rfl
         try simp only [Act.put, q8a, q8b, q8c]
         refine grow_done (by kernel_rfl) (fun wA hA => ?_) _
         have hb := hA; clear hA hCalm
         obtain ⟨wj, hwj⟩ : ∃ q, q = wA := ⟨_, rfl⟩
         rw [<- hwj] at hb ⊢
         clear hwj
         have HO9 := Lib.hid (HOW.out.below hb); have HD9 := Lib.hid (HD.out.below hb HD.out.lt); have HB9 := Lib.hid (HB.out.trans (hb.mono HB.out.size))
         clear HOW HD HB hb
         have HOW := HO9; have HD := HD9; have HB := HB9; clear HO9 HD9 HB9
         go_wp2_with fail
         refine wp_region_grow (S := (fun w' => True)) ((fun w' => Below wj.heap.size wj w')) (by kernel_rfl) (⟨fun w2 h2 => trivial, fun w2 w3 h2 hb2 => h2.trans (hb2.mono h2.size)⟩) ((Below.refl _ _).drew) (fun hCalm => ?_)
         refine grow_take 0 (some 28) ?_ rfl rfl (by kernel_rfl) (fun _ _ _ h => h) (by kernel_rfl) hCalm ?_ ?_
         rotate_left
         · intro wS hS; (try dsimp only at hS); go_simp <;> with_reducible rfl
         try simp only [Act.put, q8a, q8b, q8c]
         refine grow_take 1 (some 29) (.bool true) rfl rfl (by kernel_rfl) (fun _ _ _ h => h) (by kernel_rfl) hCalm ?_ ?_
         · intro wS hS; (try dsimp only at hS); go_simp
           all_goals omega
         try simp only [Act.put, q8a, q8b, q8c]
         refine grow_take 2 (some 30) ?_ rfl rfl (by kernel_rfl) (fun _ _ _ h => h) (by kernel_rfl) hCalm ?_ ?_
         rotate_left
         · intro wS hS; (try dsimp only at hS); go_simp <;> with_reducible rfl
         try simp only [Act.put, q8a, q8b, q8c]
         refine grow_skip 3 (some 31) rfl rfl (by kernel_rfl) (fun _ _ _ h => h) (by kernel_rfl) hCalm ?_
         try simp only [Act.put, q8a, q8b, q8c]
         refine grow_skip 4 (some 32) rfl rfl (by kernel_rfl) (fun _ _ _ h => h) (by kernel_rfl) hCalm ?_
         try simp only [Act.put, q8a, q8b, q8c]
         refine grow_skip 5 (some 33) rfl rfl (by kernel_rfl) (fun _ _ _ h => h) (by kernel_rfl) hCalm ?_
         try simp only [Act.put, q8a, q8b, q8c]
         refine grow_skip 6 (some 34) rfl rfl (by kernel_rfl) (fun _ _ _ h => h) (by kernel_rfl) hCalm ?_
         try simp only [Act.put, q8a, q8b, q8c]
         refine grow_skip 7 (some 35) rfl rfl (by kernel_rfl) (fun _ _ _ h => h) (by kernel_rfl) hCalm ?_
         try simp only [Act.put, q8a, q8b, q8c]
         refine grow_skip 8 (some 36) rfl rfl (by kernel_rfl) (fun _ _ _ h => h) (by kernel_rfl) hCalm ?_
         try simp only [Act.put, q8a, q8b, q8c]
         refine grow_skip 9 (some 37) rfl rfl (by kernel_rfl) (fun _ _ _ h => h) (by kernel_rfl) hCalm ?_
         try simp only [Act.put, q8a, q8b, q8c]
         refine grow_take 10 (some 38) ?_ rfl rfl (by kernel_rfl) (fun _ _ _ h => h) (by kernel_rfl) hCalm ?_ ?_
         rotate_left
         · intro wS hS; (try dsimp only at hS); go_simp <;> with_reducible rfl
         try simp only [Act.put, q8a, q8b, q8c]
         refine grow_done (by kernel_rfl) (fun wA hA => ?_) _
         have hb := hA; clear hA hCalm
         obtain ⟨wk, hwk⟩ : ∃ q, q = wA := ⟨_, rfl⟩
         rw [<- hwk] at hb ⊢
         clear hwk
         have HO9 := Lib.hid (HOW.out.below hb); have HD9 := Lib.hid (HD.out.below hb HD.out.lt); have HB9 := Lib.hid (HB.out.trans (hb.mono HB.out.size))
         clear HOW HD HB hb
         have HOW := HO9; have HD := HD9; have HB := HB9; clear HO9 HD9 HB9
         clear hz9 hz8 ht9
         have hz0 := HD.out.cell (i := 0) (v := .int .i64 d.x) rfl; have hz1 := HD.out.cell (i := 1) (v := .int .i64 d.y) rfl
         go_wp2_with (at_builtin; refine wpList_append_one apP rfl _ _ rfl w.heap.size (.slice A1 KS.length c1) KS rfl (show Oz (wk.alloc (.cells #[.int .i64 d.x, .int .i64 d.y] 31)) _ _ _ from HOW.out.below ((Below.refl _ _).alloc (Nat.le_refl _) _)) wk.heap.size d rfl (Blk.new wk _ _) (by have := HSM.out; omega) (by have := HB.out.size; simp; omega) ?_; intro v4 w4 hown4 hgrow4; have HO4 := Lib.hid hown4; have HB4 := Lib.hid ((HB.out.alloc HB.out.size _).grown hgrow4 (HB.out.alloc HB.out.size _).size (fun k e => OwnL.block HOW.out e)); have HD4 := Lib.hid (Blk.only (HD.out.alloc _) hgrow4 (fun e => HPD.out e.symm)); clear hown4 hgrow4 hz0 hz1; obtain ⟨g4, c4, e4, hg4⟩ := own_pos (n := KS.length) (show World.ownsRow w4 w.heap.size _ 2 v4 (KS.length + 1) _ from by have h := HO4.out; unfold OwnL at h; rw [List.length_append] at h; exact h); subst e4)
         obtain ⟨n1, hn1⟩ : ∃ n, n = KS.length + 1 := ⟨_, rfl⟩
         obtain ⟨t1, ht1⟩ : ∃ q, q = t + 1 := ⟨_, rfl⟩
         rw [<- hn1] at HO4 ⊢
         have HNE : Hid (2 <= n1 -> g4 ≠ wr.heap.size) := Lib.hid (fun h => Oz.ne_blk HO4.out HD4.out (by simp; omega))
         have hcc := Oz.room HO4.out
         simp only [List.length_append, List.length_singleton] at hcc
         have HTL2 := HTL.out
         have hw1 : IntKind.i64.wrap ((t : Int) + 1) = (t1 : Int) := by rw [show (t : Int) + 1 = (t1 : Int) by omega]; exact IntWalk.i64_in _ (by have := HSM.out; omega)
         have b1_ : (0 : Int) <= (t1 : Int) := by omega
         have b2_ : (t1 : Int) <= (n1 : Int) := by omega
         have b3_ : (n1 : Int) <= (c4 : Int) := by omega
         have b4_ : (0 : Int) <= (t : Int) := by omega
         have b5_ : (t : Int) <= (n1 : Int) := by omega
         have b6_ : ¬ c4 = t := by omega
         have b7_ : (t : Int) < (n1 : Int) := by omega
         have b8_ : t1 <= n1 := by omega
         have b9_ : t <= n1 := by omega
         have HN1 := Lib.hid hn1; have HT1 := Lib.hid ht1
         clear hn1 ht1 HTL2 hcc
         by_cases hc : c4 = t1
         case pos =>
           refine wp_region_grow (S := (fun w' => True)) ((fun w' => Below w.heap.size w w' /\ Oz w' w.heap.size (.slice (some ⟨g4, 0, none⟩) n1 c4) (KS ++ [d]) /\ Blk w' wr.heap.size 31 #[.int .i64 d.x, .int .i64 d.y])) (by kernel_rfl) (⟨fun w2 h2 => trivial, fun w2 w3 h2 hb2 => ⟨h2.1.trans (hb2.mono h2.1.size), OwnL.below h2.2.1 hb2, h2.2.2.below hb2 h2.2.2.lt⟩⟩) (⟨HB4.out.drew, OwnL.drew HO4.out, HD4.out.drew⟩) (fun hCalm => ?_)
           refine grow_take 0 (some 43) ?_ rfl rfl (by kernel_rfl) (fun _ _ _ h => h) (by kernel_rfl) hCalm ?_ ?_
           rotate_left
           · intro wS hS; (try dsimp only at hS); go_simp <;> with_reducible rfl
           try simp only [Act.put, q8a, q8b, q8c]
           refine grow_take 1 (some 44) ?_ rfl rfl (by kernel_rfl) (fun _ _ _ h => h) (by kernel_rfl) hCalm ?_ ?_
           rotate_left
           · intro wS hS; (try dsimp only at hS); go_simp <;> with_reducible rfl
           try simp only [Act.put, q8a, q8b, q8c]
           refine grow_take 2 (some 45) ?_ rfl rfl (by kernel_rfl) (fun _ _ _ h => h) (by kernel_rfl) hCalm ?_ ?_
           rotate_left
           · intro wS hS; (try dsimp only at hS); go_simp <;> with_reducible rfl
           try simp only [Act.put, q8a, q8b, q8c]
           refine grow_take 3 (some 46) ?_ rfl rfl (by kernel_rfl) (fun _ _ _ h => h) (by kernel_rfl) hCalm ?_ ?_
           rotate_left
           · intro wS hS; (try dsimp only at hS); go_simp <;> with_reducible rfl
           try simp only [Act.put, q8a, q8b, q8c]
           refine grow_take 4 (some 47) ?_ rfl rfl (by kernel_rfl) (fun _ _ _ h => h) (by kernel_rfl) hCalm ?_ ?_
           rotate_left
           · intro wS hS; (try dsimp only at hS); go_simp <;> with_reducible rfl
           try simp only [Act.put, q8a, q8b, q8c]
           refine grow_take 5 (some 48) ?_ rfl rfl (by kernel_rfl) (fun _ _ _ h => h) (by kernel_rfl) hCalm ?_ ?_
           rotate_left
           · intro wS hS; (try dsimp only at hS); go_simp <;> with_reducible rfl
           try simp only [Act.put, q8a, q8b, q8c]
           refine grow_take 6 (some 49) ?_ rfl rfl (by kernel_rfl) (fun _ _ _ h => h) (by kernel_rfl) hCalm ?_ ?_
           rotate_left
           · intro wS hS; (try dsimp only at hS); go_simp <;> with_reducible rfl
           try simp only [Act.put, q8a, q8b, q8c]
           refine grow_each [7] (by kernel_rfl) (by decide) ?_
           refine grow_cons 7 rfl (by kernel_rfl) (fun wA hA K hK => ?_) grow_nil
           refine wp_copy_shift apP _ _ rfl w.heap.size g4 c4 n1 t (KS ++ [d]) (by rw [HN1.out]; simp) (by have := HN1.out; have := HTL.out; omega) hA.2.1 _ _ _ _ _ _ rfl rfl (by have := HT1.out; omega) rfl (fun h => by have := HT1.out; have := hc; omega) (fun h => by have hq := HT1.out; simp <;> omega) ?_
           intro vN w5 hown5 hgrow5 hsame5
           have hbg := hA.1.grown hgrow5 hA.1.size (fun k e => by cases e; exact Oz.base hA.2.1)
           refine hK.out _ _ (fun w' => Below w.heap.size w w' /\ Oz w' w.heap.size (.slice (some ⟨g4, 0, none⟩) n1 c4) ((KS ++ [d]).take (t + 1) ++ ((KS ++ [d]).drop t).take (n1 - (t + 1))) /\ Blk w' wr.heap.size 31 #[.int .i64 d.x, .int .i64 d.y]) (⟨fun w2 h2 => trivial, fun w2 w3 h2 hb2 => ⟨h2.1.trans (hb2.mono h2.1.size), OwnL.below h2.2.1 hb2, h2.2.2.below hb2 h2.2.2.lt⟩⟩) ⟨hbg, hown5, if h5 : t + 1 = n1 then (by rw [hsame5 h5]; exact hA.2.2) else Blk.only hA.2.2 hgrow5 (fun e => HNE.out (by have := HN1.out; have := HTL.out; omega) (by cases e; rfl))⟩ ?_
           clear hbg hown5 hgrow5 hsame5 hK K hA wA hCalm w5
           have hCalm : Calm (fun w' => True) (fun w' => Below w.heap.size w w' /\ Oz w' w.heap.size (.slice (some ⟨g4, 0, none⟩) n1 c4) ((KS ++ [d]).take (t + 1) ++ ((KS ++ [d]).drop t).take (n1 - (t + 1))) /\ Blk w' wr.heap.size 31 #[.int .i64 d.x, .int .i64 d.y]) := ⟨fun w2 h2 => trivial, fun w2 w3 h2 hb2 => ⟨h2.1.trans (hb2.mono h2.1.size), OwnL.below h2.2.1 hb2, h2.2.2.below hb2 h2.2.2.lt⟩⟩
           try simp only [Act.put, List.setIfInBounds_toArray]
           refine grow_done (by kernel_rfl) (fun wA hA => ?_) _
           have HB6 := Lib.hid hA.1; have HO6 := Lib.hid hA.2.1; have HD6 := Lib.hid hA.2.2
           clear hA hCalm HB4 HO4 HD4
           obtain ⟨w6, hw6⟩ : ∃ q, q = wA := ⟨_, rfl⟩
           rw [<- hw6] at HB6 HO6 HD6 ⊢
           clear hw6
           have hln : ((KS ++ [d]).take (t + 1) ++ ((KS ++ [d]).drop t).take (n1 - (t + 1))).length = n1 := by have := HN1.out; have := HTL.out; simp; omega
           have hti : t < ((KS ++ [d]).take (t + 1) ++ ((KS ++ [d]).drop t).take (n1 - (t + 1))).length := by have := HN1.out; have := HTL.out; omega
           obtain ⟨⟨y0, y1⟩, y2, y3⟩ := Oz.cells HO6.out hti
           have HO7 := Oz.set (p := d) (by rw [hln]; exact HO6.out) hti
           rw [hln] at HO7
           have HSH : Hid ((((KS ++ [d]).take (t + 1) ++ ((KS ++ [d]).drop t).take (n1 - (t + 1)))).set t d = ins7 KS d) := Lib.hid (by rw [HIN.out, HN1.out]; have h := shifted (l := KS) (d := d) HTL.out; simpa using h)
           rw [HSH.out] at HO7
           have HO8 := Lib.hid HO7
           have hz0 := HD6.out.cell (i := 0) (v := .int .i64 d.x) rfl; have hz1 := HD6.out.cell (i := 1) (v := .int .i64 d.y) rfl
           have hbs := Oz.base HO6.out
           have HB8 := Lib.hid ((HB6.out.setCell (p := ⟨g4, t * 2, none⟩) hbs (.int .i64 d.x)).setCell (p := ⟨g4, t * 2 + 1, none⟩) hbs (.int .i64 d.y))
           clear hln HO7 hbs hc
           go_wp2_with fail
           clear y0 y1 y2 y3 hz0 hz1 hti
           go_roundw
           case rel => exact ⟨i + 1, _, rfl, by go_num, HI.out, by rw [HT.out]; exact HLEN.out, by rw [HT.out]; exact HO8.out, HB8.out⟩
           case measure => have := HI.out; simp [intOf]; omega
         case neg =>
           refine wp_region_grow (S := (fun w' => True)) ((fun w' => Below w.heap.size w w' /\ Oz w' w.heap.size (.slice (some ⟨g4, 0, none⟩) n1 c4) (KS ++ [d]) /\ Blk w' wr.heap.size 31 #[.int .i64 d.x, .int .i64 d.y])) (by kernel_rfl) (⟨fun w2 h2 => trivial, fun w2 w3 h2 hb2 => ⟨h2.1.trans (hb2.mono h2.1.size), OwnL.below h2.2.1 hb2, h2.2.2.below hb2 h2.2.2.lt⟩⟩) (⟨HB4.out.drew, OwnL.drew HO4.out, HD4.out.drew⟩) (fun hCalm => ?_)
           refine grow_take 0 (some 43) ?_ rfl rfl (by kernel_rfl) (fun _ _ _ h => h) (by kernel_rfl) hCalm ?_ ?_
           rotate_left
           · intro wS hS; (try dsimp only at hS); go_simp <;> with_reducible rfl
           try simp only [Act.put, q8a, q8b, q8c]
           refine grow_take 1 (some 44) ?_ rfl rfl (by kernel_rfl) (fun _ _ _ h => h) (by kernel_rfl) hCalm ?_ ?_
           rotate_left
           · intro wS hS; (try dsimp only at hS); go_simp <;> with_reducible rfl
           try simp only [Act.put, q8a, q8b, q8c]
           refine grow_take 2 (some 45) ?_ rfl rfl (by kernel_rfl) (fun _ _ _ h => h) (by kernel_rfl) hCalm ?_ ?_
           rotate_left
           · intro wS hS; (try dsimp only at hS); go_simp <;> with_reducible rfl
           try simp only [Act.put, q8a, q8b, q8c]
           refine grow_take 3 (some 46) ?_ rfl rfl (by kernel_rfl) (fun _ _ _ h => h) (by kernel_rfl) hCalm ?_ ?_
           rotate_left
           · intro wS hS; (try dsimp only at hS); go_simp <;> with_reducible rfl
           try simp only [Act.put, q8a, q8b, q8c]
           refine grow_take 4 (some 47) ?_ rfl rfl (by kernel_rfl) (fun _ _ _ h => h) (by kernel_rfl) hCalm ?_ ?_
           rotate_left
           · intro wS hS; (try dsimp only at hS); go_simp <;> with_reducible rfl
           try simp only [Act.put, q8a, q8b, q8c]
           refine grow_take 5 (some 48) ?_ rfl rfl (by kernel_rfl) (fun _ _ _ h => h) (by kernel_rfl) hCalm ?_ ?_
           rotate_left
           · intro wS hS; (try dsimp only at hS); go_simp <;> with_reducible rfl
           try simp only [Act.put, q8a, q8b, q8c]
           refine grow_take 6 (some 49) ?_ rfl rfl (by kernel_rfl) (fun _ _ _ h => h) (by kernel_rfl) hCalm ?_ ?_
           rotate_left
           · intro wS hS; (try dsimp only at hS); go_simp <;> with_reducible rfl
           try simp only [Act.put, q8a, q8b, q8c]
           refine grow_each [7] (by kernel_rfl) (by decide) ?_
           refine grow_cons 7 rfl (by kernel_rfl) (fun wA hA K hK => ?_) grow_nil
           refine wp_copy_shift apP _ _ rfl w.heap.size g4 c4 n1 t (KS ++ [d]) (by rw [HN1.out]; simp) (by have := HN1.out; have := HTL.out; omega) hA.2.1 _ _ _ _ _ _ rfl rfl (by have := HT1.out; omega) rfl (fun h => by rw [<- HT1.out]; first | done | simp [Addr.add]) (fun h => by have hq := HT1.out; simp <;> omega) ?_
           intro vN w5 hown5 hgrow5 hsame5
           have hbg := hA.1.grown hgrow5 hA.1.size (fun k e => by cases e; exact Oz.base hA.2.1)
           refine hK.out _ _ (fun w' => Below w.heap.size w w' /\ Oz w' w.heap.size (.slice (some ⟨g4, 0, none⟩) n1 c4) ((KS ++ [d]).take (t + 1) ++ ((KS ++ [d]).drop t).take (n1 - (t + 1))) /\ Blk w' wr.heap.size 31 #[.int .i64 d.x, .int .i64 d.y]) (⟨fun w2 h2 => trivial, fun w2 w3 h2 hb2 => ⟨h2.1.trans (hb2.mono h2.1.size), OwnL.below h2.2.1 hb2, h2.2.2.below hb2 h2.2.2.lt⟩⟩) ⟨hbg, hown5, if h5 : t + 1 = n1 then (by rw [hsame5 h5]; exact hA.2.2) else Blk.only hA.2.2 hgrow5 (fun e => HNE.out (by have := HN1.out; have := HTL.out; omega) (by cases e; rfl))⟩ ?_
           clear hbg hown5 hgrow5 hsame5 hK K hA wA hCalm w5
           have hCalm : Calm (fun w' => True) (fun w' => Below w.heap.size w w' /\ Oz w' w.heap.size (.slice (some ⟨g4, 0, none⟩) n1 c4) ((KS ++ [d]).take (t + 1) ++ ((KS ++ [d]).drop t).take (n1 - (t + 1))) /\ Blk w' wr.heap.size 31 #[.int .i64 d.x, .int .i64 d.y]) := ⟨fun w2 h2 => trivial, fun w2 w3 h2 hb2 => ⟨h2.1.trans (hb2.mono h2.1.size), OwnL.below h2.2.1 hb2, h2.2.2.below hb2 h2.2.2.lt⟩⟩
           try simp only [Act.put, List.setIfInBounds_toArray]
           refine grow_done (by kernel_rfl) (fun wA hA => ?_) _
           have HB6 := Lib.hid hA.1; have HO6 := Lib.hid hA.2.1; have HD6 := Lib.hid hA.2.2
           clear hA hCalm HB4 HO4 HD4
           obtain ⟨w6, hw6⟩ : ∃ q, q = wA := ⟨_, rfl⟩
           rw [<- hw6] at HB6 HO6 HD6 ⊢
           clear hw6
           have hln : ((KS ++ [d]).take (t + 1) ++ ((KS ++ [d]).drop t).take (n1 - (t + 1))).length = n1 := by have := HN1.out; have := HTL.out; simp; omega
           have hti : t < ((KS ++ [d]).take (t + 1) ++ ((KS ++ [d]).drop t).take (n1 - (t + 1))).length := by have := HN1.out; have := HTL.out; omega
           obtain ⟨⟨y0, y1⟩, y2, y3⟩ := Oz.cells HO6.out hti
           have HO7 := Oz.set (p := d) (by rw [hln]; exact HO6.out) hti
           rw [hln] at HO7
           have HSH : Hid ((((KS ++ [d]).take (t + 1) ++ ((KS ++ [d]).drop t).take (n1 - (t + 1)))).set t d = ins7 KS d) := Lib.hid (by rw [HIN.out, HN1.out]; have h := shifted (l := KS) (d := d) HTL.out; simpa using h)
           rw [HSH.out] at HO7
           have HO8 := Lib.hid HO7
           have hz0 := HD6.out.cell (i := 0) (v := .int .i64 d.x) rfl; have hz1 := HD6.out.cell (i := 1) (v := .int .i64 d.y) rfl
           have hbs := Oz.base HO6.out
           have HB8 := Lib.hid ((HB6.out.setCell (p := ⟨g4, t * 2, none⟩) hbs (.int .i64 d.x)).setCell (p := ⟨g4, t * 2 + 1, none⟩) hbs (.int .i64 d.y))
           clear hln HO7 hbs hc
           go_wp2_with fail
           clear y0 y1 y2 y3 hz0 hz1 hti
           go_roundw
           case rel => exact ⟨i + 1, _, rfl, by go_num, HI.out, by rw [HT.out]; exact HLEN.out, by rw [HT.out]; exact HO8.out, HB8.out⟩
           case measure => have := HI.out; simp [intOf]; omega
       case pos =>
         obtain ⟨b1, o1, rfl⟩ : ∃ b1 o1, A1 = some ⟨b1, o1, none⟩ := by
           obtain ⟨A3, c3, e3, hz3, _⟩ := OwnL.read apP HOW.out
           simp only [Value.slice.injEq] at e3
           obtain ⟨rfl, -, rfl⟩ := e3
           exact hz3.some (by omega)
         obtain ⟨m1, hm1⟩ : ∃ m, m = t - 1 := ⟨_, rfl⟩
         have hl1 : m1 < KS.length := by omega
         have hzz : Pz wi (some ⟨b1, o1, none⟩) KS := by
           obtain ⟨A3, c3, e3, hz3, _⟩ := OwnL.read apP HOW.out
           simp only [Value.slice.injEq] at e3
           obtain ⟨rfl, -, rfl⟩ := e3
           exact hz3
         have HCx : Hid (∀ W, Below wi.heap.size wi W -> W.cell? ⟨b1, o1 + m1 * 2, none⟩ = some (.int .i64 KS[m1].x) /\ W.cell? ⟨b1, o1 + m1 * 2 + 1, none⟩ = some (.int .i64 KS[m1].y)) := Lib.hid (fun W hW => Pz.cell hzz hW (Nat.le_refl _) hl1)
         have HPG : Hid (lt7 d KS[m1] -> idx7 KS d KS.length = idx7 KS d m1) := Lib.hid (fun h => by subst hm1; exact HIX.out.trans (idx7_less h2 ht h))
         have HPS : Hid (¬ lt7 d KS[m1] -> idx7 KS d KS.length = t) := Lib.hid (fun h => by subst hm1; exact HIX.out.trans (idx7_stop h2 ht h))
         have HGT : Hid (KS.getD (t - 1) ⟨0, 0⟩ = KS[m1]) := Lib.hid (by subst hm1; exact getD_at hl1)
         obtain ⟨x, hx⟩ : ∃ x, x = KS[m1] := ⟨_, rfl⟩
         rw [<- hx] at HPS HPG HCx HGT
         have HIL := Lib.hid (fun W => pisless_any d x W)
         have p0 : (0 : Int) < (t : Int) := by omega
         have p2 : IntKind.i64.wrap ((t : Int) - 1) = (m1 : Int) := by rw [show (t : Int) - 1 = (m1 : Int) by omega]; exact IntWalk.i64_in _ (by have := HSM.out; omega)
         have r1 : (0 : Int) <= (m1 : Int) := by omega
         have r2 : (m1 : Int) < (KS.length : Int) := by omega
         have hz9 : ((t : Int) == 0) = false := by simp; omega
         have HM1 : Hid (m1 = t - 1) := Lib.hid hm1
         have H2 : Hid (1 <= t) := Lib.hid h2
         clear hx hl1 hm1 h2 ht hzz
         by_cases hf : lt7 d x
         case pos =>
           have HN := Lib.hid (HPG.out hf)
           rw [decide_eq_true hf] at HIL
           clear hf
           go_wp2_with fail
           refine wp_region_grow (S := (fun w' => w'.cell? ⟨wr.heap.size, 0, none⟩ = some (.int .i64 d.x) /\ w'.cell? ⟨wr.heap.size, 1, none⟩ = some (.int .i64 d.y) /\ w'.cell? ⟨b1, o1 + m1 * 2, none⟩ = some (.int .i64 x.x) /\ w'.cell? ⟨b1, o1 + m1 * 2 + 1, none⟩ = some (.int .i64 x.y))) ((fun w' => Below wi.heap.size wi w')) (by kernel_rfl) (⟨fun w2 h2 => ⟨(HD.out.below h2 HD.out.lt).cell (i := 0) (v := .int .i64 d.x) rfl, (HD.out.below h2 HD.out.lt).cell (i := 1) (v := .int .i64 d.y) rfl, (HCx.out _ h2).1, (HCx.out _ h2).2⟩, fun w2 w3 h2 hb2 => h2.trans (hb2.mono h2.size)⟩) ((Below.refl _ _).drew) (fun hCalm => ?_)
           refine grow_take 0 (some 15) ?_ rfl rfl (by kernel_rfl) (fun _ _ _ h => h) (by kernel_rfl) hCalm ?_ ?_
           rotate_left
           · intro wS hS; (try dsimp only at hS); go_simp <;> with_reducible rfl
           try simp only [Act.put, q8a, q8b, q8c]
           refine grow_take 1 (some 16) (.bool true) rfl rfl (by kernel_rfl) (fun _ _ _ h => h) (by kernel_rfl) hCalm ?_ ?_
           · intro wS hS; (try dsimp only at hS); go_simp
             all_goals omega
           try simp only [Act.put, q8a, q8b, q8c]
           refine grow_take 2 (some 17) ?_ rfl rfl (by kernel_rfl) (fun _ _ _ h => h) (by kernel_rfl) hCalm ?_ ?_
           rotate_left
           · intro wS hS; (try dsimp only at hS); go_simp <;> with_reducible rfl
           try simp only [Act.put, q8a, q8b, q8c]
           refine grow_take 3 (some 18) ?_ rfl rfl (by kernel_rfl) (fun _ _ _ h => h) (by kernel_rfl) hCalm ?_ ?_
           rotate_left
           · intro wS hS; (try dsimp only at hS); go_simp <;> with_reducible rfl
           try simp only [Act.put, q8a, q8b, q8c]
           refine grow_take 4 (some 19) ?_ rfl rfl (by kernel_rfl) (fun _ _ _ h => h) (by kernel_rfl) hCalm ?_ ?_
           rotate_left
           · intro wS hS; (try dsimp only at hS); go_simp <;> with_reducible rfl
           try simp only [Act.put, q8a, q8b, q8c]
           refine grow_take 5 (some 20) ?_ rfl rfl (by kernel_rfl) (fun _ _ _ h => h) (by kernel_rfl) hCalm ?_ ?_
           rotate_left
           · intro wS hS; (try dsimp only at hS); go_simp <;> with_reducible rfl
           try simp only [Act.put, q8a, q8b, q8c]
           refine grow_take 6 (some 21) ?_ rfl rfl (by kernel_rfl) (fun _ _ _ h => h) (by kernel_rfl) hCalm ?_ ?_
           rotate_left
           · intro wS hS; (try dsimp only at hS); go_simp <;> with_reducible rfl
           try simp only [Act.put, q8a, q8b, q8c]
           refine grow_take 7 (some 22) ?_ rfl rfl (by kernel_rfl) (fun _ _ _ h => h) (by kernel_rfl) hCalm ?_ ?_
           rotate_left
           · intro wS hS; (try dsimp only at hS); go_simp <;> with_reducible rfl
           try simp only [Act.put, q8a, q8b, q8c]
           refine grow_take 8 (some 23) ?_ rfl rfl (by kernel_rfl) (fun _ _ _ h => h) (by kernel_rfl) hCalm ?_ ?_
           rotate_left
           · intro wS hS; (try dsimp only at hS); go_simp <;> with_reducible rfl
           try simp only [Act.put, q8a, q8b, q8c]
           refine grow_call 9 (some 24) (.bool true) 59 [.tmp 18, .tmp 23] #[31, 31] rfl rfl (by kernel_rfl) (fun _ _ _ h => h) (by kernel_rfl) hCalm rfl (enters_of Tryz.func59 (by kernel_rfl) rfl) (fun wz _ => HIL.out wz) (by kernel_rfl) ?_
           try simp only [Act.put, q8a, q8b, q8c]
           refine grow_take 10 (some 25) ?_ rfl rfl (by kernel_rfl) (fun _ _ _ h => h) (by kernel_rfl) hCalm ?_ ?_
           rotate_left
           · intro wS hS; (try dsimp only at hS); go_simp <;> with_reducible rfl
           try simp only [Act.put, q8a, q8b, q8c]
           refine grow_done (by kernel_rfl) (fun wA hA => ?_) _
           have hb := hA; clear hA hCalm
           obtain ⟨wj, hwj⟩ : ∃ q, q = wA := ⟨_, rfl⟩
           rw [<- hwj] at hb ⊢
           clear hwj
           have HO9 := Lib.hid (HOW.out.below hb); have HD9 := Lib.hid (HD.out.below hb HD.out.lt); have HB9 := Lib.hid (HB.out.trans (hb.mono HB.out.size))
           clear HOW HD HB hb
           have HOW := HO9; have HD := HD9; have HB := HB9; clear HO9 HD9 HB9
           go_wp2_with fail
           go_roundw
           case rel => exact ⟨m1, rfl, by have := HTL.out; have := HM1.out; omega, HN.out, HOW.out, HD.out, HB.out⟩
           case measure => have := HM1.out; have := H2.out; simp [intOf]; omega
         case neg =>
           have HN := Lib.hid (HPS.out hf)
           rw [decide_eq_false hf] at HIL
           clear hf
           have HCk : Hid (∀ W, Below wi.heap.size wi W -> W.cell? ⟨b1, o1 + m1 * 2, none⟩ = some (.int .i64 x.x) /\ W.cell? ⟨b1, o1 + m1 * 2 + 1, none⟩ = some (.int .i64 x.y)) := HCx
           go_wp2_with fail
           refine wp_region_grow (S := (fun w' => w'.cell? ⟨wr.heap.size, 0, none⟩ = some (.int .i64 d.x) /\ w'.cell? ⟨wr.heap.size, 1, none⟩ = some (.int .i64 d.y) /\ w'.cell? ⟨b1, o1 + m1 * 2, none⟩ = some (.int .i64 x.x) /\ w'.cell? ⟨b1, o1 + m1 * 2 + 1, none⟩ = some (.int .i64 x.y))) ((fun w' => Below wi.heap.size wi w')) (by kernel_rfl) (⟨fun w2 h2 => ⟨(HD.out.below h2 HD.out.lt).cell (i := 0) (v := .int .i64 d.x) rfl, (HD.out.below h2 HD.out.lt).cell (i := 1) (v := .int .i64 d.y) rfl, (HCx.out _ h2).1, (HCx.out _ h2).2⟩, fun w2 w3 h2 hb2 => h2.trans (hb2.mono h2.size)⟩) ((Below.refl _ _).drew) (fun hCalm => ?_)
           refine grow_take 0 (some 15) ?_ rfl rfl (by kernel_rfl) (fun _ _ _ h => h) (by kernel_rfl) hCalm ?_ ?_
           rotate_left
           · intro wS hS; (try dsimp only at hS); go_simp <;> with_reducible rfl
           try simp only [Act.put, q8a, q8b, q8c]
           refine grow_take 1 (some 16) (.bool true) rfl rfl (by kernel_rfl) (fun _ _ _ h => h) (by kernel_rfl) hCalm ?_ ?_
           · intro wS hS; (try dsimp only at hS); go_simp
             all_goals omega
           try simp only [Act.put, q8a, q8b, q8c]
           refine grow_take 2 (some 17) ?_ rfl rfl (by kernel_rfl) (fun _ _ _ h => h) (by kernel_rfl) hCalm ?_ ?_
           rotate_left
           · intro wS hS; (try dsimp only at hS); go_simp <;> with_reducible rfl
           try simp only [Act.put, q8a, q8b, q8c]
           refine grow_take 3 (some 18) ?_ rfl rfl (by kernel_rfl) (fun _ _ _ h => h) (by kernel_rfl) hCalm ?_ ?_
           rotate_left
           · intro wS hS; (try dsimp only at hS); go_simp <;> with_reducible rfl
           try simp only [Act.put, q8a, q8b, q8c]
           refine grow_take 4 (some 19) ?_ rfl rfl (by kernel_rfl) (fun _ _ _ h => h) (by kernel_rfl) hCalm ?_ ?_
           rotate_left
           · intro wS hS; (try dsimp only at hS); go_simp <;> with_reducible rfl
           try simp only [Act.put, q8a, q8b, q8c]
           refine grow_take 5 (some 20) ?_ rfl rfl (by kernel_rfl) (fun _ _ _ h => h) (by kernel_rfl) hCalm ?_ ?_
           rotate_left
           · intro wS hS; (try dsimp only at hS); go_simp <;> with_reducible rfl
           try simp only [Act.put, q8a, q8b, q8c]
           refine grow_take 6 (some 21) ?_ rfl rfl (by kernel_rfl) (fun _ _ _ h => h) (by kernel_rfl) hCalm ?_ ?_
           rotate_left
           · intro wS hS; (try dsimp only at hS); go_simp <;> with_reducible rfl
           try simp only [Act.put, q8a, q8b, q8c]
           refine grow_take 7 (some 22) ?_ rfl rfl (by kernel_rfl) (fun _ _ _ h => h) (by kernel_rfl) hCalm ?_ ?_
           rotate_left
           · intro wS hS; (try dsimp only at hS); go_simp <;> with_reducible rfl
           try simp only [Act.put, q8a, q8b, q8c]
           refine grow_take 8 (some 23) ?_ rfl rfl (by kernel_rfl) (fun _ _ _ h => h) (by kernel_rfl) hCalm ?_ ?_
           rotate_left
           · intro wS hS; (try dsimp only at hS); go_simp <;> with_reducible rfl
           try simp only [Act.put, q8a, q8b, q8c]
           refine grow_call 9 (some 24) (.bool false) 59 [.tmp 18, .tmp 23] #[31, 31] rfl rfl (by kernel_rfl) (fun _ _ _ h => h) (by kernel_rfl) hCalm rfl (enters_of Tryz.func59 (by kernel_rfl) rfl) (fun wz _ => HIL.out wz) (by kernel_rfl) ?_
           try simp only [Act.put, q8a, q8b, q8c]
           refine grow_take 10 (some 25) ?_ rfl rfl (by kernel_rfl) (fun _ _ _ h => h) (by kernel_rfl) hCalm ?_ ?_
           rotate_left
           · intro wS hS; (try dsimp only at hS); go_simp <;> with_reducible rfl
           try simp only [Act.put, q8a, q8b, q8c]
           refine grow_done (by kernel_rfl) (fun wA hA => ?_) _
           have hb := hA; clear hA hCalm
           obtain ⟨wj, hwj⟩ : ∃ q, q = wA := ⟨_, rfl⟩
           rw [<- hwj] at hb ⊢
           clear hwj
           have HCx : Hid (∀ W, Below wj.heap.size wj W -> W.cell? ⟨b1, o1 + m1 * 2, none⟩ = some (.int .i64 x.x) /\ W.cell? ⟨b1, o1 + m1 * 2 + 1, none⟩ = some (.int .i64 x.y)) := Lib.hid (fun W hW => HCk.out W (hb.trans (hW.mono hb.size)))
           have HO9 := Lib.hid (HOW.out.below hb); have HD9 := Lib.hid (HD.out.below hb HD.out.lt); have HB9 := Lib.hid (HB.out.trans (hb.mono HB.out.size))
           clear HOW HD HB hb
           have HOW := HO9; have HD := HD9; have HB := HB9; clear HO9 HD9 HB9
           by_cases he : x = d
           case pos =>
             have HEQ : Hid (ins7 KS d = KS) := Lib.hid (ins7_out HN.out H2.out (by rw [HGT.out]; exact he))
             have he1 : (x.x == d.x) = true := by rw [he]; simp
             have he2 : (x.y == d.y) = true := by rw [he]; simp
             clear he
             go_wp2_with fail
             refine wp_region_grow (S := (fun w' => w'.cell? ⟨wr.heap.size, 0, none⟩ = some (.int .i64 d.x) /\ w'.cell? ⟨wr.heap.size, 1, none⟩ = some (.int .i64 d.y) /\ w'.cell? ⟨b1, o1 + m1 * 2, none⟩ = some (.int .i64 x.x) /\ w'.cell? ⟨b1, o1 + m1 * 2 + 1, none⟩ = some (.int .i64 x.y))) ((fun w' => Below wj.heap.size wj w')) (by kernel_rfl) (⟨fun w2 h2 => ⟨(HD.out.below h2 HD.out.lt).cell (i := 0) (v := .int .i64 d.x) rfl, (HD.out.below h2 HD.out.lt).cell (i := 1) (v := .int .i64 d.y) rfl, (HCx.out _ h2).1, (HCx.out _ h2).2⟩, fun w2 w3 h2 hb2 => h2.trans (hb2.mono h2.size)⟩) ((Below.refl _ _).drew) (fun hCalm => ?_)
             refine grow_take 0 (some 28) ?_ rfl rfl (by kernel_rfl) (fun _ _ _ h => h) (by kernel_rfl) hCalm ?_ ?_
             rotate_left
             · intro wS hS; (try dsimp only at hS); go_simp <;> with_reducible rfl
             try simp only [Act.put, q8a, q8b, q8c]
             refine grow_take 1 (some 29) (.bool false) rfl rfl (by kernel_rfl) (fun _ _ _ h => h) (by kernel_rfl) hCalm ?_ ?_
             · intro wS hS; (try dsimp only at hS); go_simp
               all_goals omega
             try simp only [Act.put, q8a, q8b, q8c]
             refine grow_take 2 (some 30) ?_ rfl rfl (by kernel_rfl) (fun _ _ _ h => h) (by kernel_rfl) hCalm ?_ ?_
             rotate_left
             · intro wS hS; (try dsimp only at hS); go_simp <;> with_reducible rfl
             try simp only [Act.put, q8a, q8b, q8c]
             refine grow_take 3 (some 31) ?_ rfl rfl (by kernel_rfl) (fun _ _ _ h => h) (by kernel_rfl) hCalm ?_ ?_
             rotate_left
             · intro wS hS; (try dsimp only at hS); go_simp <;> with_reducible rfl
             try simp only [Act.put, q8a, q8b, q8c]
             refine grow_take 4 (some 32) ?_ rfl rfl (by kernel_rfl) (fun _ _ _ h => h) (by kernel_rfl) hCalm ?_ ?_
             rotate_left
             · intro wS hS; (try dsimp only at hS); go_simp <;> with_reducible rfl
             try simp only [Act.put, q8a, q8b, q8c]
             refine grow_take 5 (some 33) ?_ rfl rfl (by kernel_rfl) (fun _ _ _ h => h) (by kernel_rfl) hCalm ?_ ?_
             rotate_left
             · intro wS hS; (try dsimp only at hS); go_simp <;> with_reducible rfl
             try simp only [Act.put, q8a, q8b, q8c]
             refine grow_take 6 (some 34) ?_ rfl rfl (by kernel_rfl) (fun _ _ _ h => h) (by kernel_rfl) hCalm ?_ ?_
             rotate_left
             · intro wS hS; (try dsimp only at hS); go_simp <;> with_reducible rfl
             try simp only [Act.put, q8a, q8b, q8c]
             refine grow_take 7 (some 35) ?_ rfl rfl (by kernel_rfl) (fun _ _ _ h => h) (by kernel_rfl) hCalm ?_ ?_
             rotate_left
             · intro wS hS; (try dsimp only at hS); go_simp <;> with_reducible rfl
             try simp only [Act.put, q8a, q8b, q8c]
             refine grow_take 8 (some 36) ?_ rfl rfl (by kernel_rfl) (fun _ _ _ h => h) (by kernel_rfl) hCalm ?_ ?_
             rotate_left
             · intro wS hS; (try dsimp only at hS); go_simp <;> with_reducible rfl
             try simp only [Act.put, q8a, q8b, q8c]
             refine grow_take 9 (some 37) (.bool false) rfl rfl (by kernel_rfl) (fun _ _ _ h => h) (by kernel_rfl) hCalm ?_ ?_
             · intro wS hS; (try dsimp only at hS); go_simp
               all_goals simp_all
             try simp only [Act.put, q8a, q8b, q8c]
             refine grow_take 10 (some 38) ?_ rfl rfl (by kernel_rfl) (fun _ _ _ h => h) (by kernel_rfl) hCalm ?_ ?_
             rotate_left
             · intro wS hS; (try dsimp only at hS); go_simp <;> with_reducible rfl
             try simp only [Act.put, q8a, q8b, q8c]
             refine grow_done (by kernel_rfl) (fun wA hA => ?_) _
             have hb := hA; clear hA hCalm
             obtain ⟨wk, hwk⟩ : ∃ q, q = wA := ⟨_, rfl⟩
             rw [<- hwk] at hb ⊢
             clear hwk
             have HO9 := Lib.hid (HOW.out.below hb); have HD9 := Lib.hid (HD.out.below hb HD.out.lt); have HB9 := Lib.hid (HB.out.trans (hb.mono HB.out.size))
             clear HOW HD HB hb
             have HOW := HO9; have HD := HD9; have HB := HB9; clear HO9 HD9 HB9
             go_wp2_with fail
             go_roundw
             case rel => exact ⟨i + 1, _, rfl, by go_num, HI.out, by rw [HT.out]; exact HLEN.out, by rw [HT.out, HEQ.out]; exact HOW.out, HB.out⟩
             case measure => have := HI.out; simp [intOf]; omega
           case neg =>
             have HIN : Hid (ins7 KS d = KS.take t ++ d :: KS.drop t) := Lib.hid (ins7_in HN.out (Or.inr (by rw [HGT.out]; exact he)))
             have he3 : ¬ (x.x = d.x /\ x.y = d.y) := fun h => he (by cases x; cases d; simp only at h; obtain ⟨rfl, rfl⟩ := h; rfl)
             have HE3 := Lib.hid he3
             clear he he3
             go_wp2_with fail
             refine wp_region_grow (S := (fun w' => w'.cell? ⟨wr.heap.size, 0, none⟩ = some (.int .i64 d.x) /\ w'.cell? ⟨wr.heap.size, 1, none⟩ = some (.int .i64 d.y) /\ w'.cell? ⟨b1, o1 + m1 * 2, none⟩ = some (.int .i64 x.x) /\ w'.cell? ⟨b1, o1 + m1 * 2 + 1, none⟩ = some (.int .i64 x.y))) ((fun w' => Below wj.heap.size wj w')) (by kernel_rfl) (⟨fun w2 h2 => ⟨(HD.out.below h2 HD.out.lt).cell (i := 0) (v := .int .i64 d.x) rfl, (HD.out.below h2 HD.out.lt).cell (i := 1) (v := .int .i64 d.y) rfl, (HCx.out _ h2).1, (HCx.out _ h2).2⟩, fun w2 w3 h2 hb2 => h2.trans (hb2.mono h2.size)⟩) ((Below.refl _ _).drew) (fun hCalm => ?_)
             refine grow_take 0 (some 28) ?_ rfl rfl (by kernel_rfl) (fun _ _ _ h => h) (by kernel_rfl) hCalm ?_ ?_
             rotate_left
             · intro wS hS; (try dsimp only at hS); go_simp <;> with_reducible rfl
             try simp only [Act.put, q8a, q8b, q8c]
             refine grow_take 1 (some 29) (.bool false) rfl rfl (by kernel_rfl) (fun _ _ _ h => h) (by kernel_rfl) hCalm ?_ ?_
             · intro wS hS; (try dsimp only at hS); go_simp
               all_goals omega
             try simp only [Act.put, q8a, q8b, q8c]
             refine grow_take 2 (some 30) ?_ rfl rfl (by kernel_rfl) (fun _ _ _ h => h) (by kernel_rfl) hCalm ?_ ?_
             rotate_left
             · intro wS hS; (try dsimp only at hS); go_simp <;> with_reducible rfl
             try simp only [Act.put, q8a, q8b, q8c]
             refine grow_take 3 (some 31) ?_ rfl rfl (by kernel_rfl) (fun _ _ _ h => h) (by kernel_rfl) hCalm ?_ ?_
             rotate_left
             · intro wS hS; (try dsimp only at hS); go_simp <;> with_reducible rfl
             try simp only [Act.put, q8a, q8b, q8c]
             refine grow_take 4 (some 32) ?_ rfl rfl (by kernel_rfl) (fun _ _ _ h => h) (by kernel_rfl) hCalm ?_ ?_
             rotate_left
             · intro wS hS; (try dsimp only at hS); go_simp <;> with_reducible rfl
             try simp only [Act.put, q8a, q8b, q8c]
             refine grow_take 5 (some 33) ?_ rfl rfl (by kernel_rfl) (fun _ _ _ h => h) (by kernel_rfl) hCalm ?_ ?_
             rotate_left
             · intro wS hS; (try dsimp only at hS); go_simp <;> with_reducible rfl
             try simp only [Act.put, q8a, q8b, q8c]
             refine grow_take 6 (some 34) ?_ rfl rfl (by kernel_rfl) (fun _ _ _ h => h) (by kernel_rfl) hCalm ?_ ?_
             rotate_left
             · intro wS hS; (try dsimp only at hS); go_simp <;> with_reducible rfl
             try simp only [Act.put, q8a, q8b, q8c]
             refine grow_take 7 (some 35) ?_ rfl rfl (by kernel_rfl) (fun _ _ _ h => h) (by kernel_rfl) hCalm ?_ ?_
             rotate_left
             · intro wS hS; (try dsimp only at hS); go_simp <;> with_reducible rfl
             try simp only [Act.put, q8a, q8b, q8c]
             refine grow_take 8 (some 36) ?_ rfl rfl (by kernel_rfl) (fun _ _ _ h => h) (by kernel_rfl) hCalm ?_ ?_
             rotate_left
             · intro wS hS; (try dsimp only at hS); go_simp <;> with_reducible rfl
             try simp only [Act.put, q8a, q8b, q8c]
             refine grow_take 9 (some 37) (.bool true) rfl rfl (by kernel_rfl) (fun _ _ _ h => h) (by kernel_rfl) hCalm ?_ ?_
             · intro wS hS; (try dsimp only at hS); go_simp
               all_goals (have := HE3.out; simp_all)
             try simp only [Act.put, q8a, q8b, q8c]
             refine grow_take 10 (some 38) ?_ rfl rfl (by kernel_rfl) (fun _ _ _ h => h) (by kernel_rfl) hCalm ?_ ?_
             rotate_left
             · intro wS hS; (try dsimp only at hS); go_simp <;> with_reducible rfl
             try simp only [Act.put, q8a, q8b, q8c]
             refine grow_done (by kernel_rfl) (fun wA hA => ?_) _
             have hb := hA; clear hA hCalm
             obtain ⟨wk, hwk⟩ : ∃ q, q = wA := ⟨_, rfl⟩
             rw [<- hwk] at hb ⊢
             clear hwk
             have HO9 := Lib.hid (HOW.out.below hb); have HD9 := Lib.hid (HD.out.below hb HD.out.lt); have HB9 := Lib.hid (HB.out.trans (hb.mono HB.out.size))
             clear HOW HD HB hb
             have HOW := HO9; have HD := HD9; have HB := HB9; clear HO9 HD9 HB9
             clear hz9 p0 p2 r1 r2
             have hz0 := HD.out.cell (i := 0) (v := .int .i64 d.x) rfl; have hz1 := HD.out.cell (i := 1) (v := .int .i64 d.y) rfl
             go_wp2_with (at_builtin; refine wpList_append_one apP rfl _ _ rfl w.heap.size (.slice (some ⟨b1, o1, none⟩) KS.length c1) KS rfl (show Oz (wk.alloc (.cells #[.int .i64 d.x, .int .i64 d.y] 31)) _ _ _ from HOW.out.below ((Below.refl _ _).alloc (Nat.le_refl _) _)) wk.heap.size d rfl (Blk.new wk _ _) (by have := HSM.out; omega) (by have := HB.out.size; simp; omega) ?_; intro v4 w4 hown4 hgrow4; have HO4 := Lib.hid hown4; have HB4 := Lib.hid ((HB.out.alloc HB.out.size _).grown hgrow4 (HB.out.alloc HB.out.size _).size (fun k e => OwnL.block HOW.out e)); have HD4 := Lib.hid (Blk.only (HD.out.alloc _) hgrow4 (fun e => HPD.out e.symm)); clear hown4 hgrow4 hz0 hz1; obtain ⟨g4, c4, e4, hg4⟩ := own_pos (n := KS.length) (show World.ownsRow w4 w.heap.size _ 2 v4 (KS.length + 1) _ from by have h := HO4.out; unfold OwnL at h; rw [List.length_append] at h; exact h); subst e4)
             obtain ⟨n1, hn1⟩ : ∃ n, n = KS.length + 1 := ⟨_, rfl⟩
             obtain ⟨t1, ht1⟩ : ∃ q, q = t + 1 := ⟨_, rfl⟩
             rw [<- hn1] at HO4 ⊢
             have HNE : Hid (2 <= n1 -> g4 ≠ wr.heap.size) := Lib.hid (fun h => Oz.ne_blk HO4.out HD4.out (by simp; omega))
             have hcc := Oz.room HO4.out
             simp only [List.length_append, List.length_singleton] at hcc
             have HTL2 := HTL.out
             have hw1 : IntKind.i64.wrap ((t : Int) + 1) = (t1 : Int) := by rw [show (t : Int) + 1 = (t1 : Int) by omega]; exact IntWalk.i64_in _ (by have := HSM.out; omega)
             have b1_ : (0 : Int) <= (t1 : Int) := by omega
             have b2_ : (t1 : Int) <= (n1 : Int) := by omega
             have b3_ : (n1 : Int) <= (c4 : Int) := by omega
             have b4_ : (0 : Int) <= (t : Int) := by omega
             have b5_ : (t : Int) <= (n1 : Int) := by omega
             have b6_ : ¬ c4 = t := by omega
             have b7_ : (t : Int) < (n1 : Int) := by omega
             have b8_ : t1 <= n1 := by omega
             have b9_ : t <= n1 := by omega
             have HN1 := Lib.hid hn1; have HT1 := Lib.hid ht1
             clear hn1 ht1 HTL2 hcc
             by_cases hc : c4 = t1
             case pos =>
               refine wp_region_grow (S := (fun w' => True)) ((fun w' => Below w.heap.size w w' /\ Oz w' w.heap.size (.slice (some ⟨g4, 0, none⟩) n1 c4) (KS ++ [d]) /\ Blk w' wr.heap.size 31 #[.int .i64 d.x, .int .i64 d.y])) (by kernel_rfl) (⟨fun w2 h2 => trivial, fun w2 w3 h2 hb2 => ⟨h2.1.trans (hb2.mono h2.1.size), OwnL.below h2.2.1 hb2, h2.2.2.below hb2 h2.2.2.lt⟩⟩) (⟨HB4.out.drew, OwnL.drew HO4.out, HD4.out.drew⟩) (fun hCalm => ?_)
               refine grow_take 0 (some 43) ?_ rfl rfl (by kernel_rfl) (fun _ _ _ h => h) (by kernel_rfl) hCalm ?_ ?_
               rotate_left
               · intro wS hS; (try dsimp only at hS); go_simp <;> with_reducible rfl
               try simp only [Act.put, q8a, q8b, q8c]
               refine grow_take 1 (some 44) ?_ rfl rfl (by kernel_rfl) (fun _ _ _ h => h) (by kernel_rfl) hCalm ?_ ?_
               rotate_left
               · intro wS hS; (try dsimp only at hS); go_simp <;> with_reducible rfl
               try simp only [Act.put, q8a, q8b, q8c]
               refine grow_take 2 (some 45) ?_ rfl rfl (by kernel_rfl) (fun _ _ _ h => h) (by kernel_rfl) hCalm ?_ ?_
               rotate_left
               · intro wS hS; (try dsimp only at hS); go_simp <;> with_reducible rfl
               try simp only [Act.put, q8a, q8b, q8c]
               refine grow_take 3 (some 46) ?_ rfl rfl (by kernel_rfl) (fun _ _ _ h => h) (by kernel_rfl) hCalm ?_ ?_
               rotate_left
               · intro wS hS; (try dsimp only at hS); go_simp <;> with_reducible rfl
               try simp only [Act.put, q8a, q8b, q8c]
               refine grow_take 4 (some 47) ?_ rfl rfl (by kernel_rfl) (fun _ _ _ h => h) (by kernel_rfl) hCalm ?_ ?_
               rotate_left
               · intro wS hS; (try dsimp only at hS); go_simp <;> with_reducible rfl
               try simp only [Act.put, q8a, q8b, q8c]
               refine grow_take 5 (some 48) ?_ rfl rfl (by kernel_rfl) (fun _ _ _ h => h) (by kernel_rfl) hCalm ?_ ?_
               rotate_left
               · intro wS hS; (try dsimp only at hS); go_simp <;> with_reducible rfl
               try simp only [Act.put, q8a, q8b, q8c]
               refine grow_take 6 (some 49) ?_ rfl rfl (by kernel_rfl) (fun _ _ _ h => h) (by kernel_rfl) hCalm ?_ ?_
               rotate_left
               · intro wS hS; (try dsimp only at hS); go_simp <;> with_reducible rfl
               try simp only [Act.put, q8a, q8b, q8c]
               refine grow_each [7] (by kernel_rfl) (by decide) ?_
               refine grow_cons 7 rfl (by kernel_rfl) (fun wA hA K hK => ?_) grow_nil
               refine wp_copy_shift apP _ _ rfl w.heap.size g4 c4 n1 t (KS ++ [d]) (by rw [HN1.out]; simp) (by have := HN1.out; have := HTL.out; omega) hA.2.1 _ _ _ _ _ _ rfl rfl (by have := HT1.out; omega) rfl (fun h => by have := HT1.out; have := hc; omega) (fun h => by have hq := HT1.out; simp <;> omega) ?_
               intro vN w5 hown5 hgrow5 hsame5
               have hbg := hA.1.grown hgrow5 hA.1.size (fun k e => by cases e; exact Oz.base hA.2.1)
               refine hK.out _ _ (fun w' => Below w.heap.size w w' /\ Oz w' w.heap.size (.slice (some ⟨g4, 0, none⟩) n1 c4) ((KS ++ [d]).take (t + 1) ++ ((KS ++ [d]).drop t).take (n1 - (t + 1))) /\ Blk w' wr.heap.size 31 #[.int .i64 d.x, .int .i64 d.y]) (⟨fun w2 h2 => trivial, fun w2 w3 h2 hb2 => ⟨h2.1.trans (hb2.mono h2.1.size), OwnL.below h2.2.1 hb2, h2.2.2.below hb2 h2.2.2.lt⟩⟩) ⟨hbg, hown5, if h5 : t + 1 = n1 then (by rw [hsame5 h5]; exact hA.2.2) else Blk.only hA.2.2 hgrow5 (fun e => HNE.out (by have := HN1.out; have := HTL.out; omega) (by cases e; rfl))⟩ ?_
               clear hbg hown5 hgrow5 hsame5 hK K hA wA hCalm w5
               have hCalm : Calm (fun w' => True) (fun w' => Below w.heap.size w w' /\ Oz w' w.heap.size (.slice (some ⟨g4, 0, none⟩) n1 c4) ((KS ++ [d]).take (t + 1) ++ ((KS ++ [d]).drop t).take (n1 - (t + 1))) /\ Blk w' wr.heap.size 31 #[.int .i64 d.x, .int .i64 d.y]) := ⟨fun w2 h2 => trivial, fun w2 w3 h2 hb2 => ⟨h2.1.trans (hb2.mono h2.1.size), OwnL.below h2.2.1 hb2, h2.2.2.below hb2 h2.2.2.lt⟩⟩
               try simp only [Act.put, List.setIfInBounds_toArray]
               refine grow_done (by kernel_rfl) (fun wA hA => ?_) _
               have HB6 := Lib.hid hA.1; have HO6 := Lib.hid hA.2.1; have HD6 := Lib.hid hA.2.2
               clear hA hCalm HB4 HO4 HD4
               obtain ⟨w6, hw6⟩ : ∃ q, q = wA := ⟨_, rfl⟩
               rw [<- hw6] at HB6 HO6 HD6 ⊢
               clear hw6
               have hln : ((KS ++ [d]).take (t + 1) ++ ((KS ++ [d]).drop t).take (n1 - (t + 1))).length = n1 := by have := HN1.out; have := HTL.out; simp; omega
               have hti : t < ((KS ++ [d]).take (t + 1) ++ ((KS ++ [d]).drop t).take (n1 - (t + 1))).length := by have := HN1.out; have := HTL.out; omega
               obtain ⟨⟨y0, y1⟩, y2, y3⟩ := Oz.cells HO6.out hti
               have HO7 := Oz.set (p := d) (by rw [hln]; exact HO6.out) hti
               rw [hln] at HO7
               have HSH : Hid ((((KS ++ [d]).take (t + 1) ++ ((KS ++ [d]).drop t).take (n1 - (t + 1)))).set t d = ins7 KS d) := Lib.hid (by rw [HIN.out, HN1.out]; have h := shifted (l := KS) (d := d) HTL.out; simpa using h)
               rw [HSH.out] at HO7
               have HO8 := Lib.hid HO7
               have hz0 := HD6.out.cell (i := 0) (v := .int .i64 d.x) rfl; have hz1 := HD6.out.cell (i := 1) (v := .int .i64 d.y) rfl
               have hbs := Oz.base HO6.out
               have HB8 := Lib.hid ((HB6.out.setCell (p := ⟨g4, t * 2, none⟩) hbs (.int .i64 d.x)).setCell (p := ⟨g4, t * 2 + 1, none⟩) hbs (.int .i64 d.y))
               clear hln HO7 hbs hc
               go_wp2_with fail
               clear y0 y1 y2 y3 hz0 hz1 hti
               go_roundw
               case rel => exact ⟨i + 1, _, rfl, by go_num, HI.out, by rw [HT.out]; exact HLEN.out, by rw [HT.out]; exact HO8.out, HB8.out⟩
               case measure => have := HI.out; simp [intOf]; omega
             case neg =>
               refine wp_region_grow (S := (fun w' => True)) ((fun w' => Below w.heap.size w w' /\ Oz w' w.heap.size (.slice (some ⟨g4, 0, none⟩) n1 c4) (KS ++ [d]) /\ Blk w' wr.heap.size 31 #[.int .i64 d.x, .int .i64 d.y])) (by kernel_rfl) (⟨fun w2 h2 => trivial, fun w2 w3 h2 hb2 => ⟨h2.1.trans (hb2.mono h2.1.size), OwnL.below h2.2.1 hb2, h2.2.2.below hb2 h2.2.2.lt⟩⟩) (⟨HB4.out.drew, OwnL.drew HO4.out, HD4.out.drew⟩) (fun hCalm => ?_)
               refine grow_take 0 (some 43) ?_ rfl rfl (by kernel_rfl) (fun _ _ _ h => h) (by kernel_rfl) hCalm ?_ ?_
               rotate_left
               · intro wS hS; (try dsimp only at hS); go_simp <;> with_reducible rfl
               try simp only [Act.put, q8a, q8b, q8c]
               refine grow_take 1 (some 44) ?_ rfl rfl (by kernel_rfl) (fun _ _ _ h => h) (by kernel_rfl) hCalm ?_ ?_
               rotate_left
               · intro wS hS; (try dsimp only at hS); go_simp <;> with_reducible rfl
               try simp only [Act.put, q8a, q8b, q8c]
               refine grow_take 2 (some 45) ?_ rfl rfl (by kernel_rfl) (fun _ _ _ h => h) (by kernel_rfl) hCalm ?_ ?_
               rotate_left
               · intro wS hS; (try dsimp only at hS); go_simp <;> with_reducible rfl
               try simp only [Act.put, q8a, q8b, q8c]
               refine grow_take 3 (some 46) ?_ rfl rfl (by kernel_rfl) (fun _ _ _ h => h) (by kernel_rfl) hCalm ?_ ?_
               rotate_left
               · intro wS hS; (try dsimp only at hS); go_simp <;> with_reducible rfl
               try simp only [Act.put, q8a, q8b, q8c]
               refine grow_take 4 (some 47) ?_ rfl rfl (by kernel_rfl) (fun _ _ _ h => h) (by kernel_rfl) hCalm ?_ ?_
               rotate_left
               · intro wS hS; (try dsimp only at hS); go_simp <;> with_reducible rfl
               try simp only [Act.put, q8a, q8b, q8c]
               refine grow_take 5 (some 48) ?_ rfl rfl (by kernel_rfl) (fun _ _ _ h => h) (by kernel_rfl) hCalm ?_ ?_
               rotate_left
               · intro wS hS; (try dsimp only at hS); go_simp <;> with_reducible rfl
               try simp only [Act.put, q8a, q8b, q8c]
               refine grow_take 6 (some 49) ?_ rfl rfl (by kernel_rfl) (fun _ _ _ h => h) (by kernel_rfl) hCalm ?_ ?_
               rotate_left
               · intro wS hS; (try dsimp only at hS); go_simp <;> with_reducible rfl
               try simp only [Act.put, q8a, q8b, q8c]
               refine grow_each [7] (by kernel_rfl) (by decide) ?_
               refine grow_cons 7 rfl (by kernel_rfl) (fun wA hA K hK => ?_) grow_nil
               refine wp_copy_shift apP _ _ rfl w.heap.size g4 c4 n1 t (KS ++ [d]) (by rw [HN1.out]; simp) (by have := HN1.out; have := HTL.out; omega) hA.2.1 _ _ _ _ _ _ rfl rfl (by have := HT1.out; omega) rfl (fun h => by rw [<- HT1.out]; first | done | simp [Addr.add]) (fun h => by have hq := HT1.out; simp <;> omega) ?_
               intro vN w5 hown5 hgrow5 hsame5
               have hbg := hA.1.grown hgrow5 hA.1.size (fun k e => by cases e; exact Oz.base hA.2.1)
               refine hK.out _ _ (fun w' => Below w.heap.size w w' /\ Oz w' w.heap.size (.slice (some ⟨g4, 0, none⟩) n1 c4) ((KS ++ [d]).take (t + 1) ++ ((KS ++ [d]).drop t).take (n1 - (t + 1))) /\ Blk w' wr.heap.size 31 #[.int .i64 d.x, .int .i64 d.y]) (⟨fun w2 h2 => trivial, fun w2 w3 h2 hb2 => ⟨h2.1.trans (hb2.mono h2.1.size), OwnL.below h2.2.1 hb2, h2.2.2.below hb2 h2.2.2.lt⟩⟩) ⟨hbg, hown5, if h5 : t + 1 = n1 then (by rw [hsame5 h5]; exact hA.2.2) else Blk.only hA.2.2 hgrow5 (fun e => HNE.out (by have := HN1.out; have := HTL.out; omega) (by cases e; rfl))⟩ ?_
               clear hbg hown5 hgrow5 hsame5 hK K hA wA hCalm w5
               have hCalm : Calm (fun w' => True) (fun w' => Below w.heap.size w w' /\ Oz w' w.heap.size (.slice (some ⟨g4, 0, none⟩) n1 c4) ((KS ++ [d]).take (t + 1) ++ ((KS ++ [d]).drop t).take (n1 - (t + 1))) /\ Blk w' wr.heap.size 31 #[.int .i64 d.x, .int .i64 d.y]) := ⟨fun w2 h2 => trivial, fun w2 w3 h2 hb2 => ⟨h2.1.trans (hb2.mono h2.1.size), OwnL.below h2.2.1 hb2, h2.2.2.below hb2 h2.2.2.lt⟩⟩
               try simp only [Act.put, List.setIfInBounds_toArray]
               refine grow_done (by kernel_rfl) (fun wA hA => ?_) _
               have HB6 := Lib.hid hA.1; have HO6 := Lib.hid hA.2.1; have HD6 := Lib.hid hA.2.2
               clear hA hCalm HB4 HO4 HD4
               obtain ⟨w6, hw6⟩ : ∃ q, q = wA := ⟨_, rfl⟩
               rw [<- hw6] at HB6 HO6 HD6 ⊢
               clear hw6
               have hln : ((KS ++ [d]).take (t + 1) ++ ((KS ++ [d]).drop t).take (n1 - (t + 1))).length = n1 := by have := HN1.out; have := HTL.out; simp; omega
               have hti : t < ((KS ++ [d]).take (t + 1) ++ ((KS ++ [d]).drop t).take (n1 - (t + 1))).length := by have := HN1.out; have := HTL.out; omega
               obtain ⟨⟨y0, y1⟩, y2, y3⟩ := Oz.cells HO6.out hti
               have HO7 := Oz.set (p := d) (by rw [hln]; exact HO6.out) hti
               rw [hln] at HO7
               have HSH : Hid ((((KS ++ [d]).take (t + 1) ++ ((KS ++ [d]).drop t).take (n1 - (t + 1)))).set t d = ins7 KS d) := Lib.hid (by rw [HIN.out, HN1.out]; have h := shifted (l := KS) (d := d) HTL.out; simpa using h)
               rw [HSH.out] at HO7
               have HO8 := Lib.hid HO7
               have hz0 := HD6.out.cell (i := 0) (v := .int .i64 d.x) rfl; have hz1 := HD6.out.cell (i := 1) (v := .int .i64 d.y) rfl
               have hbs := Oz.base HO6.out
               have HB8 := Lib.hid ((HB6.out.setCell (p := ⟨g4, t * 2, none⟩) hbs (.int .i64 d.x)).setCell (p := ⟨g4, t * 2 + 1, none⟩) hbs (.int .i64 d.y))
               clear hln HO7 hbs hc
               go_wp2_with fail
               clear y0 y1 y2 y3 hz0 hz1 hti
               go_roundw
               case rel => exact ⟨i + 1, _, rfl, by go_num, HI.out, by rw [HT.out]; exact HLEN.out, by rw [HT.out]; exact HO8.out, HB8.out⟩
               case measure => have := HI.out; simp [intOf]; omega
theorem wp_append_all {α : Type} {cs : α -> List Value} {k : Nat} {T TS : TypeId} (ap : Ap cs k T TS) {w : World} {o : Oper} {a : Act} {K : Act -> World -> Prop} {Q : Exit -> Act -> World -> Prop} (s x : Operand)
   (ho : o.op = .call { callee := .builtin .append, args := #[s, x], argTypes := #[TS, TS] }) (B : Nat) (v : Value) (l : List α) (hs : a.eval s = v) (hown : OwnL cs k T w B v l)
   (ad : Addr) (c n : Nat) (m : List α) (hx : a.eval x = .slice (some ad) n c) (hnm : n = m.length) (hm : Rz cs k w (some ad) m) (hm0 : 0 < m.length) (hn : l.length + m.length <= 1000000) (hbase : B <= w.heap.size)
   (h : ∀ v' w', OwnL cs k T w' B v' (l ++ m) -> w.grownBy w' v.ownBlock -> K (a.put o.dst v') w') : Oper.wp Tryz.prog o a w K Q := by
 subst hnm
 obtain ⟨i, z, b, hi, hz, hsz, hb, hb1, hzc⟩ := ap.info
 refine wp_append_own w s x TS ho B T i z k b ap.und hi hz hsz hb hzc ap.pos v l.length _ hs hown ad m.length c (m.flatMap cs) hx (flat_len ap.len m) (fun j u hj => ?_) (fun u hu => ?_) (by unfold maxLen; omega) (Nat.le_trans (Nat.mul_le_mul_left _ hb1) (by omega)) hbase fun v' w' h1 h2 _ => h v' w' (by
     unfold OwnL
     rw [List.length_append, List.flatMap_append]; exact h1) h2
 · have hj2 : j < m.length * k := by rw [<- flat_len (cs := cs) ap.len]; exact (List.getElem?_eq_some_iff.1 hj).1
   obtain ⟨b', o', e, _, hc⟩ := hm hm0
   cases e
   have hq : j / k < m.length := (Nat.div_lt_iff_lt_mul ap.pos).2 hj2
   have hr : j % k < k := Nat.mod_lt _ ap.pos
   have hdm : j / k * k + j % k = j := by rw [Nat.mul_comm]; exact Nat.div_add_mod j k
   have key : ∀ (m : List α) (q r : Nat) (hq : q < m.length), r < k -> (m.flatMap cs)[q * k + r]? = (cs m[q])[r]? := by
     intro m
     induction m with
     | nil => intro q r hq; simp at hq
     | cons x t ih =>
       intro q r hq hr
       cases q with
       | zero => rw [List.flatMap_cons, List.getElem?_append_left (by rw [ap.len]; omega)]; simp
       | succ q =>
         rw [List.flatMap_cons, List.getElem?_append_right (by rw [ap.len, Nat.add_mul]; omega), show (q + 1) * k + r - (cs x).length = q * k + r from by rw [ap.len, Nat.add_mul]; omega]
         exact ih q r (by simpa using hq) hr
   have h2 := key m (j / k) (j % k) hq hr
   rw [hdm, hj] at h2
   have h3 := hc (j / k) hq (j % k) u h2.symm
   have e : (⟨b', o', none⟩ : Addr).add j = ⟨b', o' + j, none⟩ := by unfold Addr.add; split <;> simp_all
   rw [e]
   rwa [show o' + j / k * k + j % k = o' + j from by omega] at h3
 · obtain ⟨y, hy, hu⟩ := List.mem_flatMap.1 hu
   exact ap.one y u hu
theorem pop7_len (f : P7 -> P7 -> P7 -> Bool) (n : P7) : ∀ s : List P7, (pop7 f s n).length <= s.length
 | [] => Nat.le_refl _
 | [_] => Nat.le_refl _
 | t :: u :: r => by
   unfold pop7
   split
   · exact Nat.le_refl _
   · exact Nat.le_succ_of_le (pop7_len f n (u :: r))
theorem st7_len (f : P7 -> P7 -> P7 -> Bool) (l : List P7) : (st7 f l).length <= l.length := by
 have : ∀ (l s : List P7), (l.foldl (fun s n => n :: pop7 f s n) s).length <= s.length + l.length := by
   intro l
   induction l with
   | nil => intro s; simp
   | cons n l ih =>
     intro s
     have h1 := ih (n :: pop7 f s n); have h2 := pop7_len f n s
     simp only [List.foldl_cons, List.length_cons] at h1 ⊢; omega
 simpa [st7] using this l []
theorem st7_pos (f : P7 -> P7 -> P7 -> Bool) {l : List P7} (h : 0 < l.length) : 0 < (st7 f l).length := by
 have e := st7_take f (l := l) (i := l.length - 1) (by omega)
 rw [show l.length - 1 + 1 = l.length by omega, List.take_length] at e
 rw [e]; simp
theorem pop7_pos (f : P7 -> P7 -> P7 -> Bool) (n : P7) : ∀ s : List P7, 0 < s.length -> 0 < (pop7 f s n).length
 | [], h => by simp at h
 | [_], _ => by simp [pop7]
 | t :: u :: r, _ => by
   unfold pop7
   split
   · simp
   · exact pop7_pos f n (u :: r) (by simp)
theorem st7_two (f : P7 -> P7 -> P7 -> Bool) {l : List P7} (h : 2 <= l.length) : 2 <= (st7 f l).length := by
 have e := st7_take f (l := l) (i := l.length - 1) (by omega)
 rw [show l.length - 1 + 1 = l.length by omega, List.take_length] at e
 have h1 := pop7_pos f l[l.length - 1] _ (st7_pos f (l := l.take (l.length - 1)) (by rw [List.length_take]; omega))
 rw [e]; simp only [List.length_cons]; omega
theorem srt7_len (l : List P7) : (srt7 l).length <= l.length := by
 have : ∀ (l s : List P7), (l.foldl ins7 s).length <= s.length + l.length := by
   intro l
   induction l with
   | nil => intro s; simp
   | cons n l ih =>
     intro s
     have h1 := ih (ins7 s n); have h2 := ins7_len s n
     simp only [List.foldl_cons, List.length_cons] at h1 ⊢; omega
 simpa [srt7] using this l []
theorem srt7_pos {l : List P7} (h : 0 < l.length) : 0 < (srt7 l).length := by
 obtain ⟨x, hx⟩ : ∃ x, x ∈ l := ⟨l[0], List.getElem_mem h⟩
 exact List.length_pos_of_mem (((srt7_good l).2 x).2 hx)
set_option maxRecDepth 100000 in
set_option maxHeartbeats 16000000 in
theorem phull_any (l : List P7) (A : Option Addr) (c : Nat) (w : World) (hA : Pz w A l) (hl : 1 <= l.length /\ l.length <= 40) :
   Calls Tryz.prog 25 #[.slice A l.length c] w fun e w' => (∃ v, e = .returned v /\ Oz w' w.heap.size v (hul7 fits7 l)) /\ Below w.heap.size w w' := by
 have HC := Lib.hid (psorted7_any l A c w hA (by omega))
 have hs1 := srt7_len l; have hs2 := srt7_pos (l := l) (by omega)
 have HU1 : Hid ((srt7 l).length = 1 -> hul7 fits7 l = srt7 l) := Lib.hid (fun h => by unfold hul7; rw [if_pos h])
 have HU2 : Hid (¬ (srt7 l).length = 1 -> hul7 fits7 l = (st7 fits7 (srt7 l)).reverse.dropLast ++ (st7 fits7 (srt7 l).reverse).reverse.dropLast) := Lib.hid (fun h => by unfold hul7; rw [if_neg h])
 obtain ⟨s, hs⟩ : ∃ s, s = srt7 l := ⟨_, rfl⟩
 rw [<- hs] at HC HU1 HU2 hs1 hs2
 have hsl : s.length <= 40 := by omega
 clear hA hs hs1
 go_enter Tryz.func25, Tryz.ntmps25
 go_wp2_with fail
 refine HC.out.mono ?_
 rintro e v0 ⟨⟨v1, rfl, hown⟩, hb⟩
 obtain ⟨A1, c1, rfl, hz1, hc1, hn1, hm1⟩ := OwnL.read apP hown
 have HO := Lib.hid hown; have HB := Lib.hid hb; have HZ := Lib.hid hz1
 clear hown hb hz1 HC
 by_cases h1 : s.length = 1
 case pos =>
   have HU := Lib.hid (HU1.out h1)
   have h1b : ((s.length : Int) == 1) = true := by rw [h1]; rfl
   have h1c : (s.length == 1) = true := by rw [h1]; rfl
   clear h1
   go_wp2_with fail
   go_ret
   exact ⟨⟨_, rfl, by rw [HU.out]; exact HO.out⟩, HB.out⟩
 case neg =>
   have HU := Lib.hid (HU2.out h1)
   have h1b : ((s.length : Int) == 1) = false := by simp; omega
   have h1c : (s.length == 1) = false := by simpa using h1
   have HCH := Lib.hid (pchain_any s A1 c1 v0 HZ.out (by omega)); have HSZ : Hid (s.length <= 1000000) := Lib.hid (by omega)
   have hd1 := st7_len fits7 s; have hd2 := st7_pos fits7 hs2
   have hu1 := st7_len fits7 s.reverse; have hu2 := st7_pos fits7 (l := s.reverse) (by simpa using hs2)
   have HTW : Hid (2 <= (st7 fits7 s.reverse).length) := Lib.hid (st7_two fits7 (by simp; omega))
   have HRL : Hid (s.reverse.length <= 1000000) := Lib.hid (by simp; omega)
   rw [List.length_reverse] at hu1
   have HSS := Lib.hid hsl
   clear h1 HU1 HU2 HO hs2
   go_wp2_with fail
   refine HCH.out.mono ?_
   rintro e w1 ⟨⟨vd, rfl, hod⟩, hb1⟩
   have HD1 := Lib.hid hod; have HB1 := Lib.hid (HB.out.trans (hb1.mono HB.out.size)); have HZ1 := Lib.hid (HZ.out.below hb1 (Nat.le_refl _)); have HS01 := Lib.hid HB.out.size; have HS12 := Lib.hid hb1.size
   clear hod hb1 HCH
   have HRV := Lib.hid (preversed_any s A1 c1 w1 HZ1.out HSZ.out)
   go_wp2_with fail
   refine HRV.out.mono ?_
   rintro e w2 ⟨⟨vr, rfl, hor⟩, hb2⟩
   obtain ⟨A2, c2, rfl, hz2, _, _, _⟩ := OwnL.read apP hor
   have HD2 := Lib.hid (HD1.out.below hb2); have HB2 := Lib.hid (HB1.out.trans (hb2.mono HB1.out.size)); have HS23 := Lib.hid hb2.size
   have HCU := Lib.hid (pchain_any s.reverse A2 c2 w2 hz2 HRL.out)
   clear hor hb2 hz2 HRV HD1 HZ1 HZ HB HB1
   rw [List.length_reverse] at HCU
   try rw [List.length_reverse]
   go_wp2_with fail
   refine HCU.out.mono ?_
   rintro e w3 ⟨⟨vu, rfl, hou⟩, hb3⟩
   have HD3 := Lib.hid ((HD2.out.below hb3).base HS01.out); have HB3 := Lib.hid (HB2.out.trans (hb3.mono HB2.out.size))
   clear hb3 HCU HD2 HB2
   obtain ⟨D, hD⟩ : ∃ D, D = (st7 fits7 s).reverse := ⟨_, rfl⟩
   obtain ⟨U, hU⟩ : ∃ U, U = (st7 fits7 s.reverse).reverse := ⟨_, rfl⟩
   have hdl : D.length = (st7 fits7 s).length := by rw [hD, List.length_reverse]
   have hul : U.length = (st7 fits7 s.reverse).length := by rw [hU, List.length_reverse]
   rw [<- hD] at HD3 HU
   rw [<- hU] at hou HU
   obtain ⟨A3, c3, rfl, hz3, hc3, _, hm3⟩ := OwnL.read apP HD3.out
   obtain ⟨A4, c4, rfl, hz4, hc4, _, hm4⟩ := OwnL.read apP hou
   rw [<- hdl] at hd1 hd2
   rw [<- hul] at hu1 hu2
   obtain ⟨b4, o4, rfl⟩ := hz4.some hu2
   obtain ⟨d1, hd⟩ : ∃ d1, d1 = D.length - 1 := ⟨_, rfl⟩
   obtain ⟨u1, hu⟩ : ∃ u1, u1 = U.length - 1 := ⟨_, rfl⟩
   have hsl2 := HSS.out
   have e1 : IntKind.i64.wrap ((D.length : Int) - 1) = (d1 : Int) := by rw [show (D.length : Int) - 1 = (d1 : Int) by omega]; exact IntWalk.i64_in _ (by omega)
   have e2 : IntKind.i64.wrap ((U.length : Int) - 1) = (u1 : Int) := by rw [show (U.length : Int) - 1 = (u1 : Int) by omega]; exact IntWalk.i64_in _ (by omega)
   have e3 : D.dropLast = D.take d1 := by rw [List.dropLast_eq_take, hd]
   have e4 : U.dropLast = U.take u1 := by rw [List.dropLast_eq_take, hu]
   rw [e3, e4] at HU
   have HDT := Lib.hid (OwnL.cut2 HD3.out (t := d1) (by omega))
   have HUT : Hid (Pz w3 (some ⟨b4, o4, none⟩) (U.take u1)) := Lib.hid (hz4.take u1)
   have HL : Hid ((D.take d1).length + (U.take u1).length <= 1000000) := Lib.hid (by simp; omega)
   have HUL : Hid (u1 = (U.take u1).length) := Lib.hid (by rw [List.length_take]; omega)
   have HDL : Hid (d1 = (D.take d1).length) := Lib.hid (by rw [List.length_take]; omega)
   have HUP : Hid (0 < (U.take u1).length) := Lib.hid (by have := HTW.out; rw [<- hul] at this; rw [List.length_take]; omega)
   have g1 : (0 : Int) <= (d1 : Int) := by omega
   have g2 : (d1 : Int) <= (c3 : Int) := by omega
   have g3 : (0 : Int) <= (u1 : Int) := by omega
   have g4 : (u1 : Int) <= (c4 : Int) := by omega
   clear hd hu hdl hul hd1 hd2 hu1 hu2 hz3 hz4 hou hc3 hc4 hm3 hm4 hD hU e3 e4 HD3 hsl2 hsl
   go_wp2_with fail
   refine wp_region_grow (S := (fun w' => True)) ((fun w' => Below w.heap.size w w' /\ Oz w' w.heap.size (.slice A3 d1 c3) (D.take d1) /\ Pz w' (some ⟨b4, o4, none⟩) (U.take u1))) (by kernel_rfl) (⟨fun w2 h2 => trivial, fun w2 w3 h2 hb2 => ⟨h2.1.trans (hb2.mono h2.1.size), OwnL.below h2.2.1 hb2, h2.2.2.below hb2 (Nat.le_refl _)⟩⟩) (⟨HB3.out.drew, OwnL.drew HDT.out, HUT.out⟩) (fun hCalm => ?_)
   refine grow_take 0 (some 20) ?_ rfl rfl (by kernel_rfl) (fun _ _ _ h => h) (by kernel_rfl) hCalm ?_ ?_
   rotate_left
   · intro wS hS; (try dsimp only at hS); go_simp <;> with_reducible rfl
   try simp only [Act.put, q8a, q8b, q8c]
   refine grow_take 1 (some 21) ?_ rfl rfl (by kernel_rfl) (fun _ _ _ h => h) (by kernel_rfl) hCalm ?_ ?_
   rotate_left
   · intro wS hS; (try dsimp only at hS); go_simp <;> with_reducible rfl
   try simp only [Act.put, q8a, q8b, q8c]
   refine grow_take 2 (some 22) ?_ rfl rfl (by kernel_rfl) (fun _ _ _ h => h) (by kernel_rfl) hCalm ?_ ?_
   rotate_left
   · intro wS hS; (try dsimp only at hS); go_simp <;> with_reducible rfl
   try simp only [Act.put, q8a, q8b, q8c]
   refine grow_take 3 (some 23) ?_ rfl rfl (by kernel_rfl) (fun _ _ _ h => h) (by kernel_rfl) hCalm ?_ ?_
   rotate_left
   · intro wS hS; (try dsimp only at hS); go_simp <;> with_reducible rfl
   try simp only [Act.put, q8a, q8b, q8c]
   refine grow_take 4 (some 24) ?_ rfl rfl (by kernel_rfl) (fun _ _ _ h => h) (by kernel_rfl) hCalm ?_ ?_
   rotate_left
   · intro wS hS; (try dsimp only at hS); go_simp <;> with_reducible rfl
   try simp only [Act.put, q8a, q8b, q8c]
   refine grow_take 5 (some 25) ?_ rfl rfl (by kernel_rfl) (fun _ _ _ h => h) (by kernel_rfl) hCalm ?_ ?_
   rotate_left
   · intro wS hS; (try dsimp only at hS); go_simp <;> with_reducible rfl
   try simp only [Act.put, q8a, q8b, q8c]
   refine grow_take 6 (some 26) ?_ rfl rfl (by kernel_rfl) (fun _ _ _ h => h) (by kernel_rfl) hCalm ?_ ?_
   rotate_left
   · intro wS hS; (try dsimp only at hS); go_simp <;> with_reducible rfl
   try simp only [Act.put, q8a, q8b, q8c]
   refine grow_take 7 (some 27) ?_ rfl rfl (by kernel_rfl) (fun _ _ _ h => h) (by kernel_rfl) hCalm ?_ ?_
   rotate_left
   · intro wS hS; (try dsimp only at hS); go_simp <;> with_reducible rfl
   try simp only [Act.put, q8a, q8b, q8c]
   refine grow_take 8 (some 28) ?_ rfl rfl (by kernel_rfl) (fun _ _ _ h => h) (by kernel_rfl) hCalm ?_ ?_
   rotate_left
   · intro wS hS; (try dsimp only at hS); go_simp <;> with_reducible rfl
   try simp only [Act.put, q8a, q8b, q8c]
   refine grow_take 9 (some 29) ?_ rfl rfl (by kernel_rfl) (fun _ _ _ h => h) (by kernel_rfl) hCalm ?_ ?_
   rotate_left
   · intro wS hS; (try dsimp only at hS); go_simp <;> with_reducible rfl
   try simp only [Act.put, q8a, q8b, q8c]
   refine grow_each [10] (by kernel_rfl) (by decide) ?_
   refine grow_cons 10 rfl (by kernel_rfl) (fun wA hA K hK => ?_) grow_nil
   refine wp_append_all apP _ _ rfl w.heap.size (.slice A3 d1 c3) (D.take d1) rfl hA.2.1 ⟨b4, o4, none⟩ c4 u1 (U.take u1) rfl HUL.out hA.2.2 HUP.out HL.out hA.1.size ?_
   intro vN w5 hown5 hgrow5
   have hbg := hA.1.grown hgrow5 hA.1.size (fun k e => OwnL.block hA.2.1 e)
   refine hK.out _ _ (fun w' => Below w.heap.size w w' /\ Oz w' w.heap.size vN (D.take d1 ++ U.take u1)) (⟨fun w2 h2 => trivial, fun w2 w3 h2 hb2 => ⟨h2.1.trans (hb2.mono h2.1.size), OwnL.below h2.2 hb2⟩⟩) ⟨hbg, hown5⟩ ?_
   clear hbg hown5 hgrow5 hK K hA wA hCalm w5
   have hCalm : Calm (fun w' => True) (fun w' => Below w.heap.size w w' /\ Oz w' w.heap.size vN (D.take d1 ++ U.take u1)) := ⟨fun w2 h2 => trivial, fun w2 w3 h2 hb2 => ⟨h2.1.trans (hb2.mono h2.1.size), OwnL.below h2.2 hb2⟩⟩
   try simp only [Act.put, List.setIfInBounds_toArray]
   refine grow_take 11 (some 2) ?_ rfl rfl (by kernel_rfl) (fun _ _ _ h => h) (by kernel_rfl) hCalm ?_ ?_
   rotate_left
   · intro wS hS; (try dsimp only at hS); go_simp <;> with_reducible rfl
   try simp only [Act.put]
   refine grow_done (by kernel_rfl) (fun wA hA => ?_) _
   have HB6 := Lib.hid hA.1; have HO6 := Lib.hid hA.2
   go_wp2_with fail
   go_ret
   exact ⟨⟨vN, by simp, by rw [HU.out]; exact HO6.out⟩, HB6.out⟩
set_option maxRecDepth 100000 in
set_option maxHeartbeats 8000000 in
theorem pHull_yes (l : List P7) (A : Option Addr) (c : Nat) (w : World) (hA : Pz w A l) (hl : Ls7 l) :
   Calls Tryz.prog 7 #[.slice A l.length c] w fun e w' => (∃ v, e = .returned (.tuple #[v, .int .i64 0]) /\ Oz w' w.heap.size v (hul7 fits7 l)) /\ Below w.heap.size w w' := by
 have HC := Lib.hid (islist_yes l A c w hA hl)
 have HD : Hid (∀ W, Below w.heap.size w W -> Calls Tryz.prog 25 #[.slice A l.length c] W fun e w' => (∃ v, e = .returned v /\ Oz w' W.heap.size v (hul7 fits7 l)) /\ Below W.heap.size W w') := Lib.hid (fun W hW => phull_any l A c W (hA.below hW (Nat.le_refl _)) hl.1)
 clear hA hl
 go_enter Tryz.func7, Tryz.ntmps7
 go_wp2_with fail
 refine HC.out.mono ?_
 rintro e v0 ⟨rfl, hb⟩
 have HB := Lib.hid hb; clear hb
 go_wp2_with fail
 refine (HD.out _ HB.out).mono ?_
 rintro e v1 ⟨⟨v, rfl, ho⟩, hb⟩
 have HO := Lib.hid (OwnL.base ho HB.out.size); have HB1 := Lib.hid (HB.out.trans (hb.mono HB.out.size)); clear ho hb
 go_wp2_with fail
 go_ret2
 exact ⟨⟨_, rfl, HO.out⟩, HB1.out⟩
theorem pHull_nil (w : World) : Yl 7 #[.slice none 0 0] w (.tuple #[.slice none 0 0, .int .i64 70]) := by
 have HC := Lib.hid (islist_no [] none 0 w (Rz.nil _ _) (by simp) (by unfold Ls7; simp))
 go_enter Tryz.func7, Tryz.ntmps7
 go_wp2_with fail
 refine HC.out.mono ?_
 rintro e v0 ⟨rfl, hb⟩
 go_wp2_with fail
 go_ret2
 exact ⟨rfl, hb⟩
set_option maxRecDepth 100000 in
set_option maxHeartbeats 8000000 in
theorem pconvex_yes (l : List P7) (A : Option Addr) (c : Nat) (w : World) (hA : Pz w A l) (hl : Ls7 l) (hh : hul7 fits7 l = l) : Yl 37 #[.slice A l.length c] w (.bool true) := by
 have HC := Lib.hid (islist_yes l A c w hA hl)
 have HD : Hid (∀ W, Below w.heap.size w W -> Calls Tryz.prog 25 #[.slice A l.length c] W fun e w' => (∃ v, e = .returned v /\ Oz w' W.heap.size v l) /\ Below W.heap.size W w') := Lib.hid (fun W hW => by have h := phull_any l A c W (hA.below hW (Nat.le_refl _)) hl.1; rwa [hh] at h)
 have HA := Lib.hid hA
 have hln : l.length <= 40 := hl.1.2
 clear hA hl hh
 go_enter Tryz.func37, Tryz.ntmps37
 go_wp2_with fail
 refine HC.out.mono ?_
 rintro e v0 ⟨rfl, hb⟩
 have HB := Lib.hid hb; clear hb
 go_wp2_with fail
 refine (HD.out _ HB.out).mono ?_
 rintro e v1 ⟨⟨v, rfl, ho⟩, hb⟩
 obtain ⟨A2, c2, rfl, hz2, _, _, _⟩ := OwnL.read apP ho
 have HO := Lib.hid hz2; have HB1 := Lib.hid (HB.out.trans (hb.mono HB.out.size)); clear ho hb hz2
 go_wp2_with fail
 go_loopw [18] (fun ii wr => ∃ i : Nat, ii = .int .i64 i /\ i <= l.length /\ Pz wr A2 l /\ Below w.heap.size w wr) (fun ii _ => l.length - (intOf ii).toNat)
 case atStart => exact ⟨0, rfl, Nat.zero_le _, HO.out, HB1.out⟩
 case round =>
   clear HO HB1
   obtain ⟨i, rfl, hi, hO, hB⟩ := hrel
   have HO := Lib.hid hO; have HB := Lib.hid hB; clear hO hB
   by_cases hlt : i < l.length
   case neg =>
     obtain rfl : i = l.length := by omega
     clear hlt hi
     go_wp2_with fail
     go_ret
     exact ⟨rfl, HB.out⟩
   case pos =>
     obtain ⟨b, o, rfl⟩ := HO.out.some (by omega)
     obtain ⟨b2, o2, rfl⟩ := HA.out.some (by omega)
     obtain ⟨k0, k1⟩ := Pz.cell HO.out (Below.refl wr.heap.size wr) (Nat.le_refl _) hlt
     have HK : Hid (∀ W, Below w.heap.size w W -> W.cell? ⟨b2, o2 + i * 2, none⟩ = some (.int .i64 l[i].x) /\ W.cell? ⟨b2, o2 + i * 2 + 1, none⟩ = some (.int .i64 l[i].y)) := Lib.hid (fun W hW => Pz.cell HA.out hW (Nat.le_refl _) hlt)
     obtain ⟨d, hd⟩ : ∃ d, d = l[i] := ⟨_, rfl⟩
     rw [<- hd] at k0 k1 HK
     have q1 : (0 : Int) <= (i : Int) := by omega
     have q2 : (i : Int) < (l.length : Int) := by omega
     have q5 : (i : Int) <= 9223372036854775806 := by omega
     have HI := Lib.hid hlt
     clear hd hlt hi
     have HO2 := Lib.hid (HO.out.below ((Below.refl wr.heap.size wr).alloc (Nat.le_refl _) (.cells #[.int .i64 d.x, .int .i64 d.y] 31)) (Nat.le_refl _))
     have HB2 := Lib.hid (HB.out.alloc HB.out.size (.cells #[.int .i64 d.x, .int .i64 d.y] 31))
     have HD2 := Lib.hid (Blk.new wr 31 #[.int .i64 d.x, .int .i64 d.y])
     obtain ⟨wx, hwx⟩ : ∃ x, x = wr.alloc (.cells #[.int .i64 d.x, .int .i64 d.y] 31) := ⟨_, rfl⟩
     go_wp2_with fail
     rw [<- hwx] at HO2 HB2 HD2
     try rw [<- hwx]
     refine wp_region_grow (S := (fun w' => w'.cell? ⟨wr.heap.size, 0, none⟩ = some (.int .i64 d.x) /\ w'.cell? ⟨wr.heap.size, 1, none⟩ = some (.int .i64 d.y) /\ w'.cell? ⟨b2, o2 + i * 2, none⟩ = some (.int .i64 d.x) /\ w'.cell? ⟨b2, o2 + i * 2 + 1, none⟩ = some (.int .i64 d.y))) ((fun w' => Below wx.heap.size wx w')) (by kernel_rfl) (⟨fun w2 h2 => ⟨(HD2.out.below h2 HD2.out.lt).cell (i := 0) (v := .int .i64 d.x) rfl, (HD2.out.below h2 HD2.out.lt).cell (i := 1) (v := .int .i64 d.y) rfl, (HK.out _ (HB2.out.trans (h2.mono HB2.out.size))).1, (HK.out _ (HB2.out.trans (h2.mono HB2.out.size))).2⟩, fun w2 w3 h2 hb2 => h2.trans (hb2.mono h2.size)⟩) ((Below.refl _ _).drew) (fun hCalm => ?_)
     refine grow_take 0 (some 23) ?_ rfl rfl (by kernel_rfl) (fun _ _ _ h => h) (by kernel_rfl) hCalm ?_ ?_
     rotate_left
     · intro wS hS; (try dsimp only at hS); go_simp <;> with_reducible rfl
     try simp only [Act.put, q8a, q8b, q8c]
     refine grow_take 1 (some 24) ?_ rfl rfl (by kernel_rfl) (fun _ _ _ h => h) (by kernel_rfl) hCalm ?_ ?_
     rotate_left
     · intro wS hS; (try dsimp only at hS); go_simp <;> with_reducible rfl
     try simp only [Act.put, q8a, q8b, q8c]
     refine grow_take 2 (some 25) ?_ rfl rfl (by kernel_rfl) (fun _ _ _ h => h) (by kernel_rfl) hCalm ?_ ?_
     rotate_left
     · intro wS hS; (try dsimp only at hS); go_simp <;> with_reducible rfl
     try simp only [Act.put, q8a, q8b, q8c]
     refine grow_take 3 (some 26) ?_ rfl rfl (by kernel_rfl) (fun _ _ _ h => h) (by kernel_rfl) hCalm ?_ ?_
     rotate_left
     · intro wS hS; (try dsimp only at hS); go_simp <;> with_reducible rfl
     try simp only [Act.put, q8a, q8b, q8c]
     refine grow_take 4 (some 27) ?_ rfl rfl (by kernel_rfl) (fun _ _ _ h => h) (by kernel_rfl) hCalm ?_ ?_
     rotate_left
     · intro wS hS; (try dsimp only at hS); go_simp <;> with_reducible rfl
     try simp only [Act.put, q8a, q8b, q8c]
     refine grow_take 5 (some 28) (.bool false) rfl rfl (by kernel_rfl) (fun _ _ _ h => h) (by kernel_rfl) hCalm ?_ ?_
     · intro wS hS; (try dsimp only at hS); go_simp
       all_goals simp
     try simp only [Act.put, q8a, q8b, q8c]
     refine grow_done (by kernel_rfl) (fun wA hA => ?_) _
     have HB3 := Lib.hid (HB2.out.trans (hA.mono HB2.out.size)); have HO3 := Lib.hid (HO2.out.below hA (Nat.le_refl _))
     clear hA hCalm
     go_wp2_with fail
     go_roundw
     case rel => exact ⟨i + 1, by go_num, HI.out, HO3.out, HB3.out⟩
     case measure => have := HI.out; simp [intOf]; omega
end Go.Proofs.YtpjbihfkedbenaaGreat
