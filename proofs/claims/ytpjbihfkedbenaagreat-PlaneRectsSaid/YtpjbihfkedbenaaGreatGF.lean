/- The contract of the reference's order. Conditions: the digits read, and there are at most 100,000. | The contracts of the reference's plus and minus. Conditions: the digits read, and there are at most 10,000; for minus, the second is not greater. | The contract of the reference's times. Condition: the digits read, and there are at most 1,000. | The contract of the reference's minus. Conditions: the digits read, there are at most 10,000, and the second is not greater. | The contract of the reference's Valid. Condition: a string's length is an int's. | The contract of the reference's digits. Conditions: the string is an integer, and its length an int. | The contract of the reference's Compare. Condition: the strings' lengths are ints. | The contracts of the reference's checked and sum, Add, Sub and Mul. Condition: the strings' lengths are ints. | The contract of the reference's divided. Conditions: the digits read, there are at most 1,000, and the divisor is not zero. | The contract of the reference's Div. Condition: the strings' lengths are ints. | The contract of the reference's Gcd. Condition: the strings' lengths are ints. | The contract of the reference's FromInt. No conditions. -/
import Derived.Test.YtpjbihfkedbenaaGreatGE
import Derived.Test.YtpjbihfkedbenaaGreatGC
namespace Go.Proofs.YtpjbihfkedbenaaGreat
open Go.RowKit Go.Lib
theorem ddiv_pred (V i : Nat) : V / 10 ^ i = 10 * (V / 10 ^ (i + 1)) + d10 V i := by
 unfold d10; rw [Nat.pow_succ, <- Nat.div_div_eq_div_mul]; omega
theorem dl_mono {a b : Nat} (h : a <= b) : dl a <= dl b := dl_le.2 (Nat.lt_of_le_of_lt h (lt_dl b))
theorem dl_lt {X Y : Nat} (h : dl X < dl Y) : X < Y := by
 rcases Nat.lt_or_ge X Y with h1 | h1
 · exact h1
 · have := dl_mono h1; omega
theorem dcomp_digit {X Y k : Nat} (h : X / 10 ^ (k + 1) = Y / 10 ^ (k + 1)) (hd : d10 X k < d10 Y k) : X < Y := by
 have h1 := ddiv_pred X k
 have h2 := ddiv_pred Y k
 rcases Nat.lt_or_ge X Y with h3 | h3
 · exact h3
 · have := Nat.div_le_div_right (c := 10 ^ k) h3; omega
theorem dcomp_same {X Y k : Nat} (h : X / 10 ^ (k + 1) = Y / 10 ^ (k + 1)) (hd : d10 X k = d10 Y k) : X / 10 ^ k = Y / 10 ^ k := by
 rw [ddiv_pred X k, ddiv_pred Y k, h, hd]
set_option maxRecDepth 100000 in
set_option maxHeartbeats 1000000 in
theorem qorder_any (A A' : Option Addr) (c c' X Y : Nat) (w : World) (hA : Dm w A (dl X) c X) (hB : Dm w A' (dl Y) c' Y) (hY : dl Y <= 100000) :
   Calls Tryz.prog 81 #[.slice A (dl X) c, .slice A' (dl Y) c'] w fun e w' => e = .returned (.int .i64 (ordI X Y)) /\ ∃ k, w' = w.drewN k := by
 by_cases hne : dl X = dl Y
 · obtain ⟨n, hn⟩ : ∃ n, n = dl Y := ⟨_, rfl⟩
   rw [<- hn] at hne hB hY ⊢
   rw [hne] at hA ⊢
   have hdx : X / 10 ^ n = Y / 10 ^ n := by rw [Nat.div_eq_of_lt (hne ▸ lt_dl X), Nat.div_eq_of_lt (hn ▸ lt_dl Y)]
   have HA := Lib.hid hA; have HB := Lib.hid hB; have HN := Lib.hid hn; have HD := Lib.hid hdx; have HE := Lib.hid hne
   clear hA hB hn hdx hne
   go_enter Tryz.func81, Tryz.ntmps81
   go_wp2
   go_loopw [5] (fun ii wr => ∃ (t : Nat) (i : Int) (q : Nat), ii = .int .i64 i /\ Hid (i = (t : Int) - 1) /\ t <= n /\ Hid (X / 10 ^ t = Y / 10 ^ t) /\ wr = w.drewN q) (fun ii _ => (intOf ii + 1).toNat)
   case atStart => exact ⟨n, _, 0, rfl, rfl, Nat.le_refl _, HD.out, rfl⟩
   case round =>
     obtain ⟨t, i, q, rfl, HI, ht, HQ, rfl⟩ := hrel
     rcases t with _ | k
     · obtain rfl : i = -1 := by have := HI.out; omega
       have HR : Hid (ordI X Y = 0) := ordI_eq (by have := HQ.out; simp at this; omega)
       go_wp2
       go_ret
       exact ⟨by rw [HR.out]; rfl, _, rfl⟩
     · obtain rfl : i = (k : Int) := by have := HI.out; omega
       obtain ⟨b, o, rfl, hb, hc⟩ := HA.out.2 (by omega)
       obtain ⟨b', o', rfl, hb', hc'⟩ := HB.out.2 (by omega)
       have hcell := hc k (by omega)
       have hcell' := hc' k (by omega)
       have hdx := d10_lt X k
       have hdy := d10_lt Y k
       obtain ⟨x, hx⟩ : ∃ x, x = d10 X k := ⟨_, rfl⟩
       obtain ⟨y, hy⟩ : ∃ y, y = d10 Y k := ⟨_, rfl⟩
       rw [<- hx] at hcell hdx
       rw [<- hy] at hcell' hdy
       have q1 : (0 : Int) <= (k : Int) := by omega
       have q2 : (k : Int) < (n : Int) := by omega
       by_cases hxy : x = y
       · have HQ2 : Hid (X / 10 ^ k = Y / 10 ^ k) := dcomp_same HQ.out (by omega)
         subst hxy
         clear hc hc' hx hy
         go_wp2
         go_quiet (fail)
         go_wp2
         go_roundw
         case rel => exact ⟨k, _, _, rfl, rfl, by omega, HQ2.out, rfl⟩
         case measure => simp [intOf]
       · have h3 : ((x : Int) == (y : Int)) = false := by rw [beq_eq_false_iff_ne]; omega
         have h4 : ((x : Int) != (y : Int)) = true := by rw [bne, h3]; rfl
         rcases Nat.lt_or_gt_of_ne hxy with h | h
         · have HR : Hid (ordI X Y = -1) := ordI_lt (by have := dcomp_digit HQ.out (by omega); omega)
           have h5 : (x : Int) < (y : Int) := by omega
           clear hc hc' hx hy hxy h
           go_wp2
           go_quiet (fail)
           go_wp2
           go_quiet (fail)
           go_wp2
           go_ret
           exact ⟨by rw [HR.out]; rfl, _, by rw [World.drewN_drewN, World.drewN_drewN]⟩
         · have HR : Hid (ordI X Y = 1) := ordI_gt (by have := dcomp_digit HQ.out.symm (by omega); omega)
           have h5 : ¬ (x : Int) < (y : Int) := by omega
           clear hc hc' hx hy hxy h
           go_wp2
           go_quiet (fail)
           go_wp2
           go_quiet (fail)
           go_wp2
           go_ret
           exact ⟨by rw [HR.out]; rfl, _, by rw [World.drewN_drewN, World.drewN_drewN]⟩
 · have h3 : (((dl X : Nat) : Int) == ((dl Y : Nat) : Int)) = false := by rw [beq_eq_false_iff_ne]; omega
   have h4 : (((dl X : Nat) : Int) != ((dl Y : Nat) : Int)) = true := by rw [bne, h3]; rfl
   rcases Nat.lt_or_gt_of_ne hne with h | h
   · have HR : Hid (ordI X Y = -1) := ordI_lt (by have := dl_lt h; omega)
     have h5 : ((dl X : Nat) : Int) < ((dl Y : Nat) : Int) := by omega
     clear hne h hA hB
     go_enter Tryz.func81, Tryz.ntmps81
     go_wp2
     go_ret
     exact ⟨by rw [HR.out]; rfl, 0, rfl⟩
   · have HR : Hid (ordI X Y = 1) := ordI_gt (by have := dl_lt h; omega)
     have h5 : ¬ ((dl X : Nat) : Int) < ((dl Y : Nat) : Int) := by omega
     clear hne h hA hB
     go_enter Tryz.func81, Tryz.ntmps81
     go_wp2
     go_ret
     exact ⟨by rw [HR.out]; rfl, 0, rfl⟩
def dcar (X Y i : Nat) : Nat := (X % 10 ^ i + Y % 10 ^ i) / 10 ^ i
theorem pow10_pos (i : Nat) : 0 < 10 ^ i := Nat.pow_pos (by omega)
theorem dcar_le (X Y i : Nat) : dcar X Y i <= 1 := by
 unfold dcar
 have hp := pow10_pos i
 have h1 := Nat.mod_lt X hp
 have h2 := Nat.mod_lt Y hp
 have : (X % 10 ^ i + Y % 10 ^ i) / 10 ^ i < 2 := (Nat.div_lt_iff_lt_mul hp).2 (by omega)
 omega
theorem dcar_digit (X Y i : Nat) : (dcar X Y i + d10 X i + d10 Y i) % 10 = d10 (X + Y) i := by
 have hp := pow10_pos i
 have e : (X + Y) / 10 ^ i = dcar X Y i + X / 10 ^ i + Y / 10 ^ i := by
   have h1 := Nat.div_add_mod X (10 ^ i)
   have h2 := Nat.div_add_mod Y (10 ^ i)
   have h3 : X + Y = (X % 10 ^ i + Y % 10 ^ i) + 10 ^ i * (X / 10 ^ i + Y / 10 ^ i) := by rw [Nat.mul_add]; omega
   conv => lhs; rw [h3]
   rw [Nat.add_mul_div_left _ _ hp]; unfold dcar; omega
 unfold d10; rw [e]; omega
theorem dcar_succ (X Y i : Nat) : dcar X Y (i + 1) = (dcar X Y i + d10 X i + d10 Y i) / 10 := by
 have hp := pow10_pos i
 unfold dcar
 rw [dmod_succ, dmod_succ, Nat.pow_succ, <- Nat.div_div_eq_div_mul]
 have e : X % 10 ^ i + 10 ^ i * d10 X i + (Y % 10 ^ i + 10 ^ i * d10 Y i) = (X % 10 ^ i + Y % 10 ^ i) + 10 ^ i * (d10 X i + d10 Y i) := by rw [Nat.mul_add]; omega
 rw [e, Nat.add_mul_div_left _ _ hp]; congr 1; omega
theorem dcar_zero (X Y : Nat) : dcar X Y 0 = 0 := by unfold dcar; simp [Nat.mod_one]
theorem d10_far {V i : Nat} (h : dl V <= i) : d10 V i = 0 := d10_zero (dl_le.1 h)
theorem pow_le_of {V i : Nat} (h : i < dl V) : 10 ^ i <= V := by
 rcases Nat.lt_or_ge V (10 ^ i) with h1 | h1
 · have := dl_le.2 h1; omega
 · exact h1
theorem lt_dl_of {V i : Nat} (h : 10 ^ i <= V) : i < dl V := by
 rcases Nat.lt_or_ge i (dl V) with h1 | h1
 · exact h1
 · have := dl_le.1 h1; omega
theorem dcar_more {X Y i : Nat} (h : i < dl X ∨ i < dl Y ∨ 0 < dcar X Y i) : i < dl (X + Y) := by
 refine lt_dl_of ?_
 rcases h with h | h | h
 · have := pow_le_of h; omega
 · have := pow_le_of h; omega
 · unfold dcar at h
   have hp := pow10_pos i
   have h1 : 10 ^ i <= X % 10 ^ i + Y % 10 ^ i := by
     rcases Nat.lt_or_ge (X % 10 ^ i + Y % 10 ^ i) (10 ^ i) with h2 | h2
     · rw [Nat.div_eq_of_lt h2] at h; omega
     · exact h2
   have := Nat.mod_le X (10 ^ i)
   have := Nat.mod_le Y (10 ^ i)
   omega
theorem dcar_end {X Y i : Nat} (h1 : dl X <= i) (h2 : dl Y <= i) (h : dcar X Y i = 0) (h3 : i <= dl (X + Y)) : i = dl (X + Y) := by
 unfold dcar at h
 rw [Nat.mod_eq_of_lt (dl_le.1 h1), Nat.mod_eq_of_lt (dl_le.1 h2)] at h
 have h4 : X + Y < 10 ^ i := by
   rcases Nat.lt_or_ge (X + Y) (10 ^ i) with h2 | h2
   · exact h2
   · have := Nat.div_le_div_right (c := 10 ^ i) h2
     rw [Nat.div_self (pow10_pos i)] at this; omega
 have := dl_le.2 h4; omega
def Fr (B : Nat) (A : Option Addr) : Prop := ∀ b o, A = some ⟨b, o, none⟩ -> B <= b
theorem Fr.mono {B C : Nat} {A : Option Addr} (h : Fr C A) (hB : B <= C) : Fr B A := fun b o e => Nat.le_trans hB (h b o e)
theorem Dm.ownF {w : World} {B n V : Nat} {v : Value} (h : w.ownsRow B 3 1 v n ((digs V n).map iv)) : ∃ A c, v = .slice A n c /\ Dm w A n c V /\ Fr B A := by
 obtain ⟨A, c, rfl, hD⟩ := Dm.own h
 refine ⟨A, c, rfl, hD, fun b o e => ?_⟩
 rcases h.2 with ⟨h1, -⟩ | ⟨g, cap, cur, h1, hg, -⟩
 · rw [e] at h1; cases h1
 · rw [e] at h1; cases h1; exact hg
theorem Dm.far {w : World} {A : Option Addr} {n c V : Nat} (h : Dm w A n c V) {p : Addr} (hp : Fr (p.block + 1) A) (u : Value) : Dm (w.setCell p u) A n c V :=
 ⟨h.1, fun hn => by
   obtain ⟨b, o, e, hl, hc⟩ := h.2 hn
   exact ⟨b, o, e, by simpa [World.setCell] using hl, fun i hi => (World.cell?_of_block (w := w) (a := ⟨b, o + i, none⟩) (Below.heap_setCell w p u b (by have := hp b o e; omega))).trans (hc i hi)⟩⟩
def OutG (V : Nat) (w : World) (e : Ending) (w' : World) : Prop := ∃ A c, e = .returned (.slice A (dl V) c) /\ Dm w' A (dl V) c V /\ Fr w.heap.size A /\ Below w.heap.size w w'
set_option maxRecDepth 100000 in
set_option maxHeartbeats 1000000 in
theorem qplus_any (A A' : Option Addr) (c c' X Y : Nat) (w : World) (hA : Dm w A (dl X) c X) (hB : Dm w A' (dl Y) c' Y) (hX : dl (X + Y) <= 10000) :
   Calls Tryz.prog 85 #[.slice A (dl X) c, .slice A' (dl Y) c'] w (OutG (X + Y) w) := by
 obtain ⟨i0, hi0, hz0, hz1, hz2⟩ := info_of info_i64
 have HA := Lib.hid hA; have HB := Lib.hid hB; have HX := Lib.hid hX
 have hX1 := Nat.le_trans (dl_mono (Nat.le_add_right X Y)) hX
 have hY1 := Nat.le_trans (dl_mono (Nat.le_add_left Y X)) hX
 clear hA hB hX
 go_enter Tryz.func85, Tryz.ntmps85
 go_wp2_with fail
 go_loopw [5, 6, 7] (fun vv cc ii wr => ∃ (i k : Nat), ii = .int .i64 i /\ cc = .int .i64 k /\ Hid (k = dcar X Y i) /\ k <= 1 /\ i <= 10000 /\ Hid (i <= dl (X + Y)) /\ wr.ownsRow w.heap.size 3 1 vv i ((digs (X + Y) i).map iv) /\ Below w.heap.size w wr)
   (fun _ _ ii _ => dl (X + Y) - (intOf ii).toNat)
 case atStart => exact ⟨0, 0, rfl, rfl, (dcar_zero X Y).symm, by omega, by omega, Nat.zero_le _, World.ownsRow_nil _ _ _ _, Below.refl _ _⟩
 case round =>
   obtain ⟨i, k, rfl, rfl, HK, hk, hi1, HI, hown, hbl⟩ := hrel
   have hbs := hbl.size
   by_cases hc : i < dl X ∨ i < dl Y ∨ 0 < k
   · have HM : Hid (i < dl (X + Y)) := dcar_more (by rw [<- HK.out]; exact hc)
     have hi2 : i < 10000 := Nat.lt_of_lt_of_le HM.out HX.out
     have hdig := dcar_digit X Y i
     have hsuc := dcar_succ X Y i
     have hnle := dcar_le X Y (i + 1)
     have hxl := d10_lt X i
     have hyl := d10_lt Y i
     have hfx : ¬ i < dl X -> d10 X i = 0 := fun h => d10_far (by omega)
     have hfy : ¬ i < dl Y -> d10 Y i = 0 := fun h => d10_far (by omega)
     have hcx : i < dl X -> ∃ b o, A = some ⟨b, o, none⟩ /\ wr.cell? ⟨b, o + i, none⟩ = some (.int .i64 (d10 X i : Nat)) := fun h => by
       obtain ⟨b, o, e, -, hcc⟩ := (HA.out.below hbl).2 (by omega)
       exact ⟨b, o, e, hcc i h⟩
     have hcy : i < dl Y -> ∃ b o, A' = some ⟨b, o, none⟩ /\ wr.cell? ⟨b, o + i, none⟩ = some (.int .i64 (d10 Y i : Nat)) := fun h => by
       obtain ⟨b, o, e, -, hcc⟩ := (HB.out.below hbl).2 (by omega)
       exact ⟨b, o, e, hcc i h⟩
     rw [<- HK.out] at hdig hsuc
     have HDG := Lib.hid (digs_succ (X + Y) i)
     obtain ⟨x, hx⟩ : ∃ x, x = d10 X i := ⟨_, rfl⟩
     obtain ⟨y, hy⟩ : ∃ y, y = d10 Y i := ⟨_, rfl⟩
     obtain ⟨d, hd⟩ : ∃ d, d = d10 (X + Y) i := ⟨_, rfl⟩
     obtain ⟨k', hk'⟩ : ∃ k', k' = dcar X Y (i + 1) := ⟨_, rfl⟩
     rw [<- hx] at hdig hsuc hxl hfx hcx
     rw [<- hy] at hdig hsuc hyl hfy hcy
     rw [<- hd] at hdig HDG
     rw [<- hk'] at hsuc hnle
     have HK' := Lib.hid hk'
     have q1 : (0 : Int) <= (i : Int) := by omega
     have q2 : (0 : Int) <= (k : Int) := by omega
     have q3 : (k : Int) <= 1 := by omega
     have HOWN := Lib.hid hown; have HBL := Lib.hid hbl
     clear hown hbl hx hy hd hk' HK
     by_cases h1 : i < dl X <;> by_cases h2 : i < dl Y
     · obtain ⟨b, o, rfl, cx⟩ := hcx h1
       obtain ⟨b', o', rfl, cy⟩ := hcy h2
       have e1 : ((k : Int) + (x : Int) + (y : Int)) % 10 = (d : Int) := by omega
       have e2 : ((k : Int) + (x : Int) + (y : Int)) / 10 = (k' : Int) := by omega
       clear hdig hsuc hcx hcy hfx hfy hc
       go_wp2_with (at_builtin; refine wpList_append_own _ rfl _ _ 86 rfl w.heap.size 3 i0 (.int .i64 0) 1 8 Tryz.underlying86 hi0 hz0 hz1 hz2 rfl (by decide) _ _ _ rfl (HOWN.out.alloc _) ⟨wr.heap.size, 0, none⟩ 1 1 [.int .i64 (d : Int)] rfl rfl (cell_one_new _ _ _) (by simp [Value.oneCell']) (by unfold maxLen; omega) (by omega) (by simp; omega) ?_; intro v1 w1 hown1 hgrow1 _; have hB1 := ((HBL.out.alloc hbs _).grown hgrow1 (by simp; omega) (own_base HOWN.out)); have hown2 : w1.ownsRow w.heap.size 3 1 v1 (i + 1) ((digs (X + Y) (i + 1)).map iv) := (by rw [HDG.out, List.map_append]; exact hown1); have HOWN2 := Lib.hid hown2; have HB1 := Lib.hid hB1; clear hown1 hgrow1 hown2 hB1)
       go_roundw
       case rel => exact ⟨i + 1, k', by go_num, by rw [e2], HK'.out, hnle, by omega, HM.out, HOWN2.out, HB1.out⟩
       case measure => have := HM.out; simp [intOf] <;> omega
     · obtain ⟨b, o, rfl, cx⟩ := hcx h1
       have hy0 := hfy h2
       subst hy0
       have e1 : ((k : Int) + (x : Int)) % 10 = (d : Int) := by omega
       have e2 : ((k : Int) + (x : Int)) / 10 = (k' : Int) := by omega
       clear hdig hsuc hcx hcy hfx hfy hc
       go_wp2_with (at_builtin; refine wpList_append_own _ rfl _ _ 86 rfl w.heap.size 3 i0 (.int .i64 0) 1 8 Tryz.underlying86 hi0 hz0 hz1 hz2 rfl (by decide) _ _ _ rfl (HOWN.out.alloc _) ⟨wr.heap.size, 0, none⟩ 1 1 [.int .i64 (d : Int)] rfl rfl (cell_one_new _ _ _) (by simp [Value.oneCell']) (by unfold maxLen; omega) (by omega) (by simp; omega) ?_; intro v1 w1 hown1 hgrow1 _; have hB1 := ((HBL.out.alloc hbs _).grown hgrow1 (by simp; omega) (own_base HOWN.out)); have hown2 : w1.ownsRow w.heap.size 3 1 v1 (i + 1) ((digs (X + Y) (i + 1)).map iv) := (by rw [HDG.out, List.map_append]; exact hown1); have HOWN2 := Lib.hid hown2; have HB1 := Lib.hid hB1; clear hown1 hgrow1 hown2 hB1)
       go_roundw
       case rel => exact ⟨i + 1, k', by go_num, by rw [e2], HK'.out, hnle, by omega, HM.out, HOWN2.out, HB1.out⟩
       case measure => have := HM.out; simp [intOf] <;> omega
     · obtain ⟨b', o', rfl, cy⟩ := hcy h2
       have hx0 := hfx h1
       subst hx0
       have e1 : ((k : Int) + (y : Int)) % 10 = (d : Int) := by omega
       have e2 : ((k : Int) + (y : Int)) / 10 = (k' : Int) := by omega
       clear hdig hsuc hcx hcy hfx hfy hc
       go_wp2_with (at_builtin; refine wpList_append_own _ rfl _ _ 86 rfl w.heap.size 3 i0 (.int .i64 0) 1 8 Tryz.underlying86 hi0 hz0 hz1 hz2 rfl (by decide) _ _ _ rfl (HOWN.out.alloc _) ⟨wr.heap.size, 0, none⟩ 1 1 [.int .i64 (d : Int)] rfl rfl (cell_one_new _ _ _) (by simp [Value.oneCell']) (by unfold maxLen; omega) (by omega) (by simp; omega) ?_; intro v1 w1 hown1 hgrow1 _; have hB1 := ((HBL.out.alloc hbs _).grown hgrow1 (by simp; omega) (own_base HOWN.out)); have hown2 : w1.ownsRow w.heap.size 3 1 v1 (i + 1) ((digs (X + Y) (i + 1)).map iv) := (by rw [HDG.out, List.map_append]; exact hown1); have HOWN2 := Lib.hid hown2; have HB1 := Lib.hid hB1; clear hown1 hgrow1 hown2 hB1)
       go_roundw
       case rel => exact ⟨i + 1, k', by go_num, by rw [e2], HK'.out, hnle, by omega, HM.out, HOWN2.out, HB1.out⟩
       case measure => have := HM.out; simp [intOf] <;> omega
     · have hx0 := hfx h1
       subst hx0
       have hy0 := hfy h2
       subst hy0
       obtain rfl : k = 1 := by omega
       obtain rfl : d = 1 := by omega
       obtain rfl : k' = 0 := by omega
       clear hdig hsuc hcx hcy hfx hfy hc
       go_wp2_with (at_builtin; refine wpList_append_own _ rfl _ _ 86 rfl w.heap.size 3 i0 (.int .i64 0) 1 8 Tryz.underlying86 hi0 hz0 hz1 hz2 rfl (by decide) _ _ _ rfl (HOWN.out.alloc _) ⟨wr.heap.size, 0, none⟩ 1 1 [.int .i64 1] rfl rfl (cell_one_new _ _ _) (by simp [Value.oneCell']) (by unfold maxLen; omega) (by omega) (by simp; omega) ?_; intro v1 w1 hown1 hgrow1 _; have hB1 := ((HBL.out.alloc hbs _).grown hgrow1 (by simp; omega) (own_base HOWN.out)); have hown2 : w1.ownsRow w.heap.size 3 1 v1 (i + 1) ((digs (X + Y) (i + 1)).map iv) := (by rw [HDG.out, List.map_append]; exact hown1); have HOWN2 := Lib.hid hown2; have HB1 := Lib.hid hB1; clear hown1 hgrow1 hown2 hB1)
       go_roundw
       case rel => exact ⟨i + 1, 0, by go_num, rfl, HK'.out, hnle, by omega, HM.out, HOWN2.out, HB1.out⟩
       case measure => have := HM.out; simp [intOf] <;> omega
   · have h1 : ¬ i < dl X := fun h => hc (.inl h)
     have h2 : ¬ i < dl Y := fun h => hc (.inr (.inl h))
     obtain rfl : k = 0 := by omega
     have he := dcar_end (by omega) (by omega) HK.out.symm HI.out
     obtain ⟨Ar, cr, rfl, hD, hF⟩ := Dm.ownF hown
     have hD2 : Dm wr Ar (dl (X + Y)) cr (X + Y) := he ▸ hD
     have HE : Hid (i = dl (X + Y)) := he
     have HD := Lib.hid hD2; have HBL := Lib.hid hbl
     clear hD hD2 he hown hbl hc
     go_wp2_with fail
     go_ret
     exact ⟨Ar, cr, by rw [HE.out]; rfl, HD.out, hF, HBL.out⟩
theorem d10_low (V : Nat) : d10 V 0 = V % 10 := by unfold d10; simp
theorem d10_up (V i : Nat) : d10 V (i + 1) = d10 (V / 10) i := by
 unfold d10; rw [Nat.pow_succ, Nat.mul_comm (10 ^ i), <- Nat.div_div_eq_div_mul]
theorem digs_cons (V n : Nat) : digs V (n + 1) = ((V % 10 : Nat) : Int) :: digs (V / 10) n := by
 apply List.ext_getElem
 · simp [digs_length]
 · intro i h1 h2
   rw [digs_at]
   cases i with
   | zero => rw [d10_low]; rfl
   | succ i => rw [d10_up, List.getElem_cons_succ, digs_at]
theorem Dm.of_blk {w : World} {V g : Nat} {t : TypeId} {L : List Int} (h : Blk w g t (L.map iv).toArray) (hL : L = digs V L.length) : Dm w (some ⟨g, 0, none⟩) L.length L.length V :=
 ⟨Nat.le_refl _, fun _ => ⟨g, 0, rfl, h.lt, fun i hi => by
   rw [Nat.zero_add]
   have h1 := h.cell (iv_at hi)
   rw [h1]
   have h2 : L[i] = (digs V L.length)[i]'(by rw [digs_length]; exact hi) := by congr 1
   rw [h2, digs_at]; rfl⟩⟩
set_option maxRecDepth 100000 in
set_option maxHeartbeats 1000000 in
theorem qminus_any (A A' : Option Addr) (c c' X Y : Nat) (w : World) (hA : Dm w A (dl X) c X) (hB : Dm w A' (dl Y) c' Y) (hX : dl X <= 10000) (hle : Y <= X) :
   Calls Tryz.prog 86 #[.slice A (dl X) c, .slice A' (dl Y) c'] w (OutG (X - Y) w) := by
 obtain ⟨i0, hi0, hz0, hz1, hz2⟩ := info_of info_i64
 obtain ⟨D, hD⟩ : ∃ D, D = X - Y := ⟨_, rfl⟩
 rw [<- hD]
 have hXD : D + Y = X := by omega
 have hlt := lt_dl X
 have hDl : D < 10 ^ dl X := by omega
 have HA := Lib.hid hA; have HB := Lib.hid hB; have HXD := Lib.hid hXD; have HDL := Lib.hid hDl
 obtain ⟨n, hn⟩ : ∃ n, n = dl X := ⟨_, rfl⟩
 rw [<- hn] at HA HDL hX ⊢
 have HN := Lib.hid hn
 clear hA hB hD hXD hle hn hlt hDl
 go_enter Tryz.func86, Tryz.ntmps86
 go_wp2_with fail
 go_loopw [5, 6, 7] (fun vv cc ii wr => ∃ (i k : Nat), ii = .int .i64 i /\ cc = .int .i64 k /\ Hid (k = dcar D Y i) /\ k <= 1 /\ i <= n /\ wr.ownsRow w.heap.size 3 1 vv i ((digs D i).map iv) /\ Below w.heap.size w wr)
   (fun _ _ ii _ => n - (intOf ii).toNat)
 case atStart => exact ⟨0, 0, rfl, rfl, (dcar_zero D Y).symm, by omega, by omega, World.ownsRow_nil _ _ _ _, Below.refl _ _⟩
 case round =>
   obtain ⟨i, k, rfl, rfl, HK, hk, hi1, hown, hbl⟩ := hrel
   have hbs := hbl.size
   by_cases hc : i < n
   · obtain ⟨b, o, rfl, -, hcc⟩ := (HA.out.below hbl).2 (by omega)
     have cx := hcc i hc
     have hdig := dcar_digit D Y i
     have hsuc := dcar_succ D Y i
     have hnle := dcar_le D Y (i + 1)
     rw [HXD.out] at hdig
     have hyl := d10_lt Y i
     have hdl := d10_lt D i
     have hfy : ¬ i < dl Y -> d10 Y i = 0 := fun h => d10_far (by omega)
     have hcy : i < dl Y -> ∃ b o, A' = some ⟨b, o, none⟩ /\ wr.cell? ⟨b, o + i, none⟩ = some (.int .i64 (d10 Y i : Nat)) := fun h => by
       obtain ⟨b, o, e, -, hcc⟩ := (HB.out.below hbl).2 (by omega)
       exact ⟨b, o, e, hcc i h⟩
     rw [<- HK.out] at hdig hsuc
     have HDG := Lib.hid (digs_succ D i)
     obtain ⟨x, hx⟩ : ∃ x, x = d10 X i := ⟨_, rfl⟩
     obtain ⟨y, hy⟩ : ∃ y, y = d10 Y i := ⟨_, rfl⟩
     obtain ⟨d, hd⟩ : ∃ d, d = d10 D i := ⟨_, rfl⟩
     obtain ⟨k', hk'⟩ : ∃ k', k' = dcar D Y (i + 1) := ⟨_, rfl⟩
     rw [<- hx] at hdig cx
     rw [<- hy] at hdig hsuc hyl hfy hcy
     rw [<- hd] at hdig HDG hdl hsuc
     rw [<- hk'] at hsuc hnle
     have HK' := Lib.hid hk'
     have q1 : (0 : Int) <= (i : Int) := by omega
     have q2 : (0 : Int) <= (k : Int) := by omega
     have q3 : (k : Int) <= 1 := by omega
     have q4 : (x : Int) <= 9 := by omega
     have q5 : (0 : Int) <= (x : Int) := by omega
     have q6 : (y : Int) <= 9 := by omega
     have q7 : (0 : Int) <= (y : Int) := by omega
     have HOWN := Lib.hid hown; have HBL := Lib.hid hbl
     clear hown hbl hx hy hd hk' HK hcc
     by_cases h2 : i < dl Y
     · obtain ⟨b', o', rfl, cy⟩ := hcy h2
       by_cases hneg : (x : Int) - (k : Int) - (y : Int) < 0
       · obtain rfl : k' = 1 := by omega
         have e1 : (x : Int) - (k : Int) - (y : Int) + 10 = (d : Int) := by omega
         clear hdig hsuc hcy hfy
         go_wp2_with (at_builtin; refine wpList_append_own _ rfl _ _ 86 rfl w.heap.size 3 i0 (.int .i64 0) 1 8 Tryz.underlying86 hi0 hz0 hz1 hz2 rfl (by decide) _ _ _ rfl (HOWN.out.alloc _) ⟨wr.heap.size, 0, none⟩ 1 1 [.int .i64 (d : Int)] rfl rfl (cell_one_new _ _ _) (by simp [Value.oneCell']) (by unfold maxLen; omega) (by omega) (by simp; omega) ?_; intro v1 w1 hown1 hgrow1 _; have hB1 := ((HBL.out.alloc hbs _).grown hgrow1 (by simp; omega) (own_base HOWN.out)); have hown2 : w1.ownsRow w.heap.size 3 1 v1 (i + 1) ((digs D (i + 1)).map iv) := (by rw [HDG.out, List.map_append]; exact hown1); have HOWN2 := Lib.hid hown2; have HB1 := Lib.hid hB1; clear hown1 hgrow1 hown2 hB1)
         go_roundw
         case rel => exact ⟨i + 1, 1, by go_num, rfl, HK'.out, by omega, by omega, HOWN2.out, HB1.out⟩
         case measure => simp [intOf] <;> omega
       · obtain rfl : k' = 0 := by omega
         have e1 : (x : Int) - (k : Int) - (y : Int) = (d : Int) := by omega
         clear hdig hsuc hcy hfy
         go_wp2_with (at_builtin; refine wpList_append_own _ rfl _ _ 86 rfl w.heap.size 3 i0 (.int .i64 0) 1 8 Tryz.underlying86 hi0 hz0 hz1 hz2 rfl (by decide) _ _ _ rfl (HOWN.out.alloc _) ⟨wr.heap.size, 0, none⟩ 1 1 [.int .i64 (d : Int)] rfl rfl (cell_one_new _ _ _) (by simp [Value.oneCell']) (by unfold maxLen; omega) (by omega) (by simp; omega) ?_; intro v1 w1 hown1 hgrow1 _; have hB1 := ((HBL.out.alloc hbs _).grown hgrow1 (by simp; omega) (own_base HOWN.out)); have hown2 : w1.ownsRow w.heap.size 3 1 v1 (i + 1) ((digs D (i + 1)).map iv) := (by rw [HDG.out, List.map_append]; exact hown1); have HOWN2 := Lib.hid hown2; have HB1 := Lib.hid hB1; clear hown1 hgrow1 hown2 hB1)
         go_roundw
         case rel => exact ⟨i + 1, 0, by go_num, rfl, HK'.out, by omega, by omega, HOWN2.out, HB1.out⟩
         case measure => simp [intOf] <;> omega
     · have hy0 := hfy h2
       subst hy0
       by_cases hneg : (x : Int) - (k : Int) < 0
       · obtain rfl : k' = 1 := by omega
         have e1 : (x : Int) - (k : Int) + 10 = (d : Int) := by omega
         clear hdig hsuc hcy hfy
         go_wp2_with (at_builtin; refine wpList_append_own _ rfl _ _ 86 rfl w.heap.size 3 i0 (.int .i64 0) 1 8 Tryz.underlying86 hi0 hz0 hz1 hz2 rfl (by decide) _ _ _ rfl (HOWN.out.alloc _) ⟨wr.heap.size, 0, none⟩ 1 1 [.int .i64 (d : Int)] rfl rfl (cell_one_new _ _ _) (by simp [Value.oneCell']) (by unfold maxLen; omega) (by omega) (by simp; omega) ?_; intro v1 w1 hown1 hgrow1 _; have hB1 := ((HBL.out.alloc hbs _).grown hgrow1 (by simp; omega) (own_base HOWN.out)); have hown2 : w1.ownsRow w.heap.size 3 1 v1 (i + 1) ((digs D (i + 1)).map iv) := (by rw [HDG.out, List.map_append]; exact hown1); have HOWN2 := Lib.hid hown2; have HB1 := Lib.hid hB1; clear hown1 hgrow1 hown2 hB1)
         go_roundw
         case rel => exact ⟨i + 1, 1, by go_num, rfl, HK'.out, by omega, by omega, HOWN2.out, HB1.out⟩
         case measure => simp [intOf] <;> omega
       · obtain rfl : k' = 0 := by omega
         have e1 : (x : Int) - (k : Int) = (d : Int) := by omega
         clear hdig hsuc hcy hfy
         go_wp2_with (at_builtin; refine wpList_append_own _ rfl _ _ 86 rfl w.heap.size 3 i0 (.int .i64 0) 1 8 Tryz.underlying86 hi0 hz0 hz1 hz2 rfl (by decide) _ _ _ rfl (HOWN.out.alloc _) ⟨wr.heap.size, 0, none⟩ 1 1 [.int .i64 (d : Int)] rfl rfl (cell_one_new _ _ _) (by simp [Value.oneCell']) (by unfold maxLen; omega) (by omega) (by simp; omega) ?_; intro v1 w1 hown1 hgrow1 _; have hB1 := ((HBL.out.alloc hbs _).grown hgrow1 (by simp; omega) (own_base HOWN.out)); have hown2 : w1.ownsRow w.heap.size 3 1 v1 (i + 1) ((digs D (i + 1)).map iv) := (by rw [HDG.out, List.map_append]; exact hown1); have HOWN2 := Lib.hid hown2; have HB1 := Lib.hid hB1; clear hown1 hgrow1 hown2 hB1)
         go_roundw
         case rel => exact ⟨i + 1, 0, by go_num, rfl, HK'.out, by omega, by omega, HOWN2.out, HB1.out⟩
         case measure => simp [intOf] <;> omega
   · obtain rfl : i = n := by omega
     obtain ⟨Ar, cr, rfl, hDm, hF⟩ := Dm.ownF hown
     have htr := reftrim_any Ar i cr D wr hDm HDL.out (by omega)
     have HD := Lib.hid (hDm.less (dl_le.2 HDL.out)); have HBL := Lib.hid hbl; have HTR := Lib.hid htr
     clear hDm hown hbl hc htr
     go_wp2_with (go_at_call 100; (with_reducible refine HTR.out.mono ?_); rintro e w2 ⟨rfl, rfl⟩)
     go_ret
     exact ⟨Ar, cr, rfl, HD.out, hF, HBL.out⟩
theorem okD_false {b : Bool} {L : List UInt8} (h : allD L = false) : okD b L = false := by
 unfold okD
 split
 · rfl
 · rename_i c R
   split
   · rfl
   · split
     · rename_i h2
       have h3 : ¬ (R.length = 0) := fun h4 => by
         have : R = [] := List.eq_nil_of_length_eq_zero h4
         subst this
         have h5 : allD [c] = true := allD_iff.2 (by intro d hd; simp at hd; subst hd; unfold IsD; omega)
         rw [h] at h5; cases h5
       simp [h3]
     · exact h
theorem okD_many {b : Bool} {L : List UInt8} (h : 200 < L.length) : okD b L = false := by
 unfold okD
 split
 · rfl
 · rw [if_pos (by simpa using h)]
theorem okD_front {b : Bool} {c : UInt8} {R : List UInt8} (h : c.toNat = 48) (hR : b = true ∨ R ≠ []) : okD b (c :: R) = false := by
 unfold okD
 simp only
 split
 · rfl
 · rcases hR with rfl | h2
   · simp
   · have : R.length ≠ 0 := fun h3 => h2 (List.eq_nil_of_length_eq_zero h3)
     simp [this]
theorem okD_yes {b : Bool} {c : UInt8} {R : List UInt8} (h : c.toNat ≠ 48) (hl : R.length + 1 <= 200) : okD b (c :: R) = allD (c :: R) := by
 unfold okD
 simp only
 rw [if_neg (by omega), if_neg h]
theorem list48 {R : List UInt8} {c : UInt8} : ((c :: R) = [48]) ↔ (c.toNat = 48 /\ R = []) := by
 rw [List.cons_eq_cons]
 constructor
 · rintro ⟨rfl, h⟩; exact ⟨rfl, h⟩
 · rintro ⟨h, h2⟩; exact ⟨UInt8.toNat_inj.1 (by rw [h]; rfl), h2⟩
theorem is48 (r : ByteArray) (b : Bool) (h : b = decide (r.data.toList = [48])) : (r.toList == [48]) = b := by
 rw [h, toList_data, Bool.eq_iff_iff]; simp
set_option maxRecDepth 100000 in
set_option maxHeartbeats 2000000 in
theorem qvalid_any (s : ByteArray) (w : World) (hs : s.size <= 9000000000000000000) : Calls Tryz.prog 65 #[.string s] w fun e w' => e = .returned (.bool (validB s.data.toList)) /\ ∃ k, w' = w.drewN k := by
 by_cases h0 : s.size = 0
 · obtain rfl : s = ⟨#[]⟩ := by
     have : s.data.toList = [] := by rw [<- List.length_eq_zero_iff]; exact h0
     rw [<- bs_self s, this]; rfl
   have hv : validB (⟨#[]⟩ : ByteArray).data.toList = false := rfl
   rw [hv]
   clear hs h0 hv
   go_enter Tryz.func65, Tryz.ntmps65
   go_wp2
   go_loop [3] (fun i => i = .int .i64 0) (fun _ => 0)
   case atStart => rfl
   case round =>
     subst hrel
     go_wp2
     go_ret
     exact ⟨rfl, 0, rfl⟩
 · have hp : 0 < s.size := by omega
   have h1 : s.toList ≠ [] := by rw [toList_data, ne_eq, <- List.length_eq_zero_iff]; exact h0
   have h2 : (!s.toList.isEmpty) = true := by simp [h1]
   have hL : s.data.toList = s[0] :: s.data.toList.tail := by
     cases hq : s.data.toList with
     | nil => rw [<- List.length_eq_zero_iff] at hq; exact absurd hq h0
     | cons c R =>
       have : s[0] = c := by
         have h4 : s[0] = s.data.toList[0]'(by rw [hq]; simp) := rfl
         rw [h4]; simp [hq]
       rw [this]; rfl
   by_cases hc : s[0] = 45
   · have h3 : ((s[0].toNat : Int) == 45) = true := by rw [hc]; rfl
     have hcb : cutB s.data.toList = true := by rw [hL, hc]; rfl
     have hcr : bs (cutR s.data.toList) = s.extract 1 s.size := by
       rw [extract_eq]
       have : cutR s.data.toList = s.data.toList.tail := by rw [hL, hc]; rfl
       rw [this, <- List.drop_one, List.take_of_length_le (by rw [List.length_drop, size_eq]; exact Nat.le_refl _)]; rfl
     have hsl := fun w => run_slice_string_l (P := Tryz.prog) w 9 s Tryz.underlying9 .i64 1 (by omega) (by omega)
     rw [show (1 : Int).toNat = 1 from rfl] at hsl
     have hbv : validB s.data.toList = okD true (bs (cutR s.data.toList)).data.toList := by unfold validB; rw [hcb]; rfl
     rw [hcr] at hbv
     have hrs : (s.extract 1 s.size).size <= s.size := by rw [<- hcr, bs_size, size_eq]; exact cutR_le _
     obtain ⟨r, hr⟩ : ∃ r, r = s.extract 1 s.size := ⟨_, rfl⟩
     rw [<- hr] at hbv hsl hrs
     obtain ⟨v, hv⟩ : ∃ v, v = validB s.data.toList := ⟨_, rfl⟩
     rw [<- hv] at hbv ⊢
     have HV := Lib.hid hbv
     clear hv hr hcr hcb hL hc hbv h0
     by_cases hz : r.data.toList = [48]
     · have ht : (r.toList == [48]) = true := is48 _ _ (by rw [hz]; rfl)
       obtain rfl : v = false := HV.out.trans (by rw [hz]; rfl)
       clear hz
       go_enter Tryz.func65, Tryz.ntmps65
       go_wp2
       go_ret
       exact ⟨rfl, 0, rfl⟩
     · have ht : (r.toList == [48]) = false := is48 _ _ (by symm; rw [decide_eq_false_iff_not]; exact hz)
       have HN := Lib.hid hz
       clear hz
       have hs3 : r.size <= 9000000000000000000 := by omega
       go_enter Tryz.func65, Tryz.ntmps65
       go_wp2
       clear hsl ht
       go_loop [3] (fun i => ∃ k : Nat, k <= r.size /\ i = .int .i64 k /\ Hid (∀ j (h : j < k) (h2 : j < r.size), IsD r[j])) (fun i => r.size - (intOf i).toNat)
       case atStart => exact ⟨0, Nat.zero_le _, rfl, fun j h => absurd h (Nat.not_lt_zero _)⟩
       case round =>
         obtain ⟨k, hk, rfl, HK⟩ := hrel
         by_cases hlt : k < r.size
         · by_cases hd : IsD r[k]
           · have HK2 : Hid (∀ j (h : j < k + 1) (h2 : j < r.size), IsD r[j]) := fun j h h2 => by
               rcases Nat.lt_succ_iff_lt_or_eq.1 h with h3 | h3
               · exact HK.out j h3 h2
               · subst h3; exact hd
             unfold IsD at hd
             obtain ⟨d1, d2⟩ := hd
             have d3 : (48 : Int) <= (r[k].toNat : Int) := by omega
             have d4 : (r[k].toNat : Int) <= 57 := by omega
             go_wp2
             go_round
             case rel => exact ⟨k + 1, by omega, by go_num, HK2⟩
             case measure => simp [intOf]; omega
           · have hf := all_false hlt hd
             unfold IsD at hd
             obtain rfl : v = false := HV.out.trans (okD_false hf)
             rcases Nat.lt_or_ge r[k].toNat 48 with h | h
             · have d3 : (r[k].toNat : Int) < 48 := by omega
               clear hf hd HK
               go_wp2
               go_ret
               exact ⟨rfl, 0, rfl⟩
             · have d3 : (48 : Int) <= (r[k].toNat : Int) := by omega
               have d4 : (57 : Int) < (r[k].toNat : Int) := by omega
               clear hf hd HK
               go_wp2
               go_ret
               exact ⟨rfl, 0, rfl⟩
         · have ht : allD r.data.toList = true := by
             rw [allD_iff]
             intro c hc
             obtain ⟨i, hi, rfl⟩ := List.mem_iff_getElem.1 hc
             exact HK.out i (by rw [<- size_eq] at hi; omega) (by rw [<- size_eq] at hi; omega)
           have hsz := size_eq r
           rcases Nat.eq_zero_or_pos r.size with z0 | z0
           · have z1 : ¬ (0 : Int) < (r.size : Int) := by omega
             obtain rfl : v = false := HV.out.trans (by
               rw [z0] at hsz
               rw [List.eq_nil_of_length_eq_zero hsz.symm]; rfl)
             clear ht HK hsz
             go_wp2
             go_ret
             exact ⟨rfl, 0, rfl⟩
           · have z1 : (0 : Int) < (r.size : Int) := by omega
             obtain ⟨R, hR, hRl⟩ := head_at z0
             rcases Nat.lt_or_ge 200 r.size with z2 | z2
             · have z3 : ¬ (r.size : Int) <= 200 := by omega
               obtain rfl : v = false := HV.out.trans (okD_many (by rw [<- hsz]; exact z2))
               clear ht HK hsz hR hRl
               go_wp2
               go_ret
               exact ⟨rfl, 0, rfl⟩
             · have z3 : (r.size : Int) <= 200 := by omega
               by_cases z4 : r[0].toNat = 48
               · have z5 : ((r[0].toNat : Int) == 48) = true := by rw [z4]; rfl
                 have z9 : ((r[0].toNat : Int) != 48) = false := by rw [bne, z5]; rfl
                 by_cases z6 : R = []
                 · exact absurd (by rw [hR, z6, list48]; exact ⟨z4, rfl⟩) HN.out
                 · have z8 : (r.toList == [48]) = false := is48 _ _ (by
                     rw [hR]; symm; rw [decide_eq_false_iff_not, list48]; exact fun h => z6 h.2)
                   obtain rfl : v = false := HV.out.trans (by rw [hR]; exact okD_front z4 (.inr z6))
                   clear ht HK hsz hR hRl z4 z6 z5
                   go_wp2
                   go_ret
                   exact ⟨rfl, 0, rfl⟩
               · have z5 : ((r[0].toNat : Int) == 48) = false := by rw [beq_eq_false_iff_ne]; omega
                 have z9 : ((r[0].toNat : Int) != 48) = true := by rw [bne, z5]; rfl
                 have z8 : (r.toList == [48]) = false := is48 _ _ (by
                   rw [hR]; symm; rw [decide_eq_false_iff_not, list48]; exact fun h => z4 h.1)
                 obtain rfl : v = true := HV.out.trans (by rw [hR, okD_yes z4 (by omega), <- hR]; exact ht)
                 clear ht HK hsz hR hRl z4 z5
                 go_wp2
                 go_ret
                 exact ⟨rfl, 0, rfl⟩
   · have h3 : ((s[0].toNat : Int) == 45) = false := by
       rw [beq_eq_false_iff_ne]; intro h; exact hc (UInt8.toNat_inj.1 (show s[0].toNat = (45 : UInt8).toNat from Int.ofNat.inj h))
     have hcb : cutB s.data.toList = false := by
       rw [hL]; unfold cutB; split
       · rename_i h; injection h with h _; exact absurd h hc
       · rfl
     have hcr : cutR s.data.toList = s.data.toList := by
       rw [hL]; unfold cutR; split
       · rename_i h; injection h with h _; exact absurd h hc
       · rfl
     have hbv : validB s.data.toList = okD false s.data.toList := by unfold validB; rw [hcb, hcr]
     obtain ⟨v, hv⟩ : ∃ v, v = validB s.data.toList := ⟨_, rfl⟩
     rw [<- hv] at hbv ⊢
     have HV := Lib.hid hbv
     clear hv hcr hcb hL hc hbv h0
     go_enter Tryz.func65, Tryz.ntmps65
     go_wp2
     clear h1 h2 h3
     obtain ⟨r, hr⟩ : ∃ r, r = s := ⟨_, rfl⟩
     subst hr
     go_loop [3] (fun i => ∃ k : Nat, k <= r.size /\ i = .int .i64 k /\ Hid (∀ j (h : j < k) (h2 : j < r.size), IsD r[j])) (fun i => r.size - (intOf i).toNat)
     case atStart => exact ⟨0, Nat.zero_le _, rfl, fun j h => absurd h (Nat.not_lt_zero _)⟩
     case round =>
       obtain ⟨k, hk, rfl, HK⟩ := hrel
       by_cases hlt : k < r.size
       · by_cases hd : IsD r[k]
         · have HK2 : Hid (∀ j (h : j < k + 1) (h2 : j < r.size), IsD r[j]) := fun j h h2 => by
             rcases Nat.lt_succ_iff_lt_or_eq.1 h with h3 | h3
             · exact HK.out j h3 h2
             · subst h3; exact hd
           unfold IsD at hd
           obtain ⟨d1, d2⟩ := hd
           have d3 : (48 : Int) <= (r[k].toNat : Int) := by omega
           have d4 : (r[k].toNat : Int) <= 57 := by omega
           go_wp2
           go_round
           case rel => exact ⟨k + 1, by omega, by go_num, HK2⟩
           case measure => simp [intOf]; omega
         · have hf := all_false hlt hd
           unfold IsD at hd
           obtain rfl : v = false := HV.out.trans (okD_false hf)
           rcases Nat.lt_or_ge r[k].toNat 48 with h | h
           · have d3 : (r[k].toNat : Int) < 48 := by omega
             clear hf hd HK
             go_wp2
             go_ret
             exact ⟨rfl, 0, rfl⟩
           · have d3 : (48 : Int) <= (r[k].toNat : Int) := by omega
             have d4 : (57 : Int) < (r[k].toNat : Int) := by omega
             clear hf hd HK
             go_wp2
             go_ret
             exact ⟨rfl, 0, rfl⟩
       · have ht : allD r.data.toList = true := by
           rw [allD_iff]
           intro c hc
           obtain ⟨i, hi, rfl⟩ := List.mem_iff_getElem.1 hc
           exact HK.out i (by rw [<- size_eq] at hi; omega) (by rw [<- size_eq] at hi; omega)
         have hsz := size_eq r
         rcases Nat.eq_zero_or_pos r.size with z0 | z0
         · exact absurd z0 (by omega)
         · have z1 : (0 : Int) < (r.size : Int) := by omega
           obtain ⟨R, hR, hRl⟩ := head_at z0
           rcases Nat.lt_or_ge 200 r.size with z2 | z2
           · have z3 : ¬ (r.size : Int) <= 200 := by omega
             obtain rfl : v = false := HV.out.trans (okD_many (by rw [<- hsz]; exact z2))
             clear ht HK hsz hR hRl
             go_wp2
             go_ret
             exact ⟨rfl, 0, rfl⟩
           · have z3 : (r.size : Int) <= 200 := by omega
             by_cases z4 : r[0].toNat = 48
             · have z5 : ((r[0].toNat : Int) == 48) = true := by rw [z4]; rfl
               have z9 : ((r[0].toNat : Int) != 48) = false := by rw [bne, z5]; rfl
               by_cases z6 : R = []
               · have z8 : (r.toList == [48]) = true := is48 _ _ (by
                   rw [hR]; symm; rw [decide_eq_true_eq, list48]; exact ⟨z4, z6⟩)
                 obtain rfl : v = true := HV.out.trans (by rw [hR, z6, show r[0] = 48 from UInt8.toNat_inj.1 (by rw [z4]; rfl)]; rfl)
                 clear ht HK hsz hR hRl z4 z6 z5
                 go_wp2
                 go_ret
                 exact ⟨rfl, 0, rfl⟩
               · have z8 : (r.toList == [48]) = false := is48 _ _ (by
                   rw [hR]; symm; rw [decide_eq_false_iff_not, list48]; exact fun h => z6 h.2)
                 obtain rfl : v = false := HV.out.trans (by rw [hR]; exact okD_front z4 (.inr z6))
                 clear ht HK hsz hR hRl z4 z6 z5
                 go_wp2
                 go_ret
                 exact ⟨rfl, 0, rfl⟩
             · have z5 : ((r[0].toNat : Int) == 48) = false := by rw [beq_eq_false_iff_ne]; omega
               have z9 : ((r[0].toNat : Int) != 48) = true := by rw [bne, z5]; rfl
               have z8 : (r.toList == [48]) = false := is48 _ _ (by
                 rw [hR]; symm; rw [decide_eq_false_iff_not, list48]; exact fun h => z4 h.1)
               obtain rfl : v = true := HV.out.trans (by rw [hR, okD_yes z4 (by omega), <- hR]; exact ht)
               clear ht HK hsz hR hRl z4 z5
               go_wp2
               go_ret
               exact ⟨rfl, 0, rfl⟩
def OutDig (z : Int) (w : World) (e : Ending) (w' : World) : Prop := ∃ A c, e = .returned (.tuple #[.bool (decide (z < 0)), .slice A (dl z.natAbs) c]) /\ Dm w' A (dl z.natAbs) c z.natAbs /\ Below w.heap.size w w'
theorem byte_of {r : ByteArray} {X k t : Nat} (hR : r.data.toList = dec10 X) (hk : k + t + 1 = dl X) (h : k < r.size) : r[k].toNat = 48 + d10 X t := by
 have h1 : r[k] = r.data.toList[k]'(by rw [<- size_eq]; exact h) := rfl
 have h2 : k < (dec10 X).length := by rw [dec10_length]; omega
 have h3 : r[k] = (dec10 X)[k] := by rw [h1]; congr 1
 have h4 : (dec10 X)[k] = dch (d10 X (dl X - 1 - k)) := pad_at X (dl X) k h2
 rw [h3, h4, dch_nat (d10_lt _ _), show dl X - 1 - k = t by omega]
theorem dec_not0 {X : Nat} (h : 0 < X) : dec10 X ≠ [48] := fun h2 => by
 obtain ⟨c, L, h3, h4, -⟩ := dec10_head h
 rw [h2] at h3
 injection h3 with h5 _
 rw [<- h5] at h4; exact h4 rfl
set_option maxRecDepth 100000 in
set_option maxHeartbeats 2000000 in
theorem qdigits_any (s : ByteArray) (z : Int) (w : World) (hs : s.size <= 9000000000000000000) (hz : rd s.data.toList = some z) :
   Calls Tryz.prog 80 #[.string s] w (OutDig z w) := by
 obtain ⟨i0, hi0, hz0, hz1, hz2⟩ := info_of info_i64
 obtain ⟨g1, g2, g3, g4, g5, g6, g7, -⟩ := rd_some hz
 have hX200 := dl_le.2 g2
 have hcut : cutR s.data.toList = if z = 0 then [48] else dec10 z.natAbs := by rw [g1]; exact cutB_zL.2
 have hp : 0 < s.size := by
   have := cutR_le s.data.toList
   rw [<- size_eq] at this; omega
 have h1 : s.toList ≠ [] := by rw [toList_data, ne_eq, <- List.length_eq_zero_iff, <- size_eq]; omega
 have h2 : (!s.toList.isEmpty) = true := by simp [h1]
 have hL : s.data.toList = s[0] :: s.data.toList.tail := by
   cases hq : s.data.toList with
   | nil => have h7 := size_eq s; rw [hq, List.length_nil] at h7; omega
   | cons c R =>
     have : s[0] = c := by
       have h4 : s[0] = s.data.toList[0]'(by rw [hq]; simp) := rfl
       rw [h4]; simp [hq]
     rw [this]; rfl
 unfold OutDig
 obtain ⟨X, hX⟩ : ∃ X, X = z.natAbs := ⟨_, rfl⟩
 rw [<- hX] at hcut hX200 ⊢
 obtain ⟨n, hn⟩ : ∃ n, n = dl X := ⟨_, rfl⟩
 rw [<- hn] at hX200 ⊢
 by_cases hc : s[0] = 45
 · have h3 : ((s[0].toNat : Int) == 45) = true := by rw [hc]; rfl
   have hcb : cutB s.data.toList = true := by rw [hL, hc]; rfl
   have hcr : bs (cutR s.data.toList) = s.extract 1 s.size := by
     rw [extract_eq]
     have : cutR s.data.toList = s.data.toList.tail := by rw [hL, hc]; rfl
     rw [this, <- List.drop_one, List.take_of_length_le (by rw [List.length_drop, size_eq]; exact Nat.le_refl _)]; rfl
   have hsl := fun w => run_slice_string_l (P := Tryz.prog) w 9 s Tryz.underlying9 .i64 1 (by omega) (by omega)
   rw [show (1 : Int).toNat = 1 from rfl] at hsl
   rw [hcb] at g3
   have hzn : z < 0 := by simpa using g3.symm
   rw [if_neg (by omega)] at hcut
   rw [<- g3]
   obtain ⟨r, hr⟩ : ∃ r, r = s.extract 1 s.size := ⟨_, rfl⟩
   rw [<- hr] at hsl
   have hR : r.data.toList = dec10 X := by rw [hr, <- hcr, hcut]; rfl
   have hX0 : 0 < X := by omega
   clear hcr hcb hr hL hc hcut g1 g2 g3 g4 g5 g6 g7 hz hzn
   have ht : (r.toList == [48]) = false := is48 _ _ (by symm; rw [decide_eq_false_iff_not, hR]; exact dec_not0 hX0)
   have hsz : r.size = n := by rw [size_eq, hR, dec10_length, hn]
   have hn0 : 0 < n := by rw [hn]; exact dl_pos hX0
   have HR := Lib.hid hR; have HN := Lib.hid hn; have HSZ := Lib.hid hsz
   clear hX hX0 hR hn
   go_enter Tryz.func80, Tryz.ntmps80
   go_wp2_with fail
   clear hsl h1 h2 h3
   go_loopw [5, 6] (fun vv ii wr => ∃ (t : Nat) (i : Int), ii = .int .i64 i /\ Hid (i = (n : Int) - 1 - (t : Int)) /\ t <= n /\ wr.ownsRow w.heap.size 3 1 vv t ((digs X t).map iv) /\ Below w.heap.size w wr)
     (fun _ ii _ => (intOf ii + 1).toNat)
   case atStart => exact ⟨0, _, rfl, (by show _ = _; omega), Nat.zero_le _, World.ownsRow_nil _ _ _ _, Below.refl _ _⟩
   case round =>
     obtain ⟨t, i, rfl, HI, htn, hown, hbl⟩ := hrel
     have hbs := hbl.size
     by_cases hlt : t < n
     · obtain ⟨k, hk⟩ : ∃ k : Nat, i = (k : Int) := ⟨i.toNat, by have := HI.out; omega⟩
       subst hk
       have hkt : k + t + 1 = n := by have := HI.out; omega
       have hkr : k < r.size := by omega
       have hby := byte_of HR.out (by rw [<- HN.out]; exact hkt) hkr
       have hdl := d10_lt X t
       have HDG := Lib.hid (digs_succ X t)
       obtain ⟨d, hd⟩ : ∃ d, d = d10 X t := ⟨_, rfl⟩
       rw [<- hd] at hby hdl HDG
       have e1 : (r[k].toNat : Int) - 48 = (d : Int) := by omega
       have q1 : (0 : Int) <= (k : Int) := by omega
       have q2 : (k : Int) < (r.size : Int) := by omega
       have q3 : (48 : Int) <= (r[k].toNat : Int) := by omega
       have q4 : (r[k].toNat : Int) <= 57 := by omega
       have HI2 : Hid ((k : Int) - 1 = (n : Int) - 1 - ((t + 1 : Nat) : Int)) := by show _ = _; omega
       have HOWN := Lib.hid hown; have HBL := Lib.hid hbl
       clear hown hbl hd hby HI hkt
       go_wp2_with (at_builtin; refine wpList_append_own _ rfl _ _ 86 rfl w.heap.size 3 i0 (.int .i64 0) 1 8 Tryz.underlying86 hi0 hz0 hz1 hz2 rfl (by decide) _ _ _ rfl (HOWN.out.alloc _) ⟨wr.heap.size, 0, none⟩ 1 1 [.int .i64 (d : Int)] rfl rfl (cell_one_new _ _ _) (by simp [Value.oneCell']) (by unfold maxLen; omega) (by omega) (by simp; omega) ?_; intro v1 w1 hown1 hgrow1 _; have hB1 := ((HBL.out.alloc hbs _).grown hgrow1 (by simp; omega) (own_base HOWN.out)); have hown2 : w1.ownsRow w.heap.size 3 1 v1 (t + 1) ((digs X (t + 1)).map iv) := (by rw [HDG.out, List.map_append]; exact hown1); have HOWN2 := Lib.hid hown2; have HB1 := Lib.hid hB1; clear hown1 hgrow1 hown2 hB1)
       go_roundw
       case rel => exact ⟨t + 1, (k : Int) - 1, rfl, HI2.out, by omega, HOWN2.out, HB1.out⟩
       case measure => simp [intOf] <;> omega
     · obtain rfl : t = n := by omega
       obtain rfl : i = -1 := by have := HI.out; omega
       obtain ⟨A, c, rfl, hD⟩ := Dm.own hown
       have HD := Lib.hid hD; have HBL := Lib.hid hbl
       clear hown hD hbl
       go_wp2_with fail
       go_ret2
       exact ⟨A, c, rfl, HD.out, HBL.out⟩
 · have h3 : ((s[0].toNat : Int) == 45) = false := by
     rw [beq_eq_false_iff_ne]; intro h; exact hc (UInt8.toNat_inj.1 (show s[0].toNat = (45 : UInt8).toNat from Int.ofNat.inj h))
   have hcb : cutB s.data.toList = false := by
     rw [hL]; unfold cutB; split
     · rename_i h; injection h with h _; exact absurd h hc
     · rfl
   have hcr : cutR s.data.toList = s.data.toList := by
     rw [hL]; unfold cutR; split
     · rename_i h; injection h with h _; exact absurd h hc
     · rfl
   rw [hcb] at g3
   rw [<- g3]
   rw [hcr] at hcut
   by_cases hz00 : z = 0
   · rw [if_pos hz00] at hcut
     obtain rfl : X = 0 := by omega
     obtain rfl : n = 0 := by rw [hn, dl_zero]
     have ht : (s.toList == [48]) = true := is48 _ _ (by rw [hcut]; rfl)
     have hsz : (s.size : Int) = 1 := by rw [size_eq, hcut]; rfl
     clear hcr hcb hL hc hcut g1 g2 g3 g4 g5 g6 g7 hz hX hn hz00
     go_enter Tryz.func80, Tryz.ntmps80
     go_wp2_with fail
     go_loopw [5, 6] (fun vv ii wr => vv = .slice none 0 0 /\ ii = .int .i64 0 /\ wr = w) (fun _ _ _ => 0)
     case atStart => exact ⟨rfl, rfl, rfl⟩
     case round =>
       obtain ⟨rfl, rfl, rfl⟩ := hrel
       go_wp2_with fail
       go_ret2
       exact ⟨none, 0, rfl, Dm.zero, Below.refl _ _⟩
   · rw [if_neg hz00] at hcut
     have hX0 : 0 < X := by omega
     have ht : (s.toList == [48]) = false := is48 _ _ (by symm; rw [decide_eq_false_iff_not, hcut]; exact dec_not0 hX0)
     have hsz : s.size = n := by rw [size_eq, hcut, dec10_length, hn]
     have hn0 : 0 < n := by rw [hn]; exact dl_pos hX0
     have HR := Lib.hid hcut; have HN := Lib.hid hn; have HSZ := Lib.hid hsz
     clear hcr hcb hL hc g1 g2 g3 g4 g5 g6 g7 hz hX hn hz00 hX0 hcut
     go_enter Tryz.func80, Tryz.ntmps80
     go_wp2_with fail
     clear h1 h2 h3 hp
     go_loopw [5, 6] (fun vv ii wr => ∃ (t : Nat) (i : Int), ii = .int .i64 i /\ Hid (i = (n : Int) - 1 - (t : Int)) /\ t <= n /\ wr.ownsRow w.heap.size 3 1 vv t ((digs X t).map iv) /\ Below w.heap.size w wr)
       (fun _ ii _ => (intOf ii + 1).toNat)
     case atStart => exact ⟨0, _, rfl, (by show _ = _; omega), Nat.zero_le _, World.ownsRow_nil _ _ _ _, Below.refl _ _⟩
     case round =>
       obtain ⟨t, i, rfl, HI, htn, hown, hbl⟩ := hrel
       have hbs := hbl.size
       by_cases hlt : t < n
       · obtain ⟨k, hk⟩ : ∃ k : Nat, i = (k : Int) := ⟨i.toNat, by have := HI.out; omega⟩
         subst hk
         have hkt : k + t + 1 = n := by have := HI.out; omega
         have hkr : k < s.size := by omega
         have hby := byte_of HR.out (by rw [<- HN.out]; exact hkt) hkr
         have hdl := d10_lt X t
         have HDG := Lib.hid (digs_succ X t)
         obtain ⟨d, hd⟩ : ∃ d, d = d10 X t := ⟨_, rfl⟩
         rw [<- hd] at hby hdl HDG
         have e1 : (s[k].toNat : Int) - 48 = (d : Int) := by omega
         have q1 : (0 : Int) <= (k : Int) := by omega
         have q2 : (k : Int) < (s.size : Int) := by omega
         have q3 : (48 : Int) <= (s[k].toNat : Int) := by omega
         have q4 : (s[k].toNat : Int) <= 57 := by omega
         have HI2 : Hid ((k : Int) - 1 = (n : Int) - 1 - ((t + 1 : Nat) : Int)) := by show _ = _; omega
         have HOWN := Lib.hid hown; have HBL := Lib.hid hbl
         clear hown hbl hd hby HI hkt
         go_wp2_with (at_builtin; refine wpList_append_own _ rfl _ _ 86 rfl w.heap.size 3 i0 (.int .i64 0) 1 8 Tryz.underlying86 hi0 hz0 hz1 hz2 rfl (by decide) _ _ _ rfl (HOWN.out.alloc _) ⟨wr.heap.size, 0, none⟩ 1 1 [.int .i64 (d : Int)] rfl rfl (cell_one_new _ _ _) (by simp [Value.oneCell']) (by unfold maxLen; omega) (by omega) (by simp; omega) ?_; intro v1 w1 hown1 hgrow1 _; have hB1 := ((HBL.out.alloc hbs _).grown hgrow1 (by simp; omega) (own_base HOWN.out)); have hown2 : w1.ownsRow w.heap.size 3 1 v1 (t + 1) ((digs X (t + 1)).map iv) := (by rw [HDG.out, List.map_append]; exact hown1); have HOWN2 := Lib.hid hown2; have HB1 := Lib.hid hB1; clear hown1 hgrow1 hown2 hB1)
         go_roundw
         case rel => exact ⟨t + 1, (k : Int) - 1, rfl, HI2.out, by omega, HOWN2.out, HB1.out⟩
         case measure => simp [intOf] <;> omega
       · obtain rfl : t = n := by omega
         obtain rfl : i = -1 := by have := HI.out; omega
         obtain ⟨A, c, rfl, hD⟩ := Dm.own hown
         have HD := Lib.hid hD; have HBL := Lib.hid hbl
         clear hown hD hbl
         go_wp2_with fail
         go_ret2
         exact ⟨A, c, rfl, HD.out, HBL.out⟩
theorem valid_no {L : List UInt8} (h : rd L = none) : validB L = false := by
 unfold rd at h
 by_cases hv : validB L = true
 · rw [if_pos hv] at h; cases h
 · simpa using hv
theorem valid_yes {L : List UInt8} {z : Int} (h : rd L = some z) : validB L = true := (rd_some h).2.2.2.2.2.2.2
theorem ord_same {x y : Int} (h : decide (x < 0) = decide (y < 0)) : ordI x y = if x < 0 then ordI (y.natAbs : Nat) (x.natAbs : Nat) else ordI (x.natAbs : Nat) (y.natAbs : Nat) := by
 rw [decide_eq_decide] at h
 unfold ordI
 by_cases hx : x < 0
 · rw [if_pos hx]
   have hy := h.1 hx
   split
   · rw [if_pos (by omega)]
   · split
     · rw [if_neg (by omega), if_pos (by omega)]
     · rw [if_neg (by omega), if_neg (by omega)]
 · rw [if_neg hx]
   have hy : ¬ y < 0 := fun hy => hx (h.2 hy)
   split
   · rw [if_pos (by omega)]
   · split
     · rw [if_neg (by omega), if_pos (by omega)]
     · rw [if_neg (by omega), if_neg (by omega)]
def OutD2 (b : Bool) (X : Nat) (w : World) (e : Ending) (w' : World) : Prop := ∃ A c, e = .returned (.tuple #[.bool b, .slice A (dl X) c]) /\ Dm w' A (dl X) c X /\ Below w.heap.size w w'
theorem qdig2 {s : ByteArray} {z : Int} (hs : s.size <= 9000000000000000000) (hz : rd s.data.toList = some z) : ∃ b X, sg b X = z /\ (b = decide (z < 0)) /\ X = z.natAbs /\ X < 10 ^ 200 /\ (b = true -> 0 < X) /\ ∀ w, Calls Tryz.prog 80 #[.string s] w (OutD2 b X w) := by
 have h1 := (rd_some hz).2.1
 refine ⟨decide (z < 0), z.natAbs, ?_, rfl, rfl, h1, ?_, fun w => qdigits_any s z w hs hz⟩
 · unfold sg
   by_cases h : z < 0
   · simp [h]; omega
   · simp [h]; omega
 · intro h; rw [decide_eq_true_eq] at h; omega
set_option maxRecDepth 100000 in
set_option maxHeartbeats 1000000 in
theorem qcompare_any (a b : ByteArray) (w : World) (ha : a.size <= 9000000000000000000) (hb : b.size <= 9000000000000000000) :
   Calls Tryz.prog 66 #[.string a, .string b] w fun e w' => e = .returned (.int .i64 (cmpR a.data.toList b.data.toList)) /\ Below w.heap.size w w' := by
 have hva := fun w => qvalid_any a w ha
 have hvb := fun w => qvalid_any b w hb
 cases hx : rd a.data.toList with
 | none =>
   rw [cmpR_no1 hx]
   rw [valid_no hx] at hva
   have HVA := Lib.hid hva
   clear hx hva hvb
   go_enter Tryz.func66, Tryz.ntmps66
   go_wp2_with fail
   refine (HVA.out _).mono ?_
   rintro e w1 ⟨rfl, k1, rfl⟩
   go_wp2_with fail
   go_ret
   exact ⟨rfl, below_drewN (Below.refl _ _) _⟩
 | some x =>
   rw [valid_yes hx] at hva
   have HVA := Lib.hid hva
   cases hy : rd b.data.toList with
   | none =>
     rw [cmpR_no2 hy]
     rw [valid_no hy] at hvb
     have HVB := Lib.hid hvb
     clear hx hy hva hvb
     go_enter Tryz.func66, Tryz.ntmps66
     go_wp2_with fail
     refine (HVA.out _).mono ?_
     rintro e w1 ⟨rfl, k1, rfl⟩
     go_wp2_with fail
     refine (HVB.out _).mono ?_
     rintro e w1 ⟨rfl, k2, rfl⟩
     go_wp2_with fail
     go_ret
     exact ⟨rfl, below_drewN (Below.refl _ _) _⟩
   | some y =>
     rw [valid_yes hy] at hvb
     rw [cmpR_yes hx hy]
     have HVB := Lib.hid hvb
     obtain ⟨sx, X, -, hsx, hX, hX2, -, hda⟩ := qdig2 ha hx
     obtain ⟨sy, Y, -, hsy, hY, hY2, -, hdb⟩ := qdig2 hb hy
     have HDA := Lib.hid hda; have HDB := Lib.hid hdb
     have hYl := dl_le.2 hY2
     have hXl := dl_le.2 hX2
     have hsame := fun h => @ord_same x y h
     rw [<- hsx, <- hsy, <- hX, <- hY] at hsame
     obtain ⟨r, hr⟩ : ∃ r, r = ordI x y := ⟨_, rfl⟩
     rw [<- hr] at hsame ⊢
     have hcase : (sx = true /\ sy = true /\ r = ordI (Y : Nat) (X : Nat)) ∨ (sx = false /\ sy = false /\ r = ordI (X : Nat) (Y : Nat)) ∨ (sx = true /\ sy = false /\ r = -1) ∨ (sx = false /\ sy = true /\ r = 1) := by
       cases sx <;> cases sy
       · refine .inr (.inl ⟨rfl, rfl, ?_⟩)
         rw [hsame rfl, if_neg (by simpa using hsx.symm)]
       · refine .inr (.inr (.inr ⟨rfl, rfl, ?_⟩))
         have h1 : ¬ x < 0 := by simpa using hsx.symm
         have h2 : y < 0 := by simpa using hsy.symm
         rw [hr, ordI_gt (by omega)]
       · refine .inr (.inr (.inl ⟨rfl, rfl, ?_⟩))
         have h1 : x < 0 := by simpa using hsx.symm
         have h2 : ¬ y < 0 := by simpa using hsy.symm
         rw [hr, ordI_lt (by omega)]
       · refine .inl ⟨rfl, rfl, ?_⟩
         rw [hsame rfl, if_pos (by simpa using hsx.symm)]
     clear hx hy hva hvb hda hdb hsx hsy hX hY hsame hr hX2 hY2
     rcases hcase with ⟨rfl, rfl, hr⟩ | ⟨rfl, rfl, hr⟩ | ⟨rfl, rfl, rfl⟩ | ⟨rfl, rfl, rfl⟩
     · have HR := Lib.hid hr
       clear hr
       go_enter Tryz.func66, Tryz.ntmps66
       go_wp2_with fail
       refine (HVA.out _).mono ?_
       rintro e w1 ⟨rfl, k1, rfl⟩
       go_wp2_with fail
       refine (HVB.out _).mono ?_
       rintro e w1 ⟨rfl, k2, rfl⟩
       go_wp2_with fail
       refine (HDA.out _).mono ?_
       rintro e w3 ⟨A, c, rfl, hA, hb3⟩
       have hb3 := Lib.hid ((below_drewN (Below.refl w.heap.size w) (k1 + k2)).trans hb3)
       have hA := Lib.hid hA
       go_wp2_with fail
       refine (HDB.out _).mono ?_
       rintro e w4 ⟨A', c', rfl, hB, hb4⟩
       have hA2 := Lib.hid (hA.out.below hb4)
       have hb5 := Lib.hid (hb3.out.trans (hb4.mono hb3.out.size))
       have hB := Lib.hid hB
       clear hb4
       go_wp2_with fail
       refine (qorder_any A' A c' c Y X w4 hB.out hA2.out (by omega)).mono ?_
       rintro e w5 ⟨rfl, k5, rfl⟩
       go_wp2_with fail
       go_ret
       exact ⟨by rw [HR.out]; rfl, below_drewN hb5.out _⟩
     · have HR := Lib.hid hr
       clear hr
       go_enter Tryz.func66, Tryz.ntmps66
       go_wp2_with fail
       refine (HVA.out _).mono ?_
       rintro e w1 ⟨rfl, k1, rfl⟩
       go_wp2_with fail
       refine (HVB.out _).mono ?_
       rintro e w1 ⟨rfl, k2, rfl⟩
       go_wp2_with fail
       refine (HDA.out _).mono ?_
       rintro e w3 ⟨A, c, rfl, hA, hb3⟩
       have hb3 := Lib.hid ((below_drewN (Below.refl w.heap.size w) (k1 + k2)).trans hb3)
       have hA := Lib.hid hA
       go_wp2_with fail
       refine (HDB.out _).mono ?_
       rintro e w4 ⟨A', c', rfl, hB, hb4⟩
       have hA2 := Lib.hid (hA.out.below hb4)
       have hb5 := Lib.hid (hb3.out.trans (hb4.mono hb3.out.size))
       have hB := Lib.hid hB
       clear hb4
       go_wp2_with fail
       refine (qorder_any A A' c c' X Y w4 hA2.out hB.out (by omega)).mono ?_
       rintro e w5 ⟨rfl, k5, rfl⟩
       go_wp2_with fail
       go_ret
       exact ⟨by rw [HR.out]; rfl, below_drewN hb5.out _⟩
     · go_enter Tryz.func66, Tryz.ntmps66
       go_wp2_with fail
       refine (HVA.out _).mono ?_
       rintro e w1 ⟨rfl, k1, rfl⟩
       go_wp2_with fail
       refine (HVB.out _).mono ?_
       rintro e w1 ⟨rfl, k2, rfl⟩
       go_wp2_with fail
       refine (HDA.out _).mono ?_
       rintro e w3 ⟨A, c, rfl, hA, hb3⟩
       have hb3 := Lib.hid ((below_drewN (Below.refl w.heap.size w) (k1 + k2)).trans hb3)
       have hA := Lib.hid hA
       go_wp2_with fail
       refine (HDB.out _).mono ?_
       rintro e w4 ⟨A', c', rfl, hB, hb4⟩
       have hA2 := Lib.hid (hA.out.below hb4)
       have hb5 := Lib.hid (hb3.out.trans (hb4.mono hb3.out.size))
       have hB := Lib.hid hB
       clear hb4
       go_wp2_with fail
       go_ret
       exact ⟨rfl, hb5.out⟩
     · go_enter Tryz.func66, Tryz.ntmps66
       go_wp2_with fail
       refine (HVA.out _).mono ?_
       rintro e w1 ⟨rfl, k1, rfl⟩
       go_wp2_with fail
       refine (HVB.out _).mono ?_
       rintro e w1 ⟨rfl, k2, rfl⟩
       go_wp2_with fail
       refine (HDA.out _).mono ?_
       rintro e w3 ⟨A, c, rfl, hA, hb3⟩
       have hb3 := Lib.hid ((below_drewN (Below.refl w.heap.size w) (k1 + k2)).trans hb3)
       have hA := Lib.hid hA
       go_wp2_with fail
       refine (HDB.out _).mono ?_
       rintro e w4 ⟨A', c', rfl, hB, hb4⟩
       have hA2 := Lib.hid (hA.out.below hb4)
       have hb5 := Lib.hid (hb3.out.trans (hb4.mono hb3.out.size))
       have hB := Lib.hid hB
       clear hb4
       go_wp2_with fail
       go_ret
       exact ⟨rfl, hb5.out⟩
theorem lim_sg (s : Bool) (X : Nat) : lim (sg s X) = if dl X <= 200 then some (sg s X) else none := by
 unfold lim
 rw [sg_abs]
 by_cases h : dl X <= 200
 · rw [if_pos h, if_pos (dl_le.1 h)]
 · rw [if_neg h, if_neg (fun h2 => h (dl_le.2 h2))]
set_option maxRecDepth 100000 in
theorem qchecked_any (s : Bool) (A : Option Addr) (c X : Nat) (w : World) (hA : Dm w A (dl X) c X) (hX : dl X <= 10000) :
   Calls Tryz.prog 84 #[.bool s, .slice A (dl X) c] w (OutO (lim (sg s X)) w) := by
 have htx := reftext_any s A c X w hA hX
 unfold OutTx at htx
 rw [lim_sg]
 by_cases h : dl X <= 200
 · rw [if_pos h]
   have hd : decide (dl X <= 200) = true := by simp [h]
   rw [hd] at htx
   have HTX := Lib.hid htx
   clear htx hd h hA
   go_enter Tryz.func84, Tryz.ntmps84
   go_wp2_with fail
   refine HTX.out.mono ?_
   rintro e w1 ⟨rfl, hb⟩
   go_wp2_with fail
   go_ret2
   exact ⟨rfl, hb⟩
 · rw [if_neg h]
   have hd : decide (dl X <= 200) = false := by simp [h]
   rw [hd] at htx
   have HTX := Lib.hid htx
   clear htx hd h hA
   go_enter Tryz.func84, Tryz.ntmps84
   go_wp2_with fail
   refine HTX.out.mono ?_
   rintro e w1 ⟨rfl, hb⟩
   go_wp2_with fail
   go_ret2
   exact ⟨rfl, hb⟩
theorem dl_sum {X Y : Nat} (hX : dl X <= 1000) (hY : dl Y <= 1000) : dl (X + Y) <= 1001 := by
 obtain ⟨z, hz⟩ : ∃ z, z = 1000 := ⟨_, rfl⟩
 have h1 := dl_le.1 (show dl X <= z by omega)
 have h2 := dl_le.1 (show dl Y <= z by omega)
 have h3 : X + Y < 10 ^ (z + 1) := by rw [Nat.pow_succ]; omega
 have := dl_le.2 h3
 omega
set_option maxRecDepth 100000 in
set_option maxHeartbeats 1000000 in
theorem qsum_any (s t : Bool) (A A' : Option Addr) (c c' X Y : Nat) (w : World) (hA : Dm w A (dl X) c X) (hB : Dm w A' (dl Y) c' Y) (hX : dl X <= 1000) (hY : dl Y <= 1000) :
   Calls Tryz.prog 82 #[.bool s, .slice A (dl X) c, .bool t, .slice A' (dl Y) c'] w (OutO (lim (sg s X + sg t Y)) w) := by
 have hs := dl_sum hX hY
 have hpl := fun w1 h1 h2 => qplus_any A A' c c' X Y w1 h1 h2 (by omega)
 have HPL := Lib.hid hpl; have HA := Lib.hid hA; have HB := Lib.hid hB; have HS := Lib.hid hs
 by_cases hst : s = t
 · subst hst
   have he : sg s X + sg s Y = sg s (X + Y) := by cases s <;> simp [sg] <;> omega
   rw [he]
   clear he hA hB hs hpl
   cases s
   all_goals
     go_enter Tryz.func82, Tryz.ntmps82
     go_wp2_with fail
     refine (HPL.out _ HA.out HB.out).mono ?_
     rintro e w1 ⟨A1, c1, rfl, hD, -, hb⟩
     have HCK := Lib.hid (show ∀ s, Calls Tryz.prog 84 #[.bool s, .slice A1 (dl _) c1] w1 (OutO (lim (sg s _)) w1) from fun s => qchecked_any s A1 c1 (X + Y) w1 hD (by have := HS.out; omega))
     have HB1 := Lib.hid hb
     clear hD hb
     go_wp2_with fail
     refine (HCK.out _).mono ?_
     rintro e w2 ⟨rfl, hb2⟩
     go_wp2_with fail
     go_ret2
     exact ⟨rfl, HB1.out.trans (hb2.mono HB1.out.size)⟩
 · have hord := qorder_any A A' c c' X Y w hA hB (by omega)
   obtain ⟨v, hv⟩ : ∃ v, v = ordI (X : Nat) (Y : Nat) := ⟨_, rfl⟩
   rw [<- hv] at hord
   have HORD := Lib.hid hord
   by_cases hge : Y <= X
   · have hv0 : 0 <= v := by rw [hv]; unfold ordI; split <;> (try split) <;> omega
     have he : sg s X + sg t Y = sg s (X - Y) := by
       have : t = !s := by cases s <;> cases t <;> simp_all
       subst this
       cases s <;> simp [sg] <;> omega
     rw [he]
     have hmn := fun q => qminus_any A A' c c' X Y (w.drewN q) (hA.drewN q) (hB.drewN q) (by omega) hge
     have HMN := Lib.hid hmn
     clear he hA hB hs hpl hord hv hmn
     cases s <;> cases t
     all_goals first | exact absurd rfl hst | skip
     all_goals
       clear hst
       go_enter Tryz.func82, Tryz.ntmps82
       go_wp2_with fail
       refine HORD.out.mono ?_
       rintro e w1 ⟨rfl, q, rfl⟩
       go_wp2_with fail
       refine (HMN.out q).mono ?_
       rintro e w1 ⟨A1, c1, rfl, hD, -, hb⟩
       have HCK := Lib.hid (show ∀ s, Calls Tryz.prog 84 #[.bool s, .slice A1 (dl _) c1] w1 (OutO (lim (sg s _)) w1) from fun s => qchecked_any s A1 c1 (X - Y) w1 hD (by have := dl_mono (Nat.sub_le X Y); omega))
       have HB1 := Lib.hid ((below_drewN (Below.refl w.heap.size w) q).trans hb)
       clear hD hb
       go_wp2_with fail
       refine (HCK.out _).mono ?_
       rintro e w2 ⟨rfl, hb2⟩
       go_wp2_with fail
       go_ret2
       exact ⟨rfl, HB1.out.trans (hb2.mono HB1.out.size)⟩
   · have hv0 : v < 0 := by rw [hv, ordI_lt (by omega)]; omega
     have he : sg s X + sg t Y = sg t (Y - X) := by
       have : t = !s := by cases s <;> cases t <;> simp_all
       subst this
       cases s <;> simp [sg] <;> omega
     rw [he]
     have hmn := fun q => qminus_any A' A c' c Y X (w.drewN q) (hB.drewN q) (hA.drewN q) (by omega) (by omega)
     have HMN := Lib.hid hmn
     clear he hA hB hs hpl hord hv hmn
     cases s <;> cases t
     all_goals first | exact absurd rfl hst | skip
     all_goals
       clear hst
       go_enter Tryz.func82, Tryz.ntmps82
       go_wp2_with fail
       refine HORD.out.mono ?_
       rintro e w1 ⟨rfl, q, rfl⟩
       go_wp2_with fail
       refine (HMN.out q).mono ?_
       rintro e w1 ⟨A1, c1, rfl, hD, -, hb⟩
       have HCK := Lib.hid (show ∀ s, Calls Tryz.prog 84 #[.bool s, .slice A1 (dl _) c1] w1 (OutO (lim (sg s _)) w1) from fun s => qchecked_any s A1 c1 (Y - X) w1 hD (by have := dl_mono (Nat.sub_le Y X); omega))
       have HB1 := Lib.hid ((below_drewN (Below.refl w.heap.size w) q).trans hb)
       clear hD hb
       go_wp2_with fail
       refine (HCK.out _).mono ?_
       rintro e w2 ⟨rfl, hb2⟩
       go_wp2_with fail
       go_ret2
       exact ⟨rfl, HB1.out.trans (hb2.mono HB1.out.size)⟩
set_option maxRecDepth 100000 in
set_option maxHeartbeats 1000000 in
theorem qsub_any (a b : ByteArray) (w : World) (ha : a.size <= 9000000000000000000) (hb : b.size <= 9000000000000000000) :
   Calls Tryz.prog 67 #[.string a, .string b] w (OutO (opR (· - ·) a.data.toList b.data.toList) w) := by
 have hva := fun w => qvalid_any a w ha
 have hvb := fun w => qvalid_any b w hb
 cases hx : rd a.data.toList with
 | none =>
   rw [opR_no1 hx]
   rw [valid_no hx] at hva
   have HVA := Lib.hid hva
   clear hx hva hvb
   go_enter Tryz.func67, Tryz.ntmps67
   go_wp2_with fail
   refine (HVA.out _).mono ?_
   rintro e w1 ⟨rfl, k1, rfl⟩
   go_wp2_with fail
   go_ret2
   exact ⟨rfl, below_drewN (Below.refl _ _) _⟩
 | some x =>
   rw [valid_yes hx] at hva
   have HVA := Lib.hid hva
   cases hy : rd b.data.toList with
   | none =>
     rw [opR_no2 hx hy]
     rw [valid_no hy] at hvb
     have HVB := Lib.hid hvb
     clear hx hy hva hvb
     go_enter Tryz.func67, Tryz.ntmps67
     go_wp2_with fail
     refine (HVA.out _).mono ?_
     rintro e w1 ⟨rfl, k1, rfl⟩
     go_wp2_with fail
     refine (HVB.out _).mono ?_
     rintro e w1 ⟨rfl, k2, rfl⟩
     go_wp2_with fail
     go_ret2
     exact ⟨rfl, below_drewN (Below.refl _ _) _⟩
   | some y =>
     rw [valid_yes hy] at hvb
     rw [opR_yes hx hy]
     have HVB := Lib.hid hvb
     obtain ⟨sx, X, ex, -, -, hX2, -, hda⟩ := qdig2 ha hx
     obtain ⟨sy, Y, ey, -, -, hY2, -, hdb⟩ := qdig2 hb hy
     have HDA := Lib.hid hda; have HDB := Lib.hid hdb
     have hYl := dl_le.2 hY2
     have hXl := dl_le.2 hX2
     subst ex
     subst ey
     clear hx hy hva hvb hda hdb hX2 hY2
     cases sy
     all_goals
       go_enter Tryz.func67, Tryz.ntmps67
       go_wp2_with fail
       refine (HVA.out _).mono ?_
       rintro e w1 ⟨rfl, k1, rfl⟩
       go_wp2_with fail
       refine (HVB.out _).mono ?_
       rintro e w1 ⟨rfl, k2, rfl⟩
       go_wp2_with fail
       refine (HDA.out _).mono ?_
       rintro e w3 ⟨A, c, rfl, hA, hb3⟩
       have hb3 := Lib.hid ((below_drewN (Below.refl w.heap.size w) (k1 + k2)).trans hb3)
       have hA := Lib.hid hA
       go_wp2_with fail
       refine (HDB.out _).mono ?_
       rintro e w4 ⟨A', c', rfl, hB, hb4⟩
       have hA2 := Lib.hid (hA.out.below hb4)
       have hb5 := Lib.hid (hb3.out.trans (hb4.mono hb3.out.size))
       have hB := Lib.hid hB
       clear hb4
       go_wp2_with fail
       refine (qsum_any sx _ A A' c c' X Y w4 hA2.out hB.out (by omega) (by omega)).mono ?_
       rintro e w5 ⟨rfl, hb6⟩
       go_wp2_with fail
       go_ret2
       exact ⟨by simp [sg, Int.sub_eq_add_neg], hb5.out.trans (hb6.mono hb5.out.size)⟩
def qd (Q f t : Nat) : List Int := (List.range f).map fun j => if j < t then 0 else (d10 Q j : Int)
theorem qd_length (Q f t : Nat) : (qd Q f t).length = f := by simp [qd]
theorem qd_new (Q f : Nat) : (qd Q f f) = List.replicate f 0 := by
 apply List.ext_getElem
 · simp [qd]
 · intro i h1 h2
   have : i < f := by simpa [qd] using h1
   simp [qd, this]
theorem qd_all (Q f : Nat) : qd Q f 0 = digs Q f := by simp [qd, digs]
theorem qd_set (Q f k : Nat) : (qd Q f (k + 1)).set k (d10 Q k : Int) = qd Q f k := by
 apply List.ext_getElem
 · simp [qd]
 · intro i h1 h2
   rw [List.getElem_set]
   have : i < f := by simpa [qd] using h2
   simp only [qd, List.getElem_map, List.getElem_range]
   by_cases h : k = i
   · subst h; simp
   · simp only [if_neg h]
     by_cases h3 : i < k + 1
     · rw [if_pos h3, if_pos (by omega)]
     · rw [if_neg h3, if_neg (by omega)]
theorem qd_get (Q f k : Nat) (h : k < (qd Q f (k + 1)).length) : (qd Q f (k + 1))[k] = 0 := by simp [qd]
theorem qd_zero (Q f k : Nat) : (qd Q f (k + 1)).set k ((0 : Nat) : Int) = qd Q f (k + 1) := by
 rcases Nat.lt_or_ge k (qd Q f (k + 1)).length with h | h
 · have h2 := qd_get Q f k h
   apply List.ext_getElem
   · simp
   · intro i h3 h4
     rw [List.getElem_set]
     split
     · rename_i h5; subst h5; rw [h2]; rfl
     · rfl
 · rw [List.set_eq_of_length_le h]
theorem ddiv_step {X T k : Nat} (hT : 0 < T) : d10 (X / T) k = (10 * (X / 10 ^ (k + 1) % T) + d10 X k) / T /\ X / 10 ^ k % T = (10 * (X / 10 ^ (k + 1) % T) + d10 X k) % T /\ 10 * (X / 10 ^ (k + 1) % T) + d10 X k < T * 10 := by
 have h1 := ddiv_pred X k
 have hd := d10_lt X k
 obtain ⟨U, hU⟩ : ∃ U, U = X / 10 ^ (k + 1) := ⟨_, rfl⟩
 obtain ⟨d, hd2⟩ : ∃ d, d = d10 X k := ⟨_, rfl⟩
 rw [<- hU, <- hd2] at h1 ⊢
 rw [<- hd2] at hd
 have hm := Nat.mod_lt U hT
 have hlt : 10 * (U % T) + d < T * 10 := by omega
 have hE : 10 * U + d = (10 * (U % T) + d) + T * (10 * (U / T)) := by
   have := Nat.div_add_mod U T
   have h2 : T * (10 * (U / T)) = 10 * (T * (U / T)) := by grind
   rw [h2]; omega
 refine ⟨?_, ?_, hlt⟩
 · unfold d10
   rw [Nat.div_div_eq_div_mul, Nat.mul_comm T, <- Nat.div_div_eq_div_mul, h1, hE, Nat.add_mul_div_left _ _ hT, Nat.add_mul_mod_self_left]
   exact Nat.mod_eq_of_lt (by rw [Nat.div_lt_iff_lt_mul hT]; omega)
 · rw [h1, hE, Nat.add_mul_mod_self_left]
set_option maxRecDepth 100000 in
theorem wpList_append_dm {w : World} {ops : Array Oper} {rest : List Oper} {o : Oper} {a : Act} {Q : Exit -> Act -> World -> Prop} (hgd : o.guard = none) (s x : Operand) (t : TypeId)
   (ho : o.op = .call { callee := .builtin .append, args := #[s, x], argTypes := #[t, t] }) (ht : Tryz.prog.underlying t = some (.slice 3)) (A : Option Addr) (n c X d g : Nat)
   (hs : a.eval s = .slice (some ⟨g, 0, none⟩) 1 1) (hx : a.eval x = .slice A n c) (hd : d < 10) (hg : Blk w g 3 #[.int .i64 (d : Nat)]) (hA : Dm w A n c X) (hn : n <= 10000)
   (h : ∀ A2 c2 w2, Dm w2 A2 (n + 1) c2 (10 * X + d) -> Fr g A2 -> w.grownBy w2 (some g) -> wpList Tryz.prog ops Q rest (a.put o.dst (.slice A2 (n + 1) c2)) w2) : wpList Tryz.prog ops Q (o :: rest) a w := by
 obtain ⟨i, hi, hz, hsz, hb⟩ := info_of info_i64
 have hdc : digs (10 * X + d) (n + 1) = (d : Int) :: digs X n := by
   rw [digs_cons]; congr 1
   · omega
   · congr 1; omega
 have hown : w.ownsRow g 3 1 (.slice (some ⟨g, 0, none⟩) 1 1) 1 [.int .i64 (d : Nat)] :=
   ⟨rfl, .inr ⟨g, 1, _, rfl, Nat.le_refl _, hg, Nat.le_refl _, by unfold maxLen; omega, rfl, rfl⟩⟩
 refine wpList_plain hgd fun K hK => ?_
 by_cases h0 : 0 < n
 · obtain ⟨b, off, rfl, hbl, hc⟩ := hA.2 h0
   obtain ⟨v', w', hr, h2, h3, h4⟩ := run_append_own (P := Tryz.prog) w g t o.type 3 i (.int .i64 0) 1 8 ht hi hz hsz hb rfl (by decide) _ 1 _ hown ⟨b, off, none⟩ n c ((digs X n).map iv) (by rw [List.length_map, digs_length, Nat.mul_one]) (by
       intro j v hj
       have hj2 : j < n := by
         have := (List.getElem?_eq_some_iff.1 hj).1
         rwa [List.length_map, digs_length] at this
       have e : (⟨b, off, none⟩ : Addr).add j = ⟨b, off + j, none⟩ := by unfold Addr.add; split <;> simp_all
       rw [e, hc j hj2]
       rw [List.getElem?_map, List.getElem?_eq_getElem (by rw [digs_length]; exact hj2)] at hj
       rw [Option.map_some, digs_at] at hj
       exact hj) (by
       intro v hv
       obtain ⟨x, _, rfl⟩ := List.mem_map.1 hv
       rfl) (by unfold maxLen; omega) (by omega) (Nat.le_of_lt (Blk.lt hg))
   have h5 : w'.ownsRow g 3 1 v' (n + 1) ((digs (10 * X + d) (n + 1)).map iv) := by rw [hdc, Nat.add_comm n 1]; exact h2
   obtain ⟨A2, c2, rfl, hD, hF⟩ := Dm.ownF h5
   unfold Oper.wp execOp
   simp only [ho, resolve, invoke, builtin, Sem.run_bind, Sem.run_pure, Result.andThen_ok, List.map_toArray, List.map_cons, List.map_nil, hs, hx, hr]
   exact hK _ _ (h _ _ _ hD hF h3)
 · obtain rfl : n = 0 := by omega
   have h5 : w.ownsRow g 3 1 (.slice (some ⟨g, 0, none⟩) 1 1) 1 ((digs (10 * X + d) (0 + 1)).map iv) := by rw [hdc]; exact hown
   obtain ⟨A2, c2, he, hD, hF⟩ := Dm.ownF h5
   cases he
   have hr : (Builtin.append_ #[t, t] o.type #[.slice (some ⟨g, 0, none⟩) 1 1, .slice A 0 c]).run Tryz.prog w = .ok (.slice (some ⟨g, 0, none⟩) 1 1) w := by
     cases A with
     | none => simp [Builtin.append_, run_underlying ht, Builtin.lenOf, Builtin.firstCells, sizeOf, typeInfo, hi, storeCells, loadCells]
     | some a => simp [Builtin.append_, run_underlying ht, Builtin.lenOf, Builtin.firstCells, sizeOf, typeInfo, hi, storeCells, loadCells, loadCellsFrom]
   unfold Oper.wp execOp
   simp only [ho, resolve, invoke, builtin, Sem.run_bind, Sem.run_pure, Result.andThen_ok, List.map_toArray, List.map_cons, List.map_nil, hs, hx, hr]
   exact hK _ _ (h _ _ _ hD hF ⟨rfl, rfl, rfl, Nat.le_refl _, fun _ _ _ => rfl⟩)
def num10 (w : World) (a : Addr) : Nat -> Nat
 | 0 => 0
 | n + 1 => num10 w a n + 10 ^ n * (intOf ((w.cell? (a.add n)).getD (.int .i64 0))).toNat
def dmVal (w : World) : Value -> Nat
 | .slice (some a) n _ => num10 w a n
 | _ => 0
theorem dmVal_of {w : World} {A : Option Addr} {c X : Nat} (h : Dm w A (dl X) c X) : dmVal w (.slice A (dl X) c) = X := by
 obtain ⟨n, hn⟩ : ∃ n, n = dl X := ⟨_, rfl⟩
 have hX := lt_dl X
 rw [<- hn] at h hX ⊢
 by_cases h0 : 0 < n
 · obtain ⟨b, o, rfl, -, hc⟩ := h.2 h0
   have : ∀ k, k <= n -> num10 w ⟨b, o, none⟩ k = X % 10 ^ k := by
     intro k
     induction k with
     | zero => intro _; simp [num10, Nat.mod_one]
     | succ k ih =>
       intro hk
       have e : (⟨b, o, none⟩ : Addr).add k = ⟨b, o + k, none⟩ := by unfold Addr.add; split <;> simp_all
       rw [num10, ih (by omega), e, hc k (by omega), dmod_succ]
       simp [intOf]
   show num10 w ⟨b, o, none⟩ n = X
   rw [this n (Nat.le_refl _), Nat.mod_eq_of_lt hX]
 · obtain rfl : n = 0 := by omega
   have : X = 0 := by simpa using hX
   subst this
   cases A <;> rfl
def OutQD (X T : Nat) (w : World) (e : Ending) (w' : World) : Prop := ∃ A c A' c', e = .returned (.tuple #[.slice A (dl (X / T)) c, .slice A' (dl (X % T)) c']) /\ Dm w' A (dl (X / T)) c (X / T) /\ Dm w' A' (dl (X % T)) c' (X % T) /\ Below w.heap.size w w'
set_option maxRecDepth 100000 in
set_option maxHeartbeats 2000000 in
theorem qdivd_any (A A' : Option Addr) (c c' X T : Nat) (w : World) (hA : Dm w A (dl X) c X) (hB : Dm w A' (dl T) c' T) (hX : dl X <= 1000) (hT : dl T <= 1000) (hT0 : 0 < T) :
   Calls Tryz.prog 83 #[.slice A (dl X) c, .slice A' (dl T) c'] w (OutQD X T w) := by
 obtain ⟨n, hn⟩ : ∃ n, n = dl X := ⟨_, rfl⟩
 have hXn : X < 10 ^ n := hn ▸ lt_dl X
 have hmk := fun w => run_make_ints 86 Tryz.underlying86 n n (Nat.le_refl _) (by omega) w
 have hb1 : Below w.heap.size w (w.alloc (.cells (zc n) 3)) := (Below.refl _ _).alloc (Nat.le_refl _) _
 have hg1 : Blk (w.alloc (.cells (zc n) 3)) w.heap.size 3 ((qd (X / T) n n).map iv).toArray := by rw [qd_new]; exact Blk.new w 3 (zc n)
 rw [<- hn] at hA hX ⊢
 have hR0 : 0 = X / 10 ^ n % T := by rw [Nat.div_eq_of_lt hXn, Nat.zero_mod]
 have hQn : X / T < 10 ^ n := Nat.lt_of_le_of_lt (Nat.div_le_self _ _) hXn
 have HA := Lib.hid hA; have HB := Lib.hid hB; have HB1 := Lib.hid hb1; have HG1 := Lib.hid hg1; have HXN := Lib.hid hXn; have HT0 := Lib.hid hT0; have HR0 := Lib.hid hR0; have HQN := Lib.hid hQn
 clear hA hB hb1 hg1 hn hXn hR0 hQn
 go_enter Tryz.func83, Tryz.ntmps83
 go_wp2
 clear hmk
 go_loopw [7, 8] (fun r ii wr => ∃ (t : Nat) (i : Int) (Ar : Option Addr) (cr R : Nat), ii = .int .i64 i /\ Hid (i = (t : Int) - 1) /\ t <= n /\ r = .slice Ar (dl R) cr /\ Hid (R = X / 10 ^ t % T) /\ Dm wr Ar (dl R) cr R /\ Blk wr w.heap.size 3 ((qd (X / T) n t).map iv).toArray /\ Below w.heap.size w wr)
   (fun _ ii _ => (intOf ii + 1).toNat)
 case atStart => exact ⟨n, _, none, 0, 0, rfl, rfl, Nat.le_refl _, by rw [dl_zero], HR0.out, (by rw [dl_zero]; exact Dm.zero), HG1.out, HB1.out⟩
 case round =>
   obtain ⟨t, i, Ar, cr, R, rfl, HI, ht, rfl, HR, hAr, hG, hbl⟩ := hrel
   rcases t with _ | k
   · obtain rfl : i = -1 := by have := HI.out; omega
     have hR1 : R = X % T := by rw [HR.out]; simp
     rw [qd_all] at hG
     have hD := Dm.of_blk hG (V := X / T) (by rw [digs_length])
     rw [digs_length] at hD
     have htr := reftrim_any _ n n (X / T) wr hD HQN.out (by omega)
     have HD := Lib.hid (hD.less (dl_le.2 HQN.out)); have HTR := Lib.hid htr; have HAR := Lib.hid hAr; have HR1 := Lib.hid hR1
     clear hD htr hR1 hAr hG HR
     go_wp2_with (go_at_call 100; (with_reducible refine HTR.out.mono ?_); rintro e w2 ⟨rfl, rfl⟩)
     go_ret2
     exact ⟨_, _, _, _, (by rw [<- HR1.out]; rfl), HD.out, (by rw [<- HR1.out]; exact HAR.out), hbl⟩
   · obtain rfl : i = (k : Int) := by have := HI.out; omega
     obtain ⟨s1, s2, s3⟩ := ddiv_step (X := X) (k := k) HT0.out
     rw [<- HR.out] at s1 s2 s3
     have hd := d10_lt X k
     obtain ⟨b, o, rfl, hb, hc⟩ := (HA.out.below hbl).2 (by omega)
     have hcell := hc k (by omega)
     have hRlt : R < T := by rw [HR.out]; exact Nat.mod_lt _ HT0.out
     have hgR : dl R <= 1000 := Nat.le_trans (dl_mono (Nat.le_of_lt hRlt)) hT
     obtain ⟨d, hd2⟩ : ∃ d, d = d10 X k := ⟨_, rfl⟩
     rw [<- hd2] at hcell hd s1 s2 s3
     obtain ⟨R1, hR1⟩ : ∃ R1, R1 = 10 * R + d := ⟨_, rfl⟩
     rw [<- hR1] at s1 s2 s3
     have hR1l : R1 < 10 ^ (dl R + 1) := by
       have := lt_dl R
       rw [Nat.pow_succ]; omega
     have hT9 : R1 < 10 ^ (dl T + 1) := by
       have := lt_dl T
       rw [Nat.pow_succ]; omega
     have hgR1 := dl_le.2 hT9
     have q1 : (0 : Int) <= (k : Int) := by omega
     have q2 : (k : Int) < (n : Int) := by omega
     have HR1 := Lib.hid hR1; have HR1L := Lib.hid hR1l; have HAR := Lib.hid hAr; have HG := Lib.hid hG; have HBL := Lib.hid hbl; have HS1 := Lib.hid s1; have HS2 := Lib.hid s2; have HS3 := Lib.hid s3; have HGR1 := Lib.hid hgR1
     clear hR1 hR1l hT9 hgR1 hAr hG hbl s1 s2 s3 hc hd2 hRlt HR
     go_wp2_with (at_builtin; refine wpList_append_dm rfl _ _ 86 rfl Tryz.underlying86 Ar (dl R) cr R d wr.heap.size rfl rfl hd (Blk.new wr _ _) (HAR.out.below ((Below.refl _ _).alloc (Nat.le_refl _) _)) (by omega) ?_; intro A2 c2 w2 hD2 hF2 hgrow2; rw [<- HR1.out] at hD2; have hb2 := (((Below.refl wr.heap.size wr).alloc (Nat.le_refl _) _).grown hgrow2 (by simp) (fun k hk => by cases hk; exact Nat.le_refl _)); have HD2 := Lib.hid hD2; have HF2 := Lib.hid hF2; have HB2 := Lib.hid hb2; clear hD2 hF2 hgrow2 hb2)
     refine (reftrim_any A2 (dl R + 1) c2 R1 w2 HD2.out HR1L.out (by omega)).mono ?_
     rintro e w3 ⟨rfl, rfl⟩
     have hbl2 := HBL.out.trans (HB2.out.mono HBL.out.size)
     have hG2 := HG.out.below HB2.out HG.out.lt
     have hF3 : Fr (w.heap.size + 1) A2 := HF2.out.mono (Blk.lt HG.out)
     have HBL2 := Lib.hid hbl2; have HG2 := Lib.hid hG2; have HF3 := Lib.hid hF3
     clear hbl2 hG2 hF3
     go_wp2_with fail
     go_loopw [7] (fun r ws => ∃ (g : Nat) (Ar : Option Addr) (cr R2 : Nat), r = .slice Ar (dl R2) cr /\ Hid (R2 + g * T = R1) /\ Dm ws Ar (dl R2) cr R2 /\ Hid (Fr (w.heap.size + 1) Ar) /\ Blk ws w.heap.size 3 (((qd (X / T) n (k + 1)).set k (g : Int)).map iv).toArray /\ Below w.heap.size w ws)
       (fun r ws => dmVal ws r)
     case atStart => exact ⟨0, A2, c2, R1, rfl, by show _ = _; omega, HD2.out.less (dl_le.2 HR1L.out), HF3.out, (by rw [qd_zero]; exact HG2.out), HBL2.out⟩
     case round =>
       clear HD2 HF2 HB2 HBL2 HG2 HF3 HAR HG HBL
       obtain ⟨g, Ar, cr, R2, rfl, HRG, hAr, HF, hG, hbl⟩ := hrel
       have hR2l : R2 <= R1 := by have := HRG.out; omega
       have hd2 := Nat.le_trans (dl_mono hR2l) HGR1.out
       have hBt := HB.out.below hbl
       have hord := qorder_any Ar A' cr c' R2 T wr hAr hBt (by omega)
       have hg9 : g < 10 := by
         rcases Nat.lt_or_ge g 10 with h | h
         · exact h
         · have h1 := Nat.mul_le_mul_right T h
           have h2 := HRG.out
           have h3 := HS3.out
           omega
       have HV := Lib.hid (dmVal_of hAr)
       have hkl : k < ((qd (X / T) n (k + 1)).set k (g : Int)).length := by rw [List.length_set, qd_length]; omega
       obtain ⟨v, hv⟩ : ∃ v, v = ordI (R2 : Nat) (T : Nat) := ⟨_, rfl⟩
       rw [<- hv] at hord
       by_cases hge : T <= R2
       · have hv0 : 0 <= v := by rw [hv]; unfold ordI; split <;> (try split) <;> omega
         have hmin := fun q => qminus_any Ar A' cr c' R2 T (wr.drewN q) (hAr.drewN q) (hBt.drewN q) (by omega) hge
         have HORD := Lib.hid hord; have HMIN := Lib.hid hmin; have HG := Lib.hid hG; have HBL := Lib.hid hbl; have HKL := Lib.hid hkl; have HGE := Lib.hid hge
         have p1 : (g : Int) <= 9 := by omega
         have p2 : (0 : Int) <= (g : Int) := by omega
         clear hord hmin hG hbl hkl hBt hAr hge hv hR2l
         go_wp2_with fail
         refine HORD.out.mono ?_
         rintro e w4 ⟨rfl, q, rfl⟩
         go_wp2_with fail
         refine (HMIN.out q).mono ?_
         rintro e w5 ⟨A5, c5, rfl, hD5, hF5, hb5⟩
         have hG5 := (HG.out.drewN q).below hb5 (HG.out.drewN q).lt
         have hl5 := (HG.out.drewN q).lt
         have c0 := hG5.cell (iv_at HKL.out)
         rw [List.getElem_set_self, iv] at c0
         have f0 := hG5.frozen k
         have hb6 := (below_drewN HBL.out q).trans (hb5.mono (below_drewN HBL.out q).size)
         have hF6 : Fr (w.heap.size + 1) A5 := hF5.mono hl5
         have hD6 := hD5.far (p := ⟨w.heap.size, k, none⟩) hF6 (.int .i64 ((g : Int) + 1))
         have hV6 := dmVal_of hD6
         have HG5 := Lib.hid hG5; have HB6 := Lib.hid hb6; have HF6 := Lib.hid hF6; have HD6 := Lib.hid hD6; have HV6 := Lib.hid hV6
         clear hG5 hb6 hF6 hD6 hV6 hD5 hF5 hb5 hl5
         go_wp2_with fail
         go_roundw
         case rel => exact ⟨g + 1, A5, c5, R2 - T, rfl, (by show _ = _; have := HRG.out; have := HGE.out; rw [Nat.add_mul]; omega), HD6.out, HF6.out, (by rw [<- List.set_set (a := (g : Int)), <- iv_set]; exact HG5.out.set k _), HB6.out.setCell (Nat.le_refl _) _⟩
         case measure => simp [HV.out, HV6.out]; have := HGE.out; have := HT0.out; omega
       · have hv0 : v < 0 := by rw [hv, ordI_lt (by omega)]; omega
         have e1 : g = d10 (X / T) k /\ R2 = X / 10 ^ k % T := by
           have h1 := HRG.out
           rw [HS1.out, HS2.out, <- h1]
           rw [Nat.add_mul_div_right _ _ HT0.out, Nat.add_mul_mod_self_right, Nat.div_eq_of_lt (by omega), Nat.mod_eq_of_lt (by omega)]
           omega
         have hG6 : Blk wr w.heap.size 3 ((qd (X / T) n k).map iv).toArray := by
           have := hG
           rw [e1.1, qd_set] at this
           exact this
         have HE1 := Lib.hid e1.2; have HG6 := Lib.hid hG6; have HORD := Lib.hid hord; have HBL := Lib.hid hbl; have HAR := Lib.hid hAr
         clear e1 hG6 hG hord hbl hAr hv hkl hBt hge hg9
         go_wp2_with fail
         refine HORD.out.mono ?_
         rintro e w4 ⟨rfl, q, rfl⟩
         go_wp2_with fail
         go_roundw
         case rel => exact ⟨k, _, Ar, cr, R2, rfl, rfl, by omega, rfl, HE1.out, HAR.out.drewN q, HG6.out.drewN q, below_drewN HBL.out q⟩
         case measure => simp [intOf]
theorem is0_of {b : ByteArray} {y : Int} (hy : rd b.data.toList = some y) (v : Bool) (h : v = decide (y = 0)) : (b.toList == [48]) = v := by
 refine is48 _ _ ?_
 rw [h, (rd_some hy).1, decide_eq_decide]
 constructor
 · rintro rfl; rfl
 · intro h2; exact zL_inj (h2.trans (by rfl : [48] = zL 0))
theorem dl_one : dl 1 = 1 := dl_eq (by omega) (.inr (by decide))
theorem Dm.one (w : World) : Dm (w.alloc (.cells #[.int .i64 1] 3)) (some ⟨w.heap.size, 0, none⟩) 1 1 1 :=
 ⟨Nat.le_refl _, fun _ => ⟨_, _, rfl, by simp, fun i hi => by
   obtain rfl : i = 0 := by omega
   rw [World.cell?_alloc_at _ _ _ _ rfl]
   rfl⟩⟩
set_option maxRecDepth 100000 in
set_option maxHeartbeats 2000000 in
theorem qdiv_any (a b : ByteArray) (w : World) (ha : a.size <= 9000000000000000000) (hb : b.size <= 9000000000000000000) :
   Calls Tryz.prog 69 #[.string a, .string b] w (OutDP (divR a.data.toList b.data.toList) w) := by
 have hva := fun w => qvalid_any a w ha
 have hvb := fun w => qvalid_any b w hb
 cases hx : rd a.data.toList with
 | none =>
   rw [divR_no1 hx]
   rw [valid_no hx] at hva
   have HVA := Lib.hid hva
   clear hx hva hvb
   go_enter Tryz.func69, Tryz.ntmps69
   go_wp2_with fail
   refine (HVA.out _).mono ?_
   rintro e w1 ⟨rfl, k1, rfl⟩
   go_wp2_with fail
   go_ret3
   exact ⟨rfl, below_drewN (Below.refl _ _) _⟩
 | some x =>
   rw [valid_yes hx] at hva
   have HVA := Lib.hid hva
   cases hy : rd b.data.toList with
   | none =>
     rw [divR_no2 hy]
     rw [valid_no hy] at hvb
     have HVB := Lib.hid hvb
     clear hx hy hva hvb
     go_enter Tryz.func69, Tryz.ntmps69
     go_wp2_with fail
     refine (HVA.out _).mono ?_
     rintro e w1 ⟨rfl, k1, rfl⟩
     go_wp2_with fail
     refine (HVB.out _).mono ?_
     rintro e w1 ⟨rfl, k2, rfl⟩
     go_wp2_with fail
     go_ret3
     exact ⟨rfl, below_drewN (Below.refl _ _) _⟩
   | some y =>
     rw [valid_yes hy] at hvb
     have HVB := Lib.hid hvb
     by_cases hy0 : y = 0
     · have hz := is0_of hy true (by simp [hy0])
       rw [divR_zero (by rw [hy, hy0])]
       clear hx hy hva hvb hy0
       go_enter Tryz.func69, Tryz.ntmps69
       go_wp2_with fail
       refine (HVA.out _).mono ?_
       rintro e w1 ⟨rfl, k1, rfl⟩
       go_wp2_with fail
       refine (HVB.out _).mono ?_
       rintro e w1 ⟨rfl, k2, rfl⟩
       go_wp2_with fail
       go_ret3
       exact ⟨rfl, below_drewN (Below.refl _ _) _⟩
     · have hz := is0_of hy false (by simp [hy0])
       rw [divR_yes hx hy hy0]
       have hx9 := (rd_some hx).2.1
       obtain ⟨sx, X, ex, -, -, hX2, -, hda⟩ := qdig2 ha hx
       obtain ⟨sy, Y, ey, -, hYa, hY2, -, hdb⟩ := qdig2 hb hy
       have hY0 : 0 < Y := by omega
       have HDA := Lib.hid hda; have HDB := Lib.hid hdb
       have hYl := dl_le.2 hY2
       have hXl := dl_le.2 hX2
       have hq9 := Int.natAbs_ediv_le_natAbs x y
       have hq9' : (x / y).natAbs < 10 ^ 200 := by omega
       have hlm : lim (x / y) = some (x / y) := by unfold lim; rw [if_pos hq9']
       obtain ⟨Q, hQ⟩ : ∃ Q, Q = X / Y := ⟨_, rfl⟩
       obtain ⟨R, hR⟩ : ∃ R, R = X % Y := ⟨_, rfl⟩
       have hdv := fun A A' c c' w1 h1 h2 => qdivd_any A A' c c' X Y w1 h1 h2 (by omega) (by omega) hY0
       unfold OutQD at hdv
       rw [<- hQ, <- hR] at hdv
       have hQX : Q <= X := by rw [hQ]; exact Nat.div_le_self _ _
       have hRY : R < Y := by rw [hR]; exact Nat.mod_lt _ hY0
       have hQl := dl_mono hQX
       have hRl := dl_mono (Nat.le_of_lt hRY)
       have HDV := Lib.hid hdv
       by_cases hcase : sx = false ∨ R = 0
       · have hs0 : sx = true -> X % Y = 0 := by
           intro h
           rw [<- hR]
           rcases hcase with h2 | h2
           · rw [h] at h2; cases h2
           · exact h2
         have hsd := sg_div0 sx sy X Y hY0 hs0
         clear hs0
         rw [sg_sb, ex, ey, <- hQ, <- hR] at hsd
         have hck := fun A c w1 h1 => qchecked_any (!(sx == sy)) A c Q w1 h1 (by omega)
         rw [hsd.1, hlm] at hck
         have htx := fun A c w1 h1 => reftext_any false A c R w1 h1 (by omega)
         unfold OutTx at htx
         rw [sg_false, hsd.2] at htx
         have HCK := Lib.hid hck; have HTX := Lib.hid htx
         have hcase2 : sx = false ∨ (sx = true /\ ¬ (0 : Int) < ((dl R : Nat) : Int)) := by
           cases sx
           · exact .inl rfl
           · refine .inr ⟨rfl, ?_⟩
             rcases hcase with h2 | h2
             · cases h2
             · rw [h2, dl_zero]; omega
         clear hx hy hva hvb hda hdb hX2 hY2 hcase ex ey hq9 hq9' hlm hsd hck htx hdv hQ hR hYa hQX hRY hx9
         rcases hcase2 with rfl | ⟨rfl, hlr⟩ <;> cases sy
         all_goals
           go_enter Tryz.func69, Tryz.ntmps69
           go_wp2_with fail
           refine (HVA.out _).mono ?_
           rintro e w1 ⟨rfl, k1, rfl⟩
           go_wp2_with fail
           refine (HVB.out _).mono ?_
           rintro e w1 ⟨rfl, k2, rfl⟩
           go_wp2_with fail
           refine (HDA.out _).mono ?_
           rintro e w3 ⟨A, c, rfl, hA, hb3⟩
           have hb3 := Lib.hid ((below_drewN (Below.refl w.heap.size w) (k1 + k2)).trans hb3)
           have hA := Lib.hid hA
           go_wp2_with fail
           refine (HDB.out _).mono ?_
           rintro e w4 ⟨A', c', rfl, hB, hb4⟩
           have hA2 := Lib.hid (hA.out.below hb4)
           have hb5 := Lib.hid (hb3.out.trans (hb4.mono hb3.out.size))
           have hB := Lib.hid hB
           clear hb4
           go_wp2_with fail
           refine (HDV.out _ _ _ _ _ hA2.out hB.out).mono ?_
           rintro e w5 ⟨Aq, cq, Ar, cr, rfl, hDq, hDr, hb6⟩
           have hDq := Lib.hid hDq; have hDr := Lib.hid hDr
           have hb7 := Lib.hid (hb5.out.trans (hb6.mono hb5.out.size))
           clear hb6
           go_wp2_with fail
           refine (HCK.out _ _ _ hDq.out).mono ?_
           rintro e w7 ⟨rfl, hb8⟩
           have hDr2 := Lib.hid (hDr.out.below hb8)
           have hb9 := Lib.hid (hb7.out.trans (hb8.mono hb7.out.size))
           clear hb8
           go_wp2_with fail
           refine (HTX.out _ _ _ hDr2.out).mono ?_
           rintro e w8 ⟨rfl, hb10⟩
           go_wp2_with fail
           go_ret3
           exact ⟨rfl, hb9.out.trans (hb10.mono hb9.out.size)⟩
       · obtain rfl : sx = true := by
           cases sx
           · exact absurd (.inl rfl) hcase
           · rfl
         have hR0 : 0 < R := by have : ¬ R = 0 := fun h => hcase (.inr h); omega
         have hsd := sg_div1 sy X Y hY0 (by rw [<- hR]; exact hR0)
         rw [sg_sb, ex, ey, <- hQ, <- hR] at hsd
         have hQ1 : dl (Q + 1) <= 1001 := dl_sum (by omega) (by rw [dl_one]; omega)
         have hck := fun A c w1 h1 => qchecked_any (!(true == sy)) A c (Q + 1) w1 h1 (by omega)
         rw [hsd.1, hlm] at hck
         have hR2 := dl_mono (Nat.sub_le Y R)
         have htx := fun A c w1 h1 => reftext_any false A c (Y - R) w1 h1 (by omega)
         unfold OutTx at htx
         rw [sg_false, hsd.2] at htx
         have hpl := fun A c w1 h1 => qplus_any A (some ⟨World.heap w1 |>.size, 0, none⟩) c 1 Q 1 (w1.alloc (.cells #[.int .i64 1] 3)) h1 (by rw [dl_one]; exact Dm.one w1) (by omega)
         rw [dl_one] at hpl
         have hmn := fun A A' c c' w1 h1 h2 => qminus_any A A' c c' Y R w1 h1 h2 (by omega) (Nat.le_of_lt hRY)
         have HCK := Lib.hid hck; have HTX := Lib.hid htx; have HPL := Lib.hid hpl; have HMN := Lib.hid hmn
         have hlr : (0 : Int) < ((dl R : Nat) : Int) := by have := dl_pos hR0; omega
         clear hx hy hva hvb hda hdb hX2 hY2 hcase ex ey hq9 hq9' hlm hsd hck htx hdv hQ hR hYa hQX hRY hx9 hpl hmn hR0
         cases sy
         all_goals
           go_enter Tryz.func69, Tryz.ntmps69
           go_wp2_with fail
           refine (HVA.out _).mono ?_
           rintro e w1 ⟨rfl, k1, rfl⟩
           go_wp2_with fail
           refine (HVB.out _).mono ?_
           rintro e w1 ⟨rfl, k2, rfl⟩
           go_wp2_with fail
           refine (HDA.out _).mono ?_
           rintro e w3 ⟨A, c, rfl, hA, hb3⟩
           have hb3 := Lib.hid ((below_drewN (Below.refl w.heap.size w) (k1 + k2)).trans hb3)
           have hA := Lib.hid hA
           go_wp2_with fail
           refine (HDB.out _).mono ?_
           rintro e w4 ⟨A', c', rfl, hB, hb4⟩
           have hA2 := Lib.hid (hA.out.below hb4)
           have hb5 := Lib.hid (hb3.out.trans (hb4.mono hb3.out.size))
           have hB := Lib.hid hB
           clear hb4
           go_wp2_with fail
           refine (HDV.out _ _ _ _ _ hA2.out hB.out).mono ?_
           rintro e w5 ⟨Aq, cq, Ar, cr, rfl, hDq, hDr, hb6⟩
           have hDq := Lib.hid (hDq.below ((Below.refl _ _).alloc (Nat.le_refl _) (.cells #[.int .i64 1] 3))); have hDr := Lib.hid hDr; have hB3 := Lib.hid (hB.out.below hb6)
           have hb7 := Lib.hid (hb5.out.trans (hb6.mono hb5.out.size))
           clear hb6
           go_wp2_with fail
           refine (HPL.out _ _ _ hDq.out).mono ?_
           rintro e w6 ⟨Ap, cp, rfl, hDp, -, hb8⟩
           have hb8 := ((Below.refl w5.heap.size w5).alloc (Nat.le_refl _) (.cells #[.int .i64 1] 3)).trans (hb8.mono (by simp))
           have hDp := Lib.hid hDp; have hDr2 := Lib.hid (hDr.out.below hb8); have hB4 := Lib.hid (hB3.out.below hb8)
           have hb9 := Lib.hid (hb7.out.trans (hb8.mono hb7.out.size))
           clear hb8
           go_wp2_with fail
           refine (HMN.out _ _ _ _ _ hB4.out hDr2.out).mono ?_
           rintro e w7 ⟨Am, cm, rfl, hDm, -, hb10⟩
           have hDm := Lib.hid hDm; have hDp2 := Lib.hid (hDp.out.below hb10)
           have hb11 := Lib.hid (hb9.out.trans (hb10.mono hb9.out.size))
           clear hb10
           go_wp2_with fail
           refine (HCK.out _ _ _ hDp2.out).mono ?_
           rintro e w8 ⟨rfl, hb12⟩
           have hDm2 := Lib.hid (hDm.out.below hb12)
           have hb13 := Lib.hid (hb11.out.trans (hb12.mono hb11.out.size))
           clear hb12
           go_wp2_with fail
           refine (HTX.out _ _ _ hDm2.out).mono ?_
           rintro e w9 ⟨rfl, hb14⟩
           go_wp2_with fail
           go_ret3
           exact ⟨rfl, hb13.out.trans (hb14.mono hb13.out.size)⟩
set_option maxRecDepth 100000 in
set_option maxHeartbeats 1000000 in
theorem qgcd_any (a b : ByteArray) (w : World) (ha : a.size <= 9000000000000000000) (hb : b.size <= 9000000000000000000) :
   Calls Tryz.prog 68 #[.string a, .string b] w (OutO (opR (fun x y => ((Nat.gcd x.natAbs y.natAbs : Nat) : Int)) a.data.toList b.data.toList) w) := by
 have hva := fun w => qvalid_any a w ha
 have hvb := fun w => qvalid_any b w hb
 cases hx : rd a.data.toList with
 | none =>
   rw [opR_no1 hx]
   rw [valid_no hx] at hva
   have HVA := Lib.hid hva
   clear hx hva hvb
   go_enter Tryz.func68, Tryz.ntmps68
   go_wp2_with fail
   refine (HVA.out _).mono ?_
   rintro e w1 ⟨rfl, k1, rfl⟩
   go_wp2_with fail
   go_ret2
   exact ⟨rfl, below_drewN (Below.refl _ _) _⟩
 | some x =>
   rw [valid_yes hx] at hva
   have HVA := Lib.hid hva
   cases hy : rd b.data.toList with
   | none =>
     rw [opR_no2 hx hy]
     rw [valid_no hy] at hvb
     have HVB := Lib.hid hvb
     clear hx hy hva hvb
     go_enter Tryz.func68, Tryz.ntmps68
     go_wp2_with fail
     refine (HVA.out _).mono ?_
     rintro e w1 ⟨rfl, k1, rfl⟩
     go_wp2_with fail
     refine (HVB.out _).mono ?_
     rintro e w1 ⟨rfl, k2, rfl⟩
     go_wp2_with fail
     go_ret2
     exact ⟨rfl, below_drewN (Below.refl _ _) _⟩
   | some y =>
     rw [valid_yes hy] at hvb
     rw [opR_yes hx hy]
     have HVB := Lib.hid hvb
     obtain ⟨sx, X, -, -, hXa, hX2, -, hda⟩ := qdig2 ha hx
     obtain ⟨sy, Y, -, -, hYa, hY2, -, hdb⟩ := qdig2 hb hy
     have HDA := Lib.hid hda; have HDB := Lib.hid hdb
     have hYl := dl_le.2 hY2
     have hXl := dl_le.2 hX2
     show Calls _ _ _ w (OutO (lim ((Nat.gcd x.natAbs y.natAbs : Nat) : Int)) w)
     rw [<- hXa, <- hYa]
     obtain ⟨g, hg⟩ : ∃ g, g = Nat.gcd X Y := ⟨_, rfl⟩
     rw [<- hg]
     have HG := Lib.hid hg
     clear hx hy hva hvb hda hdb hX2 hY2 hXa hYa hg
     go_enter Tryz.func68, Tryz.ntmps68
     go_wp2_with fail
     refine (HVA.out _).mono ?_
     rintro e w1 ⟨rfl, k1, rfl⟩
     go_wp2_with fail
     refine (HVB.out _).mono ?_
     rintro e w1 ⟨rfl, k2, rfl⟩
     go_wp2_with fail
     refine (HDA.out _).mono ?_
     rintro e w3 ⟨A, c, rfl, hA, hb3⟩
     have hb3 := Lib.hid ((below_drewN (Below.refl w.heap.size w) (k1 + k2)).trans hb3)
     have hA := Lib.hid hA
     go_wp2_with fail
     refine (HDB.out _).mono ?_
     rintro e w4 ⟨A', c', rfl, hB, hb4⟩
     have hA2 := Lib.hid (hA.out.below hb4)
     have hb5 := Lib.hid (hb3.out.trans (hb4.mono hb3.out.size))
     have hB := Lib.hid hB
     clear hb4
     go_wp2_with fail
     go_loopw [7, 9] (fun a b wr => ∃ (Ar As : Option Addr) (cr cs P R : Nat), a = .slice Ar (dl P) cr /\ b = .slice As (dl R) cs /\ dl P <= 200 /\ dl R <= 200 /\ Hid (Nat.gcd P R = g) /\ Dm wr Ar (dl P) cr P /\ Dm wr As (dl R) cs R /\ Below w.heap.size w wr) (fun _ b wr => dmVal wr b)
     case atStart => exact ⟨_, _, _, _, _, _, rfl, rfl, hXl, hYl, HG.out.symm, hA2.out, hB.out, hb5.out⟩
     case round =>
       clear hXl hYl
       obtain ⟨Ar, As, cr, cs, P, R, rfl, rfl, hP, hR, HG, hAr, hAs, hbl⟩ := hrel
       by_cases h0 : 0 < R
       · have hg := dl_pos h0
         have hdv := qdivd_any Ar As cr cs P R wr hAr hAs (by omega) (by omega) h0
         have HC := Lib.hid hdv
         have hm := Nat.mod_lt P h0
         have hgm : dl (P % R) <= 200 := Nat.le_trans (dl_mono (Nat.le_of_lt hm)) hR
         have HG2 : Hid (Nat.gcd R (P % R) = g) := by
           show Nat.gcd R (P % R) = g
           rw [<- HG.out, Nat.gcd_comm R, <- Nat.gcd_rec, Nat.gcd_comm]
         have HV := Lib.hid (dmVal_of hAs)
         have HAs := Lib.hid hAs
         have HM := Lib.hid hm
         have hgi : (0 : Int) < ((dl R : Nat) : Int) := by omega
         clear hdv hAr hAs hm
         go_wp2_with fail
         refine HC.out.mono ?_
         rintro e w1 ⟨A1, c1, A2, c2, rfl, hA1, hA2, hb1⟩
         have HA2 := Lib.hid hA2
         have HV2 := Lib.hid (dmVal_of hA2)
         have HB1 := Lib.hid hb1
         have hAs2 := Lib.hid (HAs.out.below hb1)
         clear hA1 hA2 hb1
         go_wp2_with fail
         go_roundw
         case rel => exact ⟨_, _, _, _, R, P % R, rfl, rfl, hR, hgm, HG2, hAs2.out, HA2.out, hbl.trans (HB1.out.mono hbl.size)⟩
         case measure => simp [HV.out, HV2.out, HM.out]
       · have hz : ¬ (0 : Int) < ((dl R : Nat) : Int) := by rw [show R = 0 by omega, dl_zero]; omega
         have hPg : P = g := by rw [<- HG.out, show R = 0 by omega, Nat.gcd_zero_right]
         subst hPg
         have hck := qchecked_any false Ar cr P wr hAr (by omega)
         rw [sg_false] at hck
         have HCK := Lib.hid hck; have HBL := Lib.hid hbl
         clear hck hAr hAs hbl h0
         go_wp2_with fail
         refine HCK.out.mono ?_
         rintro e w6 ⟨rfl, hb7⟩
         go_wp2_with fail
         go_ret2
         exact ⟨rfl, HBL.out.trans (hb7.mono HBL.out.size)⟩
set_option maxRecDepth 100000 in
set_option maxHeartbeats 1000000 in
theorem qfrom_any (n : Int) (w : World) (h1 : -9223372036854775808 <= n) (h2 : n <= 9223372036854775807) : Calls Tryz.prog 58 #[.int .i64 n] w fun e w' => e = .returned (.string (zS n)) /\ Below w.heap.size w w' := by
 obtain ⟨i0, hi0, hz0, hz1, hz2⟩ := info_of info_i64
 obtain ⟨N, hN⟩ : ∃ N, N = n.natAbs := ⟨_, rfl⟩
 have hN20 : dl N <= 20 := dl_le.2 (by omega)
 by_cases hneg : n < 0
 · have hsg : sg true N = n := by rw [sg_true]; omega
   have HSG := Lib.hid hsg; have HNN := Lib.hid hN
   clear hsg hN
   go_enter Tryz.func58, Tryz.ntmps58
   go_wp2_with fail
   go_loopw [3, 4] (fun vv mm wr => ∃ (i : Nat) (z : Int), mm = .int .i64 z /\ Hid (z = -((N / 10 ^ i : Nat) : Int)) /\ i <= 20 /\ Hid (i <= dl N) /\ z <= 0 /\ -9223372036854775808 <= z /\ wr.ownsRow w.heap.size 3 1 vv i ((digs N i).map iv) /\ Below w.heap.size w wr)
     (fun _ mm _ => (intOf mm).natAbs)
   case atStart => exact ⟨0, n, rfl, by show _ = _; have := HNN.out; simp; omega, by omega, Nat.zero_le _, by omega, h1, World.ownsRow_nil _ _ _ _, Below.refl _ _⟩
   case round =>
     obtain ⟨i, z, rfl, HZ, hi, HI, hz3, hz4, hown, hbl⟩ := hrel
     have hbs := hbl.size
     by_cases hz : z = 0
     · subst hz
       have hlt : N < 10 ^ i := by
         have h3 := HZ.out
         rcases Nat.lt_or_ge N (10 ^ i) with h | h
         · exact h
         · have := Nat.div_le_div_right (c := 10 ^ i) h
           rw [Nat.div_self (pow10_pos i)] at this; omega
       have hil : i = dl N := by have := dl_le.2 hlt; have := HI.out; omega
       subst hil
       obtain ⟨A, c, rfl, hD⟩ := Dm.own hown
       have htx := reftext_any true A c N wr hD (by omega)
       unfold OutTx at htx
       rw [HSG.out] at htx
       have HTX := Lib.hid htx; have HBL := Lib.hid hbl
       clear htx hD hown hbl
       go_wp2_with fail
       refine HTX.out.mono ?_
       rintro e w2 ⟨rfl, hb2⟩
       go_wp2_with fail
       go_ret
       exact ⟨rfl, HBL.out.trans (hb2.mono HBL.out.size)⟩
     · have e0 : (z == 0) = false := by rw [beq_eq_false_iff_ne]; exact hz
       have e0' : (z != 0) = true := by rw [bne, e0]; rfl
       have hpos : 0 < N / 10 ^ i := by have := HZ.out; omega
       have hil : i < dl N := lt_dl_of (by
         rcases Nat.lt_or_ge N (10 ^ i) with h | h
         · rw [Nat.div_eq_of_lt h] at hpos; omega
         · exact h)
       have hdd : d10 N i = N / 10 ^ i % 10 := rfl
       have hnx : N / 10 ^ (i + 1) = N / 10 ^ i / 10 := by rw [Nat.pow_succ, Nat.div_div_eq_div_mul]
       have HDG := Lib.hid (digs_succ N i)
       obtain ⟨d, hd⟩ : ∃ d, d = d10 N i := ⟨_, rfl⟩
       rw [<- hd] at hdd HDG
       obtain ⟨t, ht⟩ : ∃ t, t = z.tmod 10 := ⟨_, rfl⟩
       obtain ⟨y, hy⟩ : ∃ y, y = z.tdiv 10 := ⟨_, rfl⟩
       have hzq := HZ.out
       have ht2 : t = -(d : Int) := by
         rw [ht, hzq, Int.neg_tmod, Int.tmod_eq_emod_of_nonneg (by omega)]; omega
       have hy2 : y = -((N / 10 ^ (i + 1) : Nat) : Int) := by
         rw [hy, hzq, Int.neg_tdiv, Int.tdiv_eq_ediv_of_nonneg (by omega), hnx]; omega
       have hy3 : y <= 0 := by omega
       have hy4 : z < y := by rw [hy2, hzq, hnx]; omega
       have HY := Lib.hid hy2; have HIL := Lib.hid hil; have HOWN := Lib.hid hown; have HBL := Lib.hid hbl
       have e1 : z.tmod 10 = t := ht.symm
       have e2 : z.tdiv 10 = y := hy.symm
       have hd9 : d < 10 := by omega
       have hi2 : i < 20 := by omega
       clear hown hbl hdd hnx ht hy hzq hy2 hd hil hpos
       rcases Nat.eq_zero_or_pos d with d0 | d0
       · obtain rfl : t = 0 := by omega
         subst d0
         clear ht2
         go_wp2_with (at_builtin; refine wpList_append_own _ rfl _ _ 86 rfl w.heap.size 3 i0 (.int .i64 0) 1 8 Tryz.underlying86 hi0 hz0 hz1 hz2 rfl (by decide) _ _ _ rfl (HOWN.out.alloc _) ⟨wr.heap.size, 0, none⟩ 1 1 [.int .i64 0] rfl rfl (cell_one_new _ _ _) (by simp [Value.oneCell']) (by unfold maxLen; omega) (by omega) (by simp; omega) ?_; intro v1 w1 hown1 hgrow1 _; have hB1 := ((HBL.out.alloc hbs _).grown hgrow1 (by simp; omega) (own_base HOWN.out)); have hown2 : w1.ownsRow w.heap.size 3 1 v1 (i + 1) ((digs N (i + 1)).map iv) := (by rw [HDG.out, List.map_append]; exact hown1); have HOWN2 := Lib.hid hown2; have HB1 := Lib.hid hB1; clear hown1 hgrow1 hown2 hB1)
         go_roundw
         case rel => exact ⟨i + 1, y, rfl, HY.out, by omega, HIL.out, hy3, by omega, HOWN2.out, HB1.out⟩
         case measure => simp [intOf] <;> omega
       · have t0 : t < 0 := by omega
         have t1 : -t = (d : Int) := by omega
         have t2 : -9 <= t := by omega
         clear ht2
         go_wp2_with (at_builtin; refine wpList_append_own _ rfl _ _ 86 rfl w.heap.size 3 i0 (.int .i64 0) 1 8 Tryz.underlying86 hi0 hz0 hz1 hz2 rfl (by decide) _ _ _ rfl (HOWN.out.alloc _) ⟨wr.heap.size, 0, none⟩ 1 1 [.int .i64 (d : Int)] rfl rfl (cell_one_new _ _ _) (by simp [Value.oneCell']) (by unfold maxLen; omega) (by omega) (by simp; omega) ?_; intro v1 w1 hown1 hgrow1 _; have hB1 := ((HBL.out.alloc hbs _).grown hgrow1 (by simp; omega) (own_base HOWN.out)); have hown2 : w1.ownsRow w.heap.size 3 1 v1 (i + 1) ((digs N (i + 1)).map iv) := (by rw [HDG.out, List.map_append]; exact hown1); have HOWN2 := Lib.hid hown2; have HB1 := Lib.hid hB1; clear hown1 hgrow1 hown2 hB1)
         go_roundw
         case rel => exact ⟨i + 1, y, rfl, HY.out, by omega, HIL.out, hy3, by omega, HOWN2.out, HB1.out⟩
         case measure => simp [intOf] <;> omega
 · have hsg : sg false N = n := by rw [sg_false]; omega
   have hdn : decide (n < 0) = false := decide_eq_false hneg
   have HSG := Lib.hid hsg; have HNN := Lib.hid hN
   clear hsg hN
   go_enter Tryz.func58, Tryz.ntmps58
   go_wp2_with fail
   go_loopw [3, 4] (fun vv mm wr => ∃ (i : Nat) (q : Int), mm = .int .i64 q /\ Hid (q = ((N / 10 ^ i : Nat) : Int)) /\ i <= 20 /\ Hid (i <= dl N) /\ 0 <= q /\ q <= 9223372036854775807 /\ wr.ownsRow w.heap.size 3 1 vv i ((digs N i).map iv) /\ Below w.heap.size w wr)
     (fun _ mm _ => (intOf mm).natAbs)
   case atStart => exact ⟨0, n, rfl, by show _ = _; have := HNN.out; simp; omega, by omega, Nat.zero_le _, by omega, h2, World.ownsRow_nil _ _ _ _, Below.refl _ _⟩
   case round =>
     obtain ⟨i, q, rfl, HQ, hi, HI, hq0, hq9, hown, hbl⟩ := hrel
     have hbs := hbl.size
     by_cases h0 : q = 0
     · subst h0
       have hlt : N < 10 ^ i := by
         have h3 := HQ.out
         rcases Nat.lt_or_ge N (10 ^ i) with h | h
         · exact h
         · have := Nat.div_le_div_right (c := 10 ^ i) h
           rw [Nat.div_self (pow10_pos i)] at this; omega
       have hil : i = dl N := by have := dl_le.2 hlt; have := HI.out; omega
       subst hil
       obtain ⟨A, c, rfl, hD⟩ := Dm.own hown
       have htx := reftext_any false A c N wr hD (by omega)
       unfold OutTx at htx
       rw [HSG.out] at htx
       have HTX := Lib.hid htx; have HBL := Lib.hid hbl
       clear htx hD hown hbl
       go_wp2_with fail
       refine HTX.out.mono ?_
       rintro e w2 ⟨rfl, hb2⟩
       go_wp2_with fail
       go_ret
       exact ⟨rfl, HBL.out.trans (hb2.mono HBL.out.size)⟩
     · have e0 : (q == 0) = false := by rw [beq_eq_false_iff_ne]; exact h0
       have e0' : (q != 0) = true := by rw [bne, e0]; rfl
       obtain ⟨u, hu⟩ : ∃ u, u = N / 10 ^ i := ⟨_, rfl⟩
       have hqu := HQ.out
       rw [<- hu] at hqu
       have hil : i < dl N := lt_dl_of (by
         rcases Nat.lt_or_ge N (10 ^ i) with h | h
         · rw [Nat.div_eq_of_lt h] at hu; omega
         · exact h)
       have hdd : d10 N i = u % 10 := by unfold d10; rw [<- hu]
       have hnx : ((N / 10 ^ (i + 1) : Nat) : Int) = q / 10 := by rw [Nat.pow_succ, <- Nat.div_div_eq_div_mul, <- hu]; omega
       have HDG := Lib.hid (digs_succ N i)
       obtain ⟨d, hd⟩ : ∃ d, d = d10 N i := ⟨_, rfl⟩
       rw [<- hd] at hdd HDG
       obtain ⟨y, hy⟩ : ∃ y, y = q / 10 := ⟨_, rfl⟩
       rw [<- hy] at hnx
       have hy3 : 0 <= y := by omega
       have hy4 : y < q := by omega
       have e1 : q % 10 = (d : Int) := by omega
       have e2 : q / 10 = y := hy.symm
       have d0 : ¬ (d : Int) < 0 := by omega
       have HY := Lib.hid hnx.symm; have HIL := Lib.hid hil; have HOWN := Lib.hid hown; have HBL := Lib.hid hbl
       have hi2 : i < 20 := by omega
       have hd9 : d < 10 := by omega
       clear hown hbl hdd hnx hy hd hil hu hqu h0
       go_wp2_with (at_builtin; refine wpList_append_own _ rfl _ _ 86 rfl w.heap.size 3 i0 (.int .i64 0) 1 8 Tryz.underlying86 hi0 hz0 hz1 hz2 rfl (by decide) _ _ _ rfl (HOWN.out.alloc _) ⟨wr.heap.size, 0, none⟩ 1 1 [.int .i64 (d : Int)] rfl rfl (cell_one_new _ _ _) (by simp [Value.oneCell']) (by unfold maxLen; omega) (by omega) (by simp; omega) ?_; intro v1 w1 hown1 hgrow1 _; have hB1 := ((HBL.out.alloc hbs _).grown hgrow1 (by simp; omega) (own_base HOWN.out)); have hown2 : w1.ownsRow w.heap.size 3 1 v1 (i + 1) ((digs N (i + 1)).map iv) := (by rw [HDG.out, List.map_append]; exact hown1); have HOWN2 := Lib.hid hown2; have HB1 := Lib.hid hB1; clear hown1 hgrow1 hown2 hB1)
       go_roundw
       case rel => exact ⟨i + 1, y, by rw [e2], HY.out, by omega, HIL.out, hy3, by omega, HOWN2.out, HB1.out⟩
       case measure => simp [intOf] <;> omega
end Go.Proofs.YtpjbihfkedbenaaGreat
