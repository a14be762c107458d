/- Regions by hand: taking an operation first, a call that stands alone. No conditions. | The contracts of the reference's trim, text and Made. Conditions: the slices read; a string's length is an int's. | The contract of the statements' helper sane. No conditions. | The operations on strings of integers, by the integers. Conditions: the integers have at most 200 digits. -/
import Derived.Laws.OwnMore
import Derived.Shelf.Abstract
import Derived.Orders
import Derived.Test.YtpjbihfkedbenaaGreatGD
namespace Go.Proofs.YtpjbihfkedbenaaGreat
open Go.RowKit Go.Lib Go.Shelf
end Go.Proofs.YtpjbihfkedbenaaGreat
namespace Go.Proofs.YtpjbihfkedbenaaGreat
open Go.RowKit Go.Lib
def Dm (w : World) (A : Option Addr) (n c V : Nat) : Prop :=
 n <= c /\ (0 < n -> ∃ b o, A = some ⟨b, o, none⟩ /\ b < w.heap.size /\ ∀ i, i < n -> w.cell? ⟨b, o + i, none⟩ = some (.int .i64 (d10 V i : Nat)))
section
variable {w w' : World} {A : Option Addr} {n c V : Nat}
theorem Dm.below (h : Dm w A n c V) (hb : Below w.heap.size w w') : Dm w' A n c V :=
 ⟨h.1, fun hn => by
   obtain ⟨b, o, e, hl, hc⟩ := h.2 hn
   exact ⟨b, o, e, Nat.lt_of_lt_of_le hl hb.size, fun i hi => (hb.cell (p := ⟨b, o + i, none⟩) hl).trans (hc i hi)⟩⟩
theorem Dm.drew (h : Dm w A n c V) : Dm w.drew A n c V := h
theorem Dm.drewN (h : Dm w A n c V) (k : Nat) : Dm (w.drewN k) A n c V := h
theorem Dm.less {m : Nat} (h : Dm w A n c V) (hm : m <= n) : Dm w A m c V :=
 ⟨Nat.le_trans hm h.1, fun h0 => by
   obtain ⟨b, o, e, hl, hc⟩ := h.2 (by omega)
   exact ⟨b, o, e, hl, fun i hi => hc i (by omega)⟩⟩
theorem Dm.zero : Dm w A 0 c V := ⟨Nat.zero_le _, fun h => absurd h (by omega)⟩
end
def digs (V n : Nat) : List Int := (List.range n).map fun i => (d10 V i : Int)
theorem digs_length (V n : Nat) : (digs V n).length = n := by simp [digs]
theorem digs_at (V n i : Nat) (h : i < (digs V n).length) : (digs V n)[i] = d10 V i := by simp [digs]
theorem digs_succ (V n : Nat) : digs V (n + 1) = digs V n ++ [(d10 V n : Int)] := by simp [digs, List.range_succ]
theorem Dm.own {w : World} {B n V : Nat} {v : Value} (h : w.ownsRow B 3 1 v n ((digs V n).map iv)) : ∃ A c, v = .slice A n c /\ Dm w A n c V := by
 rcases h.2 with ⟨rfl, rfl⟩ | ⟨g, cap, cur, rfl, -, hg, hc, -, hs, ht⟩
 · exact ⟨none, 0, rfl, Dm.zero⟩
 · refine ⟨_, cap, rfl, hc, fun _ => ⟨g, 0, rfl, (Array.getElem?_eq_some_iff.1 hg).1, fun i hi => ?_⟩⟩
   have h1 : cur[i]? = some (iv (d10 V i : Nat)) := by
     have h2 : (cur.toList.take (n * 1))[i]? = some (iv (d10 V i : Nat)) := by
       rw [ht, List.getElem?_map, List.getElem?_eq_getElem (by rw [digs_length]; exact hi), digs_at]; rfl
     rw [List.getElem?_take, if_pos (by omega), Array.getElem?_toList] at h2
     exact h2
   rw [Nat.zero_add]
   simp [World.cell?, hg, h1, iv]
set_option maxRecDepth 100000 in
theorem reftrim_any (A : Option Addr) (n c V : Nat) (w : World) (hA : Dm w A n c V) (hV : V < 10 ^ n) (hn : n <= 100000) :
   Calls Tryz.prog 100 #[.slice A n c] w fun e w' => e = .returned (.slice A (dl V) c) /\ w = w' := by
 have HA := Lib.hid hA; have HV := Lib.hid hV; have hnc := hA.1; clear hA hV
 go_enter Tryz.func100, Tryz.ntmps100
 go_wp2
 go_loop [0] (fun a => ∃ m, a = .slice A m c /\ m <= n /\ Hid (V < 10 ^ m)) (fun a => lenV a)
 case atStart => exact ⟨n, rfl, Nat.le_refl _, HV.out⟩
 case round =>
   obtain ⟨m, rfl, hm, HM⟩ := hrel
   by_cases h0 : 0 < m
   · obtain ⟨b, o, rfl, hb, hc⟩ := HA.out.2 (by omega)
     obtain ⟨k, rfl⟩ : ∃ k, m = k + 1 := ⟨m - 1, by omega⟩
     have hcell := hc k (by omega)
     clear hc
     have hs := run_upto 86 Tryz.underlying86 b o (k + 1) c k (by omega)
     have p1 : (0 : Int) < ((k + 1 : Nat) : Int) := by omega
     have p2 : ((k + 1 : Nat) : Int) - 1 = (k : Int) := by omega
     rw [show ((k + 1 : Nat) : Int) = (k : Int) + 1 from by omega] at p1 p2
     have p3 : ((k : Int) + 1 - 1).toNat = k := by omega
     by_cases hz : d10 V k = 0
     · have HM2 := Lib.hid (dlt_pred HM.out hz)
       rw [hz] at hcell
       have HZ := Lib.hid hz; clear hz
       go_wp2
       go_round
       case rel => exact ⟨k, rfl, by omega, HM2.out⟩
       case measure => simp [lenV]
     · have hz2 : ((d10 V k : Int) == 0) = false := by rw [beq_eq_false_iff_ne]; omega
       have HE := Lib.hid (dl_eq HM.out (.inr (by rw [Nat.add_sub_cancel]; exact hz)))
       clear hz
       go_wp2
       go_ret
       exact ⟨by rw [HE.out]; rfl, rfl⟩
   · have HE := Lib.hid (dl_eq HM.out (.inl (by omega)))
     obtain rfl : m = 0 := by omega
     go_wp2
     go_ret
     exact ⟨by rw [HE.out]; rfl, rfl⟩
theorem run_string_own {P : Program} {w : World} {base e : Nat} {v : Value} {l : List UInt8} (src dst : TypeId) (hs : P.underlying src = some (.slice e)) (he : P.underlying e = some (.int .u8)) (hd : P.underlying dst = some .string)
   (h : w.ownsRow base e 1 v l.length (l.map bu)) : (convert src dst v).run P w = .ok (.string ⟨l.toArray⟩) w := by
 rcases h.2 with ⟨rfl, h0⟩ | ⟨g, cap, cur, rfl, _⟩
 · rw [run_convert_bytes_nil w src e hs he 0 0 dst hd]
   have : l = [] := List.eq_nil_of_length_eq_zero h0
   subst this; rfl
 · refine run_convert_bytes_back w src dst e ⟨g, 0, none⟩ cap l hs he hd fun j hj => ?_
   have := h.cellAt j (by omega)
   have e1 : (⟨g, 0, none⟩ : Addr).add j = ⟨g, j, none⟩ := by unfold Addr.add; split <;> simp_all
   rw [e1, this]
   simp [bu, hj]
theorem own_push {w : World} {base e : Nat} {v val : Value} {L : List UInt8} {x : UInt8} (h : w.ownsRow base e 1 v (L.length + 1) (L.map bu ++ [val])) (hx : val = bu x) : w.ownsRow base e 1 v (L ++ [x]).length ((L ++ [x]).map bu) := by
 rw [List.length_append, List.map_append, List.map_singleton, <- hx]; exact h
theorem pad_take {X n t k : Nat} (h : k + t + 1 = n) (P : List UInt8) : P ++ (pad X n).take (t + 1) = (P ++ (pad X n).take t) ++ [dch (d10 X k)] := by
 rw [List.take_succ_eq_append_getElem (by rw [pad_length]; omega), pad_at, List.append_assoc, show n - 1 - t = k by omega]
theorem pad_take_length {X n t : Nat} (h : t <= n) (P : List UInt8) : (P ++ (pad X n).take t).length = P.length + t := by
 rw [List.length_append, List.length_take, pad_length, Nat.min_eq_left h]
def OutTx (s : Bool) (X : Nat) (w : World) (e : Ending) (w' : World) : Prop := e = .returned (.tuple #[.string (zS (sg s X)), .bool (decide (dl X <= 200))]) /\ Below w.heap.size w w'
set_option maxRecDepth 100000 in
set_option maxHeartbeats 1000000 in
theorem reftext_any (s : Bool) (A : Option Addr) (c X : Nat) (w : World) (hA : Dm w A (dl X) c X) (hX : dl X <= 10000) :
   Calls Tryz.prog 70 #[.bool s, .slice A (dl X) c] w (OutTx s X w) := by
 obtain ⟨i0, hi, hz0, hz1, hz2⟩ := info_of info_u8
 obtain ⟨n, hn⟩ : ∃ n, n = dl X := ⟨_, rfl⟩
 unfold OutTx
 rw [<- hn] at hA hX ⊢
 rcases Nat.eq_zero_or_pos X with h0 | h0
 · have hzz : zS (sg s X) = ⟨#[48]⟩ := by rw [h0]; unfold zS; rw [zL_zero]
   obtain rfl : n = 0 := by rw [hn, h0, dl_zero]
   rw [hzz]
   clear hzz h0 hn hA
   go_enter Tryz.func70, Tryz.ntmps70
   go_wp2
   go_ret2
   exact ⟨rfl, Below.refl _ _⟩
 · have hp := dl_pos h0
   rw [<- hn] at hp
   have hzz : zS (sg s X) = bs ((if s then [45] else []) ++ pad X n) := by
     unfold zS; rw [zL_sg h0, hn]; rfl
   rw [hzz]
   have HA := Lib.hid hA; have HZ := Lib.hid hzz
   have hd : decide ((n : Int) <= 200) = decide (n <= 200) := by rw [decide_eq_decide]; omega
   obtain ⟨t, ht⟩ : ∃ t, t = decide (n <= 200) := ⟨_, rfl⟩
   rw [<- ht] at hd ⊢
   have hnz : ((n : Int) == 0) = false := by rw [beq_eq_false_iff_ne]; omega
   clear hzz hA hn h0 ht
   cases s
   · go_enter Tryz.func70, Tryz.ntmps70
     go_wp2_with fail
     go_loopw [6, 7] (fun vv ii wr => ∃ (t : Nat) (i : Int), ii = .int .i64 i /\ Hid (i = (n : Int) - 1 - (t : Int)) /\ t <= n /\ wr.ownsRow w.heap.size 5 1 vv (([] : List UInt8) ++ (pad X n).take t).length ((([] : List UInt8) ++ (pad X n).take t).map bu) /\ Below w.heap.size w wr)
       (fun _ ii _ => (intOf ii + 1).toNat)
     case atStart => exact ⟨0, _, rfl, (by show _ = _; omega), Nat.zero_le _, World.ownsRow_nil _ _ _ _, Below.refl _ _⟩
     case round =>
       obtain ⟨t', i, rfl, HI, ht, hown, hbl⟩ := hrel
       have hlen := pad_take_length (X := X) ht ([] : List UInt8)
       have hbs := hbl.size
       by_cases hlt : t' < n
       · obtain ⟨k, hk⟩ : ∃ k : Nat, i = (k : Int) := ⟨i.toNat, by have := HI.out; omega⟩
         subst hk
         have hkt : k + t' + 1 = n := by have := HI.out; omega
         obtain ⟨b, o, rfl, hb, hc⟩ := (HA.out.below hbl).2 hp
         have hcell := hc k (by omega)
         have HT := Lib.hid (pad_take (X := X) hkt ([] : List UInt8))
         have hd10 := d10_lt X k
         have HDC := Lib.hid (show Value.int .u8 (48 + (d10 X k : Int)) = bu (dch (d10 X k)) from by unfold bu; rw [dch_nat hd10]; congr 1)
         obtain ⟨d, hdd⟩ : ∃ d, d = d10 X k := ⟨_, rfl⟩
         rw [<- hdd] at hcell HT hd10 HDC
         have q1 : (0 : Int) <= (k : Int) := by omega
         have q2 : (k : Int) < (n : Int) := by omega
         have HI2 : Hid ((k : Int) - 1 = (n : Int) - 1 - ((t' + 1 : Nat) : Int)) := by show _ = _; omega
         have hl2 : (([] : List UInt8) ++ (pad X n).take t').length <= 10001 := by rw [hlen]; simp only [List.length_nil]; omega
         obtain ⟨L, hL⟩ : ∃ L, L = ([] : List UInt8) ++ (pad X n).take t' := ⟨_, rfl⟩
         rw [<- hL] at hown HT hl2
         have HOWN := Lib.hid hown; have HBL := Lib.hid hbl
         clear hc hdd hkt HI hlen hL hown hbl
         go_wp2_with (at_builtin; refine wpList_append_own _ rfl _ _ 108 rfl w.heap.size 5 i0 (.int .u8 0) 1 1 Tryz.underlying108 hi hz0 hz1 hz2 rfl (by decide) _ _ _ rfl (HOWN.out.alloc _) ⟨wr.heap.size, 0, none⟩ 1 1 [.int .u8 (48 + (d : Int))] rfl rfl (cell_one_new _ _ _) (by simp [Value.oneCell']) (by unfold maxLen; omega) (by omega) (by simp; omega) ?_; intro v1 w1 hown1 hgrow1 _; have hB1 := ((HBL.out.alloc hbs _).grown hgrow1 (by simp; omega) (own_base HOWN.out)); have hown2 := own_push hown1 HDC.out; rw [<- HT.out] at hown2; have HOWN2 := Lib.hid hown2; have HB1 := Lib.hid hB1; clear hown1 hgrow1 hown2 hB1)
         go_roundw
         case rel => exact ⟨t' + 1, (k : Int) - 1, rfl, HI2.out, by omega, HOWN2.out, HB1.out⟩
         case measure => simp [intOf] <;> omega
       · obtain rfl : t' = n := by omega
         obtain rfl : i = -1 := by have := HI.out; omega
         rw [show (pad X t').take t' = pad X t' from List.take_of_length_le (by rw [pad_length]; omega)] at hown
         have hcv := run_string_own (P := Tryz.prog) 108 9 Tryz.underlying108 Tryz.underlying5 Tryz.underlying9 hown
         have hlv := hown
         clear hlen hown hlv
         have HBL := Lib.hid hbl
         clear hbl
         go_wp2_with fail
         go_ret2
         exact ⟨rfl, HBL.out⟩
   · go_enter Tryz.func70, Tryz.ntmps70
     go_wp2_with (at_builtin; refine wpList_append_own _ rfl _ _ 108 rfl w.heap.size 5 i0 (.int .u8 0) 1 1 Tryz.underlying108 hi hz0 hz1 hz2 rfl (by decide) _ _ _ rfl (World.ownsRow_nil _ _ _ _) ⟨w.heap.size, 0, none⟩ 1 1 [.int .u8 45] rfl rfl (cell_one_new _ _ _) (by simp [Value.oneCell']) (by unfold maxLen; omega) (by omega) (by simp) ?_; intro v0 w0 hown0 hgrow0 _; have hB0 := (((Below.refl w.heap.size w).alloc (Nat.le_refl _) _).grown hgrow0 (by simp) (fun k hk => by cases hk)); have H45 := Lib.hid (show w0.ownsRow w.heap.size 5 1 v0 ([45] ++ (pad X n).take 0).length (([45] ++ (pad X n).take 0).map bu) from hown0); have HB45 := Lib.hid hB0; clear hown0 hgrow0 hB0)
     go_loopw [6, 7] (fun vv ii wr => ∃ (t : Nat) (i : Int), ii = .int .i64 i /\ Hid (i = (n : Int) - 1 - (t : Int)) /\ t <= n /\ wr.ownsRow w.heap.size 5 1 vv (([45] : List UInt8) ++ (pad X n).take t).length ((([45] : List UInt8) ++ (pad X n).take t).map bu) /\ Below w.heap.size w wr)
       (fun _ ii _ => (intOf ii + 1).toNat)
     case atStart => exact ⟨0, _, rfl, (by show _ = _; omega), Nat.zero_le _, H45.out, HB45.out⟩
     case round =>
       obtain ⟨t', i, rfl, HI, ht, hown, hbl⟩ := hrel
       have hlen := pad_take_length (X := X) ht ([45] : List UInt8)
       have hbs := hbl.size
       by_cases hlt : t' < n
       · obtain ⟨k, hk⟩ : ∃ k : Nat, i = (k : Int) := ⟨i.toNat, by have := HI.out; omega⟩
         subst hk
         have hkt : k + t' + 1 = n := by have := HI.out; omega
         obtain ⟨b, o, rfl, hb, hc⟩ := (HA.out.below hbl).2 hp
         have hcell := hc k (by omega)
         have HT := Lib.hid (pad_take (X := X) hkt ([45] : List UInt8))
         have hd10 := d10_lt X k
         have HDC := Lib.hid (show Value.int .u8 (48 + (d10 X k : Int)) = bu (dch (d10 X k)) from by unfold bu; rw [dch_nat hd10]; congr 1)
         obtain ⟨d, hdd⟩ : ∃ d, d = d10 X k := ⟨_, rfl⟩
         rw [<- hdd] at hcell HT hd10 HDC
         have q1 : (0 : Int) <= (k : Int) := by omega
         have q2 : (k : Int) < (n : Int) := by omega
         have HI2 : Hid ((k : Int) - 1 = (n : Int) - 1 - ((t' + 1 : Nat) : Int)) := by show _ = _; omega
         have hl2 : (([45] : List UInt8) ++ (pad X n).take t').length <= 10001 := by rw [hlen]; simp only [List.length_nil, List.length_cons]; omega
         obtain ⟨L, hL⟩ : ∃ L, L = ([45] : List UInt8) ++ (pad X n).take t' := ⟨_, rfl⟩
         rw [<- hL] at hown HT hl2
         have HOWN := Lib.hid hown; have HBL := Lib.hid hbl
         clear hc hdd hkt HI hlen hL hown hbl
         go_wp2_with (at_builtin; refine wpList_append_own _ rfl _ _ 108 rfl w.heap.size 5 i0 (.int .u8 0) 1 1 Tryz.underlying108 hi hz0 hz1 hz2 rfl (by decide) _ _ _ rfl (HOWN.out.alloc _) ⟨wr.heap.size, 0, none⟩ 1 1 [.int .u8 (48 + (d : Int))] rfl rfl (cell_one_new _ _ _) (by simp [Value.oneCell']) (by unfold maxLen; omega) (by omega) (by simp; omega) ?_; intro v1 w1 hown1 hgrow1 _; have hB1 := ((HBL.out.alloc hbs _).grown hgrow1 (by simp; omega) (own_base HOWN.out)); have hown2 := own_push hown1 HDC.out; rw [<- HT.out] at hown2; have HOWN2 := Lib.hid hown2; have HB1 := Lib.hid hB1; clear hown1 hgrow1 hown2 hB1)
         go_roundw
         case rel => exact ⟨t' + 1, (k : Int) - 1, rfl, HI2.out, by omega, HOWN2.out, HB1.out⟩
         case measure => simp [intOf] <;> omega
       · obtain rfl : t' = n := by omega
         obtain rfl : i = -1 := by have := HI.out; omega
         rw [show (pad X t').take t' = pad X t' from List.take_of_length_le (by rw [pad_length]; omega)] at hown
         have hcv := run_string_own (P := Tryz.prog) 108 9 Tryz.underlying108 Tryz.underlying5 Tryz.underlying9 hown
         have hlv := hown
         clear hlen hown hlv
         have HBL := Lib.hid hbl
         clear hbl
         go_wp2_with fail
         go_ret2
         exact ⟨rfl, HBL.out⟩
theorem zS_rd {z : Int} (h : z.natAbs < 10 ^ 200) : rd (zS z).data.toList = some z := by rw [zS_list]; exact rd_zL h
theorem zS_small {z : Int} (h : z.natAbs < 10 ^ 200) : (zS z).size <= 1000 := by
 have := zS_size z
 have := glen_lim h
 omega
theorem zS_lit {z : Int} {L : List UInt8} (h : rd L = some z) : zS z = bs L := by unfold zS bs; rw [(rd_some h).1]
theorem zS_zero : zS 0 = ⟨#[48]⟩ := rfl
theorem zS_one : zS 1 = ⟨#[49]⟩ := zS_lit (L := [49]) (by decide +kernel)
theorem lim_some {z : Int} (h : z.natAbs < 10 ^ 200) : lim z = some z := by unfold lim; rw [if_pos h]
theorem abs_up {x : Int} {k l : Nat} (hx : x.natAbs < 10 ^ k) (h : k <= l) : x.natAbs < 10 ^ l := Nat.lt_of_lt_of_le hx (Nat.pow_le_pow_right (by omega) h)
section
variable (x y : Int) (w : World) (hx : x.natAbs < 10 ^ 200) (hy : y.natAbs < 10 ^ 200)
include hx hy
theorem zs : (zS x).size <= 9000000000000000000 /\ (zS y).size <= 9000000000000000000 := by
 have := zS_small hx; have := zS_small hy; omega
end
section
variable (x : Int) (w : World) (hx : x.natAbs < 10 ^ 200)
include hx
end
theorem zS_beq (x y : Int) (b : Bool) (h : b = decide (x = y)) : ((zS x).toList == (zS y).toList) = b := beq_list _ _ _ (by
 rw [zS_list, zS_list, h, decide_eq_decide]; exact ⟨fun h => by rw [h], fun h => zL_inj h⟩)
theorem Made.ok {z : Int} {k : Nat} (h : z.natAbs < 10 ^ k) (hk : k <= 200) : z.natAbs < 10 ^ 200 := abs_up h hk
end Go.Proofs.YtpjbihfkedbenaaGreat
