/- Package rational: the contracts of turn and of what it returns. Conditions: the cells read; the strings' lengths are ints. | Package rational: the contract of what reduce returns. Conditions: the cells read; the strings' lengths are ints. | Package rational: the contract of what reduce returns, at its own region. Conditions: the cells read; the strings' lengths are ints. | Package rational: the contract of fraction: a chain of steps, and what it leaves, reduced. Conditions: the cells read; the chain has a contract. | Package rational: the contracts of Make and Of. Condition: the strings' lengths are ints. | What the operations on fractions answer; the first error of a chain. No conditions. | Package rational: the contract of combined. Conditions: the strings' lengths are ints; the operation has a contract. | Package rational: the contracts of combined, Add and Sub. Condition: the strings' lengths are ints. -/
import Derived.Deep.RegionHeld3
import Derived.Test.YtpjbihfkedbenaaGreatGG
import Derived.Test.YtpjbihfkedbenaaGreatGA
namespace Go.Proofs.YtpjbihfkedbenaaGreat
open Go.RowKit Go.Lib
theorem set_ex (F : FuncId) (T : Nat) (x y : Addr) (w : World) :
   Calls Tryz.prog 76 #[.pointer (some ⟨T, 0, none⟩), .func (.func F) #[] #[], .pointer (some x), .pointer (some y)] w fun e w' => ∃ B, e = .returned (stepV B) /\ Cap w' B T F x y /\ w.heap.size <= B /\ B + 3 < w'.heap.size /\ Below w.heap.size w w' :=
 (set_any F T x y w).mono fun _ _ ⟨he, hc, hb, hs⟩ => ⟨w.heap.size, he, hc, Nat.le_refl _, by omega, hb⟩
def OutTwo (N D : Nat) (E : Int) (a b : ByteArray) (w : World) (e : Ending) (w' : World) : Prop :=
 e = .returned (.int .i64 E) /\ Onl (fun k => k = N ∨ k = D) w w' /\ (E = 0 -> Blk w' N 9 #[.string a] /\ Blk w' D 9 #[.string b])
def turnV (b : Nat) : Value := .func (.func 101) #[] #[at0 (b + 1), at0 b]
def reduceV (b : Nat) : Value := .func (.func 87) #[] #[at0 b, at0 (b + 1)]
theorem two_fresh (w : World) (t1 t2 : TypeId) (a b : Array Value) (W : World) (hW : W = ((w.alloc (.cells a t1)).alloc (.cells b t2))) :
   Blk W w.heap.size t1 a /\ Blk W (w.heap.size + 1) t2 b /\ Below w.heap.size w W /\ W.heap.size = w.heap.size + 2 := by
 subst hW
 have h2 := Blk.new (w.alloc (.cells a t1)) t2 b
 rw [show (w.alloc (.cells a t1)).heap.size = w.heap.size + 1 by simp] at h2
 exact ⟨(Blk.new w t1 a).alloc _, h2, ((Below.refl _ _).alloc (Nat.le_refl _) _).alloc (by simp) _, by simp⟩
set_option maxRecDepth 100000 in
theorem turn_any (N D : Nat) (w : World) :
   Calls Tryz.prog 88 #[at0 N, at0 D] w fun e w' => e = .returned (turnV w.heap.size) /\ Blk w' w.heap.size 85 #[at0 N] /\ Blk w' (w.heap.size + 1) 85 #[at0 D] /\ Below w.heap.size w w' /\ w'.heap.size = w.heap.size + 2 := by
 have hmf : ∀ (fn : Fn) (first cap : Array Value) (w : World), (Instr.makeFunc fn first cap).run Tryz.prog w = .ok (.func fn first cap) w := fun _ _ _ _ => rfl
 unfold at0
 go_enter Tryz.func88, Tryz.ntmps88
 go_wp2_with fail
 go_ret
 obtain ⟨h1, h2, hb, hs⟩ := two_fresh w 85 85 #[at0 N] #[at0 D] _ rfl
 exact ⟨rfl, h1, h2, hb, hs⟩
set_option maxRecDepth 100000 in
theorem reduce_any (N D : Nat) (w : World) :
   Calls Tryz.prog 72 #[at0 N, at0 D] w fun e w' => e = .returned (reduceV w.heap.size) /\ Blk w' w.heap.size 85 #[at0 N] /\ Blk w' (w.heap.size + 1) 85 #[at0 D] /\ Below w.heap.size w w' /\ w'.heap.size = w.heap.size + 2 := by
 have hmf : ∀ (fn : Fn) (first cap : Array Value) (w : World), (Instr.makeFunc fn first cap).run Tryz.prog w = .ok (.func fn first cap) w := fun _ _ _ _ => rfl
 unfold at0
 go_enter Tryz.func72, Tryz.ntmps72
 go_wp2_with fail
 go_ret
 obtain ⟨h1, h2, hb, hs⟩ := two_fresh w 85 85 #[at0 N] #[at0 D] _ rfl
 exact ⟨rfl, h1, h2, hb, hs⟩
set_option maxRecDepth 100000 in
set_option maxHeartbeats 2000000 in
theorem turn_run (bx N D : Nat) (a b : ByteArray) (w : World) (h0 : Blk w bx 85 #[at0 N]) (h1 : Blk w (bx + 1) 85 #[at0 D]) (hN : Blk w N 9 #[.string a]) (hD : Blk w D 9 #[.string b]) (hND : N ≠ D)
   (ha : a.size <= 9000000000000000000) (hb : b.size <= 9000000000000000000) :
   Calls Tryz.prog 101 #[at0 (bx + 1), at0 bx] w (OutTwo N D (turnE a b) (turnN a b) (turnD b) w) := by
 have c0 : w.cell? ⟨bx, 0, none⟩ = some (.pointer (some ⟨N, 0, none⟩)) := h0.cell (i := 0) rfl
 have c1 : w.cell? ⟨bx + 1, 0, none⟩ = some (.pointer (some ⟨D, 0, none⟩)) := h1.cell (i := 0) rfl
 have cD := hD.cell (i := 0) (v := .string b) rfl
 have hcm := compare_any b s48 w hb (by decide)
 obtain ⟨t, ht⟩ : ∃ t, t = tc b := ⟨_, rfl⟩
 have ht3 := tc_cases b
 rw [show cmpR b.data.toList s48.data.toList = tc b from rfl, <- ht] at hcm
 rw [<- ht] at ht3
 obtain ⟨E, hE⟩ : ∃ E, E = turnE a b := ⟨_, rfl⟩
 obtain ⟨tN, htN⟩ : ∃ E, E = turnN a b := ⟨_, rfl⟩
 obtain ⟨tD, htD⟩ : ∃ E, E = turnD b := ⟨_, rfl⟩
 rw [<- hE, <- htN, <- htD]
 unfold turnE at hE
 unfold turnN at htN
 unfold turnD at htD
 rw [<- ht] at hE htN htD
 have HE := Lib.hid hE; have HTN := Lib.hid htN; have HTD := Lib.hid htD
 clear hE htN htD
 have HC := Lib.hid hcm
 have HN := Lib.hid hN; have HD := Lib.hid hD
 have HK : Hid (∀ W, Below w.heap.size w W -> W.cell? ⟨bx, 0, none⟩ = some (.pointer (some ⟨N, 0, none⟩)) /\ W.cell? ⟨bx + 1, 0, none⟩ = some (.pointer (some ⟨D, 0, none⟩))) := fun W hW => ⟨(h0.below hW h0.lt).cell (i := 0) rfl, (h1.below hW h1.lt).cell (i := 0) rfl⟩
 have HK4 : Hid (∀ W, Onl (fun k => k = N ∨ k = D) w W -> W.cell? ⟨bx, 0, none⟩ = some (.pointer (some ⟨N, 0, none⟩)) /\ W.cell? ⟨bx + 1, 0, none⟩ = some (.pointer (some ⟨D, 0, none⟩))) := fun W hW => by
   have e1 : ∀ {k T : Nat} {s : ByteArray}, Blk w k 85 #[at0 T] -> Blk w N 9 #[.string a] -> k ≠ N := fun h h2 e => by subst e; unfold Blk at h h2; rw [h] at h2; cases h2
   have e2 : ∀ {k T : Nat} {s : ByteArray}, Blk w k 85 #[at0 T] -> Blk w D 9 #[.string b] -> k ≠ D := fun h h2 e => by subst e; unfold Blk at h h2; rw [h] at h2; cases h2
   exact ⟨(hW.blk h0 (fun h => h.elim (e1 (s := a) h0 hN) (e2 (s := a) h0 hD))).cell (i := 0) rfl, (hW.blk h1 (fun h => h.elim (e1 (s := a) h1 hN) (e2 (s := a) h1 hD))).cell (i := 0) rfl⟩
 clear hcm hN hD h0 h1 ht
 unfold at0 s48 at *
 rcases ht3 with rfl | rfl | rfl
 · clear hND
   go_enter Tryz.func101, Tryz.ntmps101
   go_wp2_with fail
   refine HC.out.mono ?_
   rintro e w1 ⟨rfl, hb1⟩
   go_wp2_with fail
   go_ret
   exact ⟨by rw [HE.out]; rfl, Onl.of_below hb1, fun h => by have h2 := HE.out; simp at h2; omega⟩
 · clear hND
   go_enter Tryz.func101, Tryz.ntmps101
   go_wp2_with fail
   refine HC.out.mono ?_
   rintro e w1 ⟨rfl, hb1⟩
   go_wp2_with fail
   go_ret
   exact ⟨by rw [HE.out]; rfl, Onl.of_below hb1, fun _ => ⟨(by rw [HTN.out]; exact HN.out.below hb1 HN.out.lt), (by rw [HTD.out]; exact HD.out.below hb1 HD.out.lt)⟩⟩
 · have HND := Lib.hid hND
   clear hND
   go_enter Tryz.func101, Tryz.ntmps101
   go_wp2_with fail
   refine HC.out.mono ?_
   rintro e w1 ⟨rfl, hb1⟩
   obtain ⟨k0, k1⟩ := HK.out w1 hb1
   have hbw : Below w.heap.size w (w1.alloc (.cells #[.string ⟨#[48]⟩] 9)) := hb1.alloc hb1.size _
   obtain ⟨kk0, kk1⟩ := HK.out _ hbw
   have HB1 := Lib.hid hb1; have HBW := Lib.hid hbw
   have HZ : Hid (Blk (w1.alloc (.cells #[.string ⟨#[48]⟩] 9)) w1.heap.size 9 #[.string ⟨#[48]⟩]) := Blk.new w1 _ _
   have hs1 := hb1.size
   clear hb1 hbw
   have hse := fun (T : Nat) (W : World) => set_ex 103 T ⟨w1.heap.size, 0, none⟩ ⟨T, 0, none⟩ W
   unfold stepV at0 at hse
   have HS := Lib.hid hse
   clear hse
   go_wp2_with fail
   have HFO : Hid (∀ W w2 w3 B1 B2, Below W.heap.size W w2 -> Cap w2 B1 N 103 ⟨w1.heap.size, 0, none⟩ ⟨N, 0, none⟩ -> W.heap.size <= B1 -> B1 + 3 < w2.heap.size -> Below w2.heap.size w2 w3 -> Cap w3 B2 D 103 ⟨w1.heap.size, 0, none⟩ ⟨D, 0, none⟩ -> w2.heap.size <= B2 -> B2 + 3 < w3.heap.size →
       ∀ o, o = .cells #[.func (.func 93) #[] #[.pointer (some ⟨B1 + 1, 0, none⟩), .pointer (some ⟨B1 + 2, 0, none⟩), .pointer (some ⟨B1 + 3, 0, none⟩), .pointer (some ⟨B1, 0, none⟩)], .func (.func 93) #[] #[.pointer (some ⟨B2 + 1, 0, none⟩), .pointer (some ⟨B2 + 2, 0, none⟩), .pointer (some ⟨B2 + 3, 0, none⟩), .pointer (some ⟨B2, 0, none⟩)]] 104 -> W = (w1.alloc (.cells #[.string ⟨#[48]⟩] 9)).drew -> Calls Tryz.prog 71 #[.slice (some ⟨w3.heap.size, 0, none⟩) 2 2] (w3.alloc o) (OutTwo N D E tN tD w)) := by
     intro W w2 w3 B1 B2 hb2 hc1 hl1 hm1 hb3 hc2 hl2 hm2 o ho hW
     subst ho hW
     have z1 : (w1.alloc (.cells #[.string ⟨#[48]⟩] 9)).drew.heap.size = w1.heap.size + 1 := by simp
     have hb4 : Below w3.heap.size w3 (w3.alloc (.cells #[stepV B1, stepV B2] 104)) := (Below.refl _ _).alloc (Nat.le_refl _) _
     have hbw2 := HBW.out.drew.trans (hb2.mono HBW.out.drew.size)
     have hbw3 := hbw2.trans (hb3.mono hbw2.size)
     have hbw4 := hbw3.trans (hb4.mono hbw3.size)
     have y1 := hb2.size; have y2 := hb3.size; have y3 := HB1.out.size
     have hz4 := ((HZ.out.drew.below hb2 (by omega)).below hb3 (by omega)).below hb4 (by omega)
     have hlN := HN.out.lt; have hlD := HD.out.lt
     refine (turn_chain w3.heap.size B1 B2 w1.heap.size N D a b _ ((hc1.below hb3 (by omega)).below hb4 (by omega)) (hc2.below hb4 (by omega)) hz4 (Blk.new w3 _ _) (HN.out.below hbw4 hlN) (HD.out.below hbw4 hlD) HND.out ⟨by omega, by omega, by omega, by omega, by omega, by omega, by omega, by omega⟩ ha hb).mono fun e w4 ⟨hm, h⟩ => ?_
     have hE : E = if okE (neg0 a) = 0 then okE (neg0 b) else okE (neg0 a) := by rw [HE.out]; simp
     refine ⟨?_, (Onl.of_below hbw4).trans hm, fun h0 => ?_⟩
     · rcases h with ⟨rfl, hall, -⟩ | ⟨i, hi, hpre, hne, rfl⟩
       · have e0 := hall 0 (by omega); have e1 := hall 1 (by omega)
         simp only [if_true] at e0
         simp at e1
         rw [hE, if_pos e0, e1]
       · match i, hi with
         | 0, _ =>
           simp only [if_true] at hne ⊢
           rw [hE, if_neg hne]
         | 1, _ =>
           have e0 := hpre 0 (by omega)
           simp only [if_true] at e0
           rw [hE, if_pos e0]; rfl
     · rcases h with ⟨rfl, hall, hI⟩ | ⟨i, hi, hpre, hne, rfl⟩
       · have hN4 := hI.2 N (okS (neg0 a)) (by simp [put, HND.out])
         have hD4 := hI.2 D (okS (neg0 b)) (by simp [put])
         refine ⟨?_, ?_⟩
         · rw [HTN.out]; exact hN4
         · rw [HTD.out]; exact hD4
       · exfalso
         match i, hi with
         | 0, _ =>
           simp only [if_true] at hne
           rw [hE, if_neg hne] at h0
           exact hne h0
         | 1, _ =>
           have e0 := hpre 0 (by omega)
           simp only [if_true] at e0
           rw [hE, if_pos e0] at h0
           exact hne h0
   go_region_held3 (fun w' => w'.cell? ⟨bx, 0, none⟩ = some (.pointer (some ⟨N, 0, none⟩)) /\ w'.cell? ⟨bx + 1, 0, none⟩ = some (.pointer (some ⟨D, 0, none⟩))) (first | exact HK4.out _ hb4 | exact HK.out _ hx3 | exact HK.out _ hx2 | exact ⟨kk0, kk1⟩ | go_keep)
     (first
       | (go_at_call 76; (with_reducible refine (HS.out N _).mono ?_); rintro e w2 ⟨B1, rfl, hc1, hl1, hm1, hb2⟩; have hx2 := HBW.out.drew.trans (hb2.mono HBW.out.drew.size); have HC1 := Lib.hid hc1; have HX2 := Lib.hid hx2; have HB2 := Lib.hid hb2; clear hc1 hb2)
       | (go_at_call 76; (with_reducible refine (HS.out D _).mono ?_); rintro e w3 ⟨B2, rfl, hc2, hl2, hm2, hb3⟩; have hx3 := HX2.out.trans (hb3.mono HX2.out.size); have HFO1 := HFO.out _ w2 w3 B1 B2 HB2.out HC1.out hl1 hm1 hb3 hc2 hl2 hm2 _ rfl rfl; have HX3 := Lib.hid hx3; clear hc2 hb3)
       | (go_at_call 71; (with_reducible refine HFO1.mono ?_); rintro e w4 ⟨rfl, hb4, h4⟩))
   all_goals
     have H4 := Lib.hid h4; have HB4 := Lib.hid hb4
     clear h4 hb4
     go_wp2_with fail
     go_ret
     exact ⟨rfl, HB4.out, H4.out⟩
def gcdO (a b : ByteArray) : Option Int := opR (fun x y => ((Nat.gcd x.natAbs y.natAbs : Nat) : Int)) a.data.toList b.data.toList
def quotO (a b : ByteArray) : Option Int := (divR a.data.toList b.data.toList).map (·.1)
def redG (a b : ByteArray) : Option Int := gcdO (turnN a b) (turnD b)
def redN (a b : ByteArray) : Option Int := quotO (turnN a b) (okS (redG a b))
def redD (a b : ByteArray) : Option Int := quotO (turnD b) (okS (redG a b))
def redE (a b : ByteArray) : Int := if turnE a b = 0 then (if okE (redG a b) = 0 then (if okE (redN a b) = 0 then okE (redD a b) else okE (redN a b)) else okE (redG a b)) else turnE a b
theorem mkR_yes {a b : List UInt8} {n d : Int} (h : rd a = some n) (h2 : rd b = some d) (h0 : d ≠ 0) : mkR a b = some (red n d) := by unfold mkR; rw [h, h2]; simp [h0]
theorem mkR_zero {a b : List UInt8} (h2 : rd b = some 0) : mkR a b = none := by unfold mkR; rw [h2]; cases rd a <;> rfl
theorem mkR_no1 {a b : List UInt8} (h : rd a = none) : mkR a b = none := by unfold mkR; rw [h]
theorem mkR_no2 {a b : List UInt8} (h : rd b = none) : mkR a b = none := by unfold mkR; rw [h]; cases rd a <;> rfl
theorem gcd_lim {n d : Int} (h0 : d ≠ 0) (h : d.natAbs < 10 ^ 200) : ((Nat.gcd n.natAbs d.natAbs : Nat) : Int).natAbs < 10 ^ 200 := by
 rw [Int.natAbs_natCast]
 exact Nat.lt_of_le_of_lt (Nat.le_of_dvd (by omega) (Nat.gcd_dvd_right _ _)) h
theorem red_core {a b : ByteArray} {n d : Int} (ha : rd a.data.toList = some n) (hb : rd b.data.toList = some d) (h0 : d ≠ 0) :
   gcdO a b = some ((Nat.gcd n.natAbs d.natAbs : Nat) : Int) /\ quotO a (zS ((Nat.gcd n.natAbs d.natAbs : Nat) : Int)) = some (n / ((Nat.gcd n.natAbs d.natAbs : Nat) : Int)) /\ quotO b (zS ((Nat.gcd n.natAbs d.natAbs : Nat) : Int)) = some (d / ((Nat.gcd n.natAbs d.natAbs : Nat) : Int)) := by
 have hg := @gcd_lim n d h0 (rd_some hb).2.1
 have hp := @gpos n d h0
 unfold gcdO quotO
 rw [opR_yes ha hb, lim_some hg, divR_yes ha (zS_rd hg) (by omega), divR_yes hb (zS_rd hg) (by omega)]
 exact ⟨rfl, rfl, rfl⟩
theorem redE_yes {a b : ByteArray} {n d : Int} (ha : rd a.data.toList = some n) (hb : rd b.data.toList = some d) (h0 : d ≠ 0) : redE a b = 0 /\ okS (redN a b) = zS (red n d).1 /\ okS (redD a b) = zS (red n d).2 := by
 have htc : tc b = ordI d 0 := by unfold tc s48; exact cmpR_yes hb rd_48
 rcases Int.lt_or_gt_of_ne h0 with hd | hd
 · have ht : tc b = -1 := by rw [htc, ordI_lt hd]
   have hn9 := (rd_some ha).2.1; have hd9 := (rd_some hb).2.1
   have e1 : neg0 a = some (-n) := by unfold neg0 s48; rw [opR_yes rd_48 ha, lim_some (by omega)]; simp
   have e2 : neg0 b = some (-d) := by unfold neg0 s48; rw [opR_yes rd_48 hb, lim_some (by omega)]; simp
   have eN : turnN a b = zS (-n) := by unfold turnN; rw [ht, e1]; rfl
   have eD : turnD b = zS (-d) := by unfold turnD; rw [ht, e2]; rfl
   have eE : turnE a b = 0 := by unfold turnE; rw [ht, e1, e2]; rfl
   have hN : rd (zS (-n)).data.toList = some (-n) := zS_rd (by omega)
   have hD : rd (zS (-d)).data.toList = some (-d) := zS_rd (by omega)
   obtain ⟨g1, g2, g3⟩ := red_core hN hD (by omega)
   rw [Int.natAbs_neg, Int.natAbs_neg] at g1 g2 g3
   have hs : sgcd n d = -((Nat.gcd n.natAbs d.natAbs : Nat) : Int) := by unfold sgcd; rw [if_pos hd]
   have hdv := @sgcd_dvd n d
   rw [hs] at hdv
   have d1 : ((Nat.gcd n.natAbs d.natAbs : Nat) : Int) ∣ n := (Int.neg_dvd).1 hdv.1
   have d2 : ((Nat.gcd n.natAbs d.natAbs : Nat) : Int) ∣ d := (Int.neg_dvd).1 hdv.2
   have f1 : redG a b = some ((Nat.gcd n.natAbs d.natAbs : Nat) : Int) := by unfold redG; rw [eN, eD]; exact g1
   have f2 : redN a b = some (-n / ((Nat.gcd n.natAbs d.natAbs : Nat) : Int)) := by unfold redN; rw [f1, eN]; exact g2
   have f3 : redD a b = some (-d / ((Nat.gcd n.natAbs d.natAbs : Nat) : Int)) := by unfold redD; rw [f1, eD]; exact g3
   refine ⟨by unfold redE; rw [eE, f1, f2, f3]; rfl, ?_, ?_⟩
   · rw [f2, Int.neg_ediv_of_dvd d1, <- Int.ediv_neg, <- hs]; rfl
   · rw [f3, Int.neg_ediv_of_dvd d2, <- Int.ediv_neg, <- hs]; rfl
 · have ht : tc b = 1 := by rw [htc, ordI_gt hd]
   have eN : turnN a b = a := by unfold turnN; rw [ht]; rfl
   have eD : turnD b = b := by unfold turnD; rw [ht]; rfl
   have eE : turnE a b = 0 := by unfold turnE; rw [ht]; rfl
   obtain ⟨g1, g2, g3⟩ := red_core ha hb h0
   have hs := @sgcd_pos n d hd
   have f1 : redG a b = some ((Nat.gcd n.natAbs d.natAbs : Nat) : Int) := by unfold redG; rw [eN, eD]; exact g1
   have f2 : redN a b = some (n / ((Nat.gcd n.natAbs d.natAbs : Nat) : Int)) := by unfold redN; rw [f1, eN]; exact g2
   have f3 : redD a b = some (d / ((Nat.gcd n.natAbs d.natAbs : Nat) : Int)) := by unfold redD; rw [f1, eD]; exact g3
   refine ⟨by unfold redE; rw [eE, f1, f2, f3]; rfl, ?_, ?_⟩
   · rw [f2]; unfold red; rw [hs]; rfl
   · rw [f3]; unfold red; rw [hs]; rfl
theorem redE_no {a b : ByteArray} (h : mkR a.data.toList b.data.toList = none) : redE a b ≠ 0 := by
 cases hb : rd b.data.toList with
 | none =>
   have ht : tc b = 0 := by unfold tc; exact cmpR_no1 hb
   have eE : turnE a b = 40 := by unfold turnE; rw [ht]; rfl
   unfold redE; rw [eE]; simp
 | some d =>
   have htc : tc b = ordI d 0 := by unfold tc s48; exact cmpR_yes hb rd_48
   by_cases h0 : d = 0
   · subst h0
     have ht : tc b = 0 := by rw [htc]; rfl
     have eE : turnE a b = 40 := by unfold turnE; rw [ht]; rfl
     unfold redE; rw [eE]; simp
   · cases ha : rd a.data.toList with
     | some n => rw [mkR_yes ha hb h0] at h; cases h
     | none =>
       rcases Int.lt_or_gt_of_ne h0 with hd | hd
       · have ht : tc b = -1 := by rw [htc, ordI_lt hd]
         have e1 : neg0 a = none := by unfold neg0 s48; rw [opR_no2 rd_48 ha]
         have eE : turnE a b = 30 := by unfold turnE; rw [ht, e1]; rfl
         unfold redE; rw [eE]; simp
       · have ht : tc b = 1 := by rw [htc, ordI_gt hd]
         have eN : turnN a b = a := by unfold turnN; rw [ht]; rfl
         have eE : turnE a b = 0 := by unfold turnE; rw [ht]; rfl
         have f1 : redG a b = none := by unfold redG gcdO; rw [eN, opR_no1 ha]
         unfold redE; rw [eE, f1]; simp [okE]
theorem turn_sizes {a b : ByteArray} (ha : a.size <= 9000000000000000000) (hb : b.size <= 9000000000000000000) : (turnN a b).size <= 9000000000000000000 /\ (turnD b).size <= 9000000000000000000 := by
 unfold turnN turnD neg0
 constructor
 · split
   · exact ha
   · exact okS_size
 · split
   · exact hb
   · exact okS_size
section
variable {S : Nat -> Prop} {W0 W : World} {σ : Nat -> Option ByteArray}
theorem two_inv {N D : Nat} {E : Int} {a b : ByteArray} {e : Ending} {W' : World} (hI : Inv S W0 σ W) (h : OutTwo N D E a b W e W') (hN : S N) (hD : S D) : e = .returned (.int .i64 E) /\ Onl S W0 W' /\ (E = 0 -> Inv S W0 (put (put σ N a) D b) W') := by
 obtain ⟨he, ho, hb⟩ := h
 have hO : Onl S W0 W' := hI.1.trans (ho.mono fun k _ hk => by rcases hk with rfl | rfl <;> assumption)
 refine ⟨he, hO, fun h0 => ⟨hO, fun k s hk => ?_⟩⟩
 obtain ⟨b1, b2⟩ := hb h0
 by_cases e1 : k = D
 · subst e1; rw [put_at] at hk; cases hk; exact b2
 · rw [put_ne e1] at hk
   by_cases e2 : k = N
   · subst e2; rw [put_at] at hk; cases hk; exact b1
   · rw [put_ne e2] at hk
     exact ho.blk (hI.2 k s hk) (fun h => h.elim e2 e1)
end
def redS (N D G : Nat) (a b : ByteArray) (i : Nat) : Nat -> Option ByteArray :=
 let s0 := put (put (put nos G ⟨#[]⟩) N a) D b
 let s1 := put (put s0 N (turnN a b)) D (turnD b)
 let s2 := put s1 G (okS (redG a b))
 let s3 := put s2 N (okS (redN a b))
 if i = 0 then s0 else if i = 1 then s1 else if i = 2 then s2 else if i = 3 then s3 else put s3 D (okS (redD a b))
set_option maxRecDepth 100000 in
theorem red_chain (g tb B1 B2 B3 N D G : Nat) (a b : ByteArray) (W : World) (h0 : Blk W tb 85 #[at0 N]) (h0' : Blk W (tb + 1) 85 #[at0 D]) (h1 : Cap W B1 G 89 ⟨N, 0, none⟩ ⟨D, 0, none⟩)
   (h2 : Cap W B2 N 90 ⟨N, 0, none⟩ ⟨G, 0, none⟩) (h3 : Cap W B3 D 90 ⟨D, 0, none⟩ ⟨G, 0, none⟩) (hG : Blk W G 9 #[.string ⟨#[]⟩])
   (hg : Blk W g 104 #[turnV tb, stepV B1, stepV B2, stepV B3]) (hN : Blk W N 9 #[.string a]) (hD : Blk W D 9 #[.string b]) (hND : N ≠ D) (hx : N < G /\ D < G /\ G < tb /\ G < B1 /\ G < B2 /\ G < B3 /\ G < g) (ha : a.size <= 9000000000000000000) (hb : b.size <= 9000000000000000000) :
   Calls Tryz.prog 71 #[.slice (some ⟨g, 0, none⟩) 4 4] W (OutFol (fun k => k = N ∨ k = D ∨ k = G) 4 (fun i => if i = 0 then turnE a b else if i = 1 then okE (redG a b) else if i = 2 then okE (redN a b) else okE (redD a b)) (fun i W' => Inv (fun k => k = N ∨ k = D ∨ k = G) W (redS N D G a b i) W') W) := by
 obtain ⟨t1, t2⟩ := turn_sizes ha hb
 have t3 : (okS (redG a b)).size <= 9000000000000000000 := okS_size
 have hDN := Ne.symm hND
 have n1 : N ≠ G := by omega
 have n2 : D ≠ G := by omega
 have n3 : G ≠ N := by omega
 have n4 : G ≠ D := by omega
 refine follow_any _ g 4 (fun i => if i = 0 then 101 else 93) (fun i => if i = 0 then #[at0 (tb + 1), at0 tb] else if i = 1 then #[at0 (B1 + 1), at0 (B1 + 2), at0 (B1 + 3), at0 B1] else if i = 2 then #[at0 (B2 + 1), at0 (B2 + 2), at0 (B2 + 3), at0 B2] else #[at0 (B3 + 1), at0 (B3 + 2), at0 (B3 + 3), at0 B3]) _ _ W (by omega) ((((Inv.nos W).put hG).put hN).put hD) ?_ ?_ ?_
 · intro i hi
   match i, hi with
   | 0, _ => exact enters_of Tryz.func101 (by kernel_rfl) rfl
   | 1, _ => exact enters_of Tryz.func93 (by kernel_rfl) rfl
   | 2, _ => exact enters_of Tryz.func93 (by kernel_rfl) rfl
   | 3, _ => exact enters_of Tryz.func93 (by kernel_rfl) rfl
 · intro i W' hi hI
   have hg2 := hI.1.blk hg (by omega)
   match i, hi with
   | 0, _ => exact hg2.cell (i := 0) rfl
   | 1, _ => exact hg2.cell (i := 1) rfl
   | 2, _ => exact hg2.cell (i := 2) rfl
   | 3, _ => exact hg2.cell (i := 3) rfl
 · intro i hi W' hI
   match i, hi with
   | 0, _ =>
     have i1 := hI.1.blk h0 (by omega); have i2 := hI.1.blk h0' (by omega)
     exact (turn_run tb N D a b W' i1 i2 (hI.2 N a (by simp [redS, put, hND])) (hI.2 D b (by simp [redS, put])) hND ha hb).mono fun e W2 h => two_inv hI h (.inl rfl) (.inr (.inl rfl))
   | 1, _ => exact set_inv op2_gcd B1 G ⟨N, 0, none⟩ ⟨D, 0, none⟩ (turnN a b) (turnD b) ⟨#[]⟩ h1 (.inl ⟨N, rfl, by simp [put, hND]⟩) (.inl ⟨D, rfl, by simp [put]⟩) (by simp [put, n3, n4]) (.inl (.inr (.inr rfl))) (fun k hk _ => by show ¬ (k = N ∨ k = D ∨ k = G); omega) t1 t2 hI
   | 2, _ => exact set_inv op2_quot B2 N ⟨N, 0, none⟩ ⟨G, 0, none⟩ (turnN a b) (okS (redG a b)) (turnN a b) h2 (.inl ⟨N, rfl, by simp [put, hND, n1]⟩) (.inl ⟨G, rfl, by simp [put]⟩) (by simp [put, hND, n1]) (.inl (.inl rfl)) (fun k hk _ => by show ¬ (k = N ∨ k = D ∨ k = G); omega) t1 t3 hI
   | 3, _ => exact set_inv op2_quot B3 D ⟨D, 0, none⟩ ⟨G, 0, none⟩ (turnD b) (okS (redG a b)) (turnD b) h3 (.inl ⟨D, rfl, by simp [put, hDN, n2]⟩) (.inl ⟨G, rfl, by simp [put, n3]⟩) (by simp [put, hDN, n2]) (.inl (.inr (.inl rfl))) (fun k hk _ => by show ¬ (k = N ∨ k = D ∨ k = G); omega) t2 t3 hI
theorem first4 {n : Nat} {e0 e1 e2 e3 E : Int} (hE : E = if e0 = 0 then (if e1 = 0 then (if e2 = 0 then e3 else e2) else e1) else e0) {S : Nat -> Prop} {I : Nat -> World -> Prop} {w w' : World} {e : Ending} (hn : n = 4)
   (h : OutFol S n (fun i => if i = 0 then e0 else if i = 1 then e1 else if i = 2 then e2 else e3) I w e w') : e = .returned (.int .i64 E) /\ Onl S w w' /\ (E = 0 -> I n w') := by
 subst hn
 obtain ⟨ho, ⟨rfl, hall, hI⟩ | ⟨i, hi, hpre, hne, rfl⟩⟩ := h
 · have a0 := hall 0 (by omega); have a1 := hall 1 (by omega); have a2 := hall 2 (by omega); have a3 := hall 3 (by omega)
   simp at a0 a1 a2 a3
   exact ⟨by rw [hE, if_pos a0, if_pos a1, if_pos a2, a3], ho, fun _ => hI⟩
 · match i, hi with
   | 0, _ =>
     simp at hne
     exact ⟨by rw [hE, if_neg hne]; rfl, ho, fun h => absurd (by rw [hE, if_neg hne] at h; exact h) hne⟩
   | 1, _ =>
     have a0 := hpre 0 (by omega)
     simp at hne a0
     exact ⟨by rw [hE, if_pos a0, if_neg hne]; rfl, ho, fun h => absurd (by rw [hE, if_pos a0, if_neg hne] at h; exact h) hne⟩
   | 2, _ =>
     have a0 := hpre 0 (by omega); have a1 := hpre 1 (by omega)
     simp at hne a0 a1
     exact ⟨by rw [hE, if_pos a0, if_pos a1, if_neg hne]; rfl, ho, fun h => absurd (by rw [hE, if_pos a0, if_pos a1, if_neg hne] at h; exact h) hne⟩
   | 3, _ =>
     have a0 := hpre 0 (by omega); have a1 := hpre 1 (by omega); have a2 := hpre 2 (by omega)
     simp at hne a0 a1 a2
     exact ⟨by rw [hE, if_pos a0, if_pos a1, if_pos a2]; rfl, ho, fun h => absurd (by rw [hE, if_pos a0, if_pos a1, if_pos a2] at h; exact h) hne⟩
theorem turn_ex (N D : Nat) (w : World) :
   Calls Tryz.prog 88 #[.pointer (some ⟨N, 0, none⟩), .pointer (some ⟨D, 0, none⟩)] w fun e w' => ∃ B, e = .returned (turnV B) /\ (Blk w' B 85 #[at0 N] /\ Blk w' (B + 1) 85 #[at0 D]) /\ w.heap.size <= B /\ B + 1 < w'.heap.size /\ Below w.heap.size w w' :=
 (turn_any N D w).mono fun _ _ ⟨he, h1, h2, hb, hs⟩ => ⟨w.heap.size, he, ⟨h1, h2⟩, Nat.le_refl _, by omega, hb⟩
theorem ptr_ne {w : World} {k T N : Nat} {a : ByteArray} (h : Blk w k 85 #[at0 T]) (h2 : Blk w N 9 #[.string a]) : k ≠ N := fun e => by subst e; unfold Blk at h h2; rw [h] at h2; cases h2
def stepW (B : Nat) : Value := .func (.func 93) #[] #[.pointer (some ⟨B + 1, 0, none⟩), .pointer (some ⟨B + 2, 0, none⟩), .pointer (some ⟨B + 3, 0, none⟩), .pointer (some ⟨B, 0, none⟩)]
set_option maxRecDepth 100000 in
set_option maxHeartbeats 4000000 in
theorem reduce_run (bx N D : Nat) (a b : ByteArray) (w : World) (h0 : Blk w bx 85 #[at0 N]) (h1 : Blk w (bx + 1) 85 #[at0 D]) (hN : Blk w N 9 #[.string a]) (hD : Blk w D 9 #[.string b]) (hND : N ≠ D)
   (ha : a.size <= 9000000000000000000) (hb : b.size <= 9000000000000000000) :
   Calls Tryz.prog 87 #[at0 bx, at0 (bx + 1)] w (OutTwo N D (redE a b) (okS (redN a b)) (okS (redD a b)) w) := by
 have c0 : w.cell? ⟨bx, 0, none⟩ = some (.pointer (some ⟨N, 0, none⟩)) := h0.cell (i := 0) rfl
 have c1 : w.cell? ⟨bx + 1, 0, none⟩ = some (.pointer (some ⟨D, 0, none⟩)) := h1.cell (i := 0) rfl
 obtain ⟨E, hE⟩ : ∃ E, E = redE a b := ⟨_, rfl⟩
 obtain ⟨tN, htN⟩ : ∃ E, E = okS (redN a b) := ⟨_, rfl⟩
 obtain ⟨tD, htD⟩ : ∃ E, E = okS (redD a b) := ⟨_, rfl⟩
 rw [<- hE, <- htN, <- htD]
 have HE := Lib.hid hE; have HTN := Lib.hid htN; have HTD := Lib.hid htD
 clear hE htN htD
 have HN := Lib.hid hN; have HD := Lib.hid hD; have HND := Lib.hid hND
 have HK : Hid (∀ W, Below w.heap.size w W -> W.cell? ⟨bx, 0, none⟩ = some (.pointer (some ⟨N, 0, none⟩)) /\ W.cell? ⟨bx + 1, 0, none⟩ = some (.pointer (some ⟨D, 0, none⟩))) := fun W hW => ⟨(h0.below hW h0.lt).cell (i := 0) rfl, (h1.below hW h1.lt).cell (i := 0) rfl⟩
 have HK4 : Hid (∀ W, Onl (fun k => k = N ∨ k = D) w W -> W.cell? ⟨bx, 0, none⟩ = some (.pointer (some ⟨N, 0, none⟩)) /\ W.cell? ⟨bx + 1, 0, none⟩ = some (.pointer (some ⟨D, 0, none⟩))) := fun W hW =>
   ⟨(hW.blk h0 (fun h => h.elim (ptr_ne h0 hN) (ptr_ne h0 hD))).cell (i := 0) rfl, (hW.blk h1 (fun h => h.elim (ptr_ne h1 hN) (ptr_ne h1 hD))).cell (i := 0) rfl⟩
 clear hN hD h0 h1 hND
 have hbw : Below w.heap.size w (w.alloc (.cells #[.string ⟨#[]⟩] 9)) := (Below.refl _ _).alloc (Nat.le_refl _) _
 obtain ⟨kk0, kk1⟩ := HK.out _ hbw
 have HBW := Lib.hid hbw
 have HG : Hid (Blk (w.alloc (.cells #[.string ⟨#[]⟩] 9)) w.heap.size 9 #[.string ⟨#[]⟩]) := Blk.new w _ _
 have hsg := fun (W : World) => set_ex 89 w.heap.size ⟨N, 0, none⟩ ⟨D, 0, none⟩ W
 have hsq := fun (T : Nat) (W : World) => set_ex 90 T ⟨T, 0, none⟩ ⟨w.heap.size, 0, none⟩ W
 have htu := fun W => turn_ex N D W
 unfold stepV at0 at hsg hsq
 unfold turnV at htu
 unfold at0 at htu
 have HSG := Lib.hid hsg; have HSQ := Lib.hid hsq; have HT := Lib.hid htu
 clear hbw hsg hsq htu
 have HFO : Hid (∀ W w1 w2 w3 w4 tb B1 B2 B3, W = (w.alloc (.cells #[.string ⟨#[]⟩] 9)).drew -> Below W.heap.size W w1 -> (Blk w1 tb 85 #[at0 N] /\ Blk w1 (tb + 1) 85 #[at0 D]) -> W.heap.size <= tb -> tb + 1 < w1.heap.size →
     Below w1.heap.size w1 w2 -> Cap w2 B1 w.heap.size 89 ⟨N, 0, none⟩ ⟨D, 0, none⟩ -> w1.heap.size <= B1 -> B1 + 3 < w2.heap.size →
     Below w2.heap.size w2 w3 -> Cap w3 B2 N 90 ⟨N, 0, none⟩ ⟨w.heap.size, 0, none⟩ -> w2.heap.size <= B2 -> B2 + 3 < w3.heap.size →
     Below w3.heap.size w3 w4 -> Cap w4 B3 D 90 ⟨D, 0, none⟩ ⟨w.heap.size, 0, none⟩ -> w3.heap.size <= B3 -> B3 + 3 < w4.heap.size →
     ∀ o, o = .cells #[.func (.func 101) #[] #[.pointer (some ⟨tb + 1, 0, none⟩), .pointer (some ⟨tb, 0, none⟩)], stepW B1, stepW B2, stepW B3] 104 →
     Calls Tryz.prog 71 #[.slice (some ⟨w4.heap.size, 0, none⟩) 4 4] (w4.alloc o) (OutTwo N D E tN tD w)) := by
   intro W w1 w2 w3 w4 tb B1 B2 B3 hW hb1 ht hl1 hm1 hb2 hc1 hl2 hm2 hb3 hc2 hl3 hm3 hb4 hc3 hl4 hm4 o ho
   subst hW ho
   have z1 : (w.alloc (.cells #[.string ⟨#[]⟩] 9)).drew.heap.size = w.heap.size + 1 := by simp
   have hb5 : Below w4.heap.size w4 (w4.alloc (.cells #[turnV tb, stepV B1, stepV B2, stepV B3] 104)) := (Below.refl _ _).alloc (Nat.le_refl _) _
   have y1 := hb1.size; have y2 := hb2.size; have y3 := hb3.size; have y4 := hb4.size; have y5 := hb5.size
   have g45 := hb5
   have g35 := hb4.trans (g45.mono y4)
   have g25 := hb3.trans (g35.mono y3)
   have g15 := hb2.trans (g25.mono y2)
   have g05 := hb1.trans (g15.mono y1)
   have gw5 := HBW.out.drew.trans (g05.mono HBW.out.drew.size)
   have hlN := HN.out.lt; have hlD := HD.out.lt
   refine (red_chain w4.heap.size tb B1 B2 B3 N D w.heap.size a b _ (ht.1.below g15 (by omega)) (ht.2.below g15 (by omega)) (hc1.below g25 (by omega)) (hc2.below g35 (by omega)) (hc3.below g45 (by omega)) (HG.out.drew.below g05 (by omega)) (Blk.new w4 _ _) (HN.out.below gw5 hlN) (HD.out.below gw5 hlD) HND.out
     ⟨hlN, hlD, by omega, by omega, by omega, by omega, by omega⟩ ha hb).mono fun e w5 h => ?_
   obtain ⟨he, ho, hI⟩ := first4 (E := E) HE.out rfl h
   refine ⟨he, ((Onl.of_below gw5).trans ho).mono (fun k hk h => ?_), fun h0 => ?_⟩
   · rcases h with h | h | h
     · exact .inl h
     · exact .inr h
     · omega
   · have hI2 := hI h0
     have hN4 := hI2.2 N (okS (redN a b)) (by simp [redS, put, HND.out])
     have hD4 := hI2.2 D (okS (redD a b)) (by simp [redS, put])
     refine ⟨?_, ?_⟩
     · rw [HTN.out]; exact hN4
     · rw [HTD.out]; exact hD4
 unfold stepW at HFO
 unfold at0
 go_enter Tryz.func87, Tryz.ntmps87
 go_wp2_with fail
 go_region_held3 (fun w' => w'.cell? ⟨bx, 0, none⟩ = some (.pointer (some ⟨N, 0, none⟩)) /\ w'.cell? ⟨bx + 1, 0, none⟩ = some (.pointer (some ⟨D, 0, none⟩))) (first | exact HK4.out _ hb9 | exact HK.out _ hx4 | exact HK.out _ hx3 | exact HK.out _ hx2 | exact HK.out _ hx1 | exact ⟨kk0, kk1⟩ | go_keep)
   (first
     | (go_at_call 88; (with_reducible refine (HT.out _).mono ?_); rintro e w1 ⟨tb, rfl, hct, hl0, hm0, hb1⟩; have hx1 := HBW.out.drew.trans (hb1.mono HBW.out.drew.size); have HCT := Lib.hid hct; have HX1 := Lib.hid hx1; have HB1 := Lib.hid hb1; clear hct hb1)
     | (go_at_call 76; (with_reducible refine (HSG.out _).mono ?_); rintro e w2 ⟨B1, rfl, hc1, hl1, hm1, hb2⟩; have hx2 := HX1.out.trans (hb2.mono HX1.out.size); have HC1 := Lib.hid hc1; have HX2 := Lib.hid hx2; have HB2 := Lib.hid hb2; clear hc1 hb2)
     | (go_at_call 76; (with_reducible refine (HSQ.out N _).mono ?_); rintro e w3 ⟨B2, rfl, hc2, hl2, hm2, hb3⟩; have hx3 := HX2.out.trans (hb3.mono HX2.out.size); have HC2 := Lib.hid hc2; have HX3 := Lib.hid hx3; have HB3 := Lib.hid hb3; clear hc2 hb3)
     | (go_at_call 76; (with_reducible refine (HSQ.out D _).mono ?_); rintro e w4 ⟨B3, rfl, hc3, hl3, hm3, hb4⟩; have hx4 := HX3.out.trans (hb4.mono HX3.out.size); have HFO1 := HFO.out _ w1 w2 w3 w4 tb B1 B2 B3 rfl HB1.out HCT.out hl0 hm0 HB2.out HC1.out hl1 hm1 HB3.out HC2.out hl2 hm2 hb4 hc3 hl3 hm3 _ rfl; clear hc3 hb4)
     | (go_at_call 71; (with_reducible refine HFO1.mono ?_); rintro e w5 ⟨rfl, hb9, h9⟩))
 all_goals
   have H9 := Lib.hid h9; have HB9 := Lib.hid hb9
   clear h9 hb9
   go_wp2_with fail
   go_ret
   exact ⟨rfl, HB9.out, H9.out⟩
theorem reduce_ex (N D : Nat) (w : World) :
   Calls Tryz.prog 72 #[.pointer (some ⟨N, 0, none⟩), .pointer (some ⟨D, 0, none⟩)] w fun e w' => ∃ B, e = .returned (reduceV B) /\ (Blk w' B 85 #[at0 N] /\ Blk w' (B + 1) 85 #[at0 D]) /\ w.heap.size <= B /\ B + 1 < w'.heap.size /\ Below w.heap.size w w' :=
 (reduce_any N D w).mono fun _ _ ⟨he, h1, h2, hb, hs⟩ => ⟨w.heap.size, he, ⟨h1, h2⟩, Nat.le_refl _, by omega, hb⟩
set_option maxRecDepth 100000 in
theorem reduce_chain (g b N D : Nat) (x y : ByteArray) (W : World) (h0 : Blk W b 85 #[at0 N]) (h1 : Blk W (b + 1) 85 #[at0 D]) (hg : Blk W g 104 #[reduceV b]) (hN : Blk W N 9 #[.string x]) (hD : Blk W D 9 #[.string y]) (hND : N ≠ D) (hgN : N ≠ g /\ D ≠ g)
   (hx : x.size <= 9000000000000000000) (hy : y.size <= 9000000000000000000) :
   Calls Tryz.prog 71 #[.slice (some ⟨g, 0, none⟩) 1 1] W (OutTwo N D (redE x y) (okS (redN x y)) (okS (redD x y)) W) := by
 refine (follow_any (fun k => k = N ∨ k = D) g 1 (fun _ => 87) (fun _ => #[at0 b, at0 (b + 1)]) (fun _ => redE x y) (fun i W' => Onl (fun k => k = N ∨ k = D) W W' /\ if i = 0 then W' = W else Blk W' N 9 #[.string (okS (redN x y))] /\ Blk W' D 9 #[.string (okS (redD x y))]) W (by omega) ⟨Onl.refl _ _, rfl⟩
   (fun _ _ => enters_of Tryz.func87 (by kernel_rfl) rfl) ?_ ?_).mono fun e W' h => ?_
 · intro i W' hi hI
   match i, hi with
   | 0, _ => exact (hI.1.blk hg (by omega)).cell (i := 0) rfl
 · intro i hi W' hI
   match i, hi with
   | 0, _ =>
     have hW : W' = W := hI.2
     subst hW
     exact (reduce_run b N D x y W' h0 h1 hN hD hND hx hy).mono fun e W2 ⟨he, ho, hb⟩ => ⟨he, ho, fun h => ⟨ho, hb h⟩⟩
 · obtain ⟨ho, ⟨rfl, hall, hI⟩ | ⟨i, hi, hpre, hne, rfl⟩⟩ := h
   · have h0 : redE x y = 0 := hall 0 (by omega)
     exact ⟨by rw [h0], ho, fun _ => hI.2⟩
   · exact ⟨rfl, ho, fun h => absurd h hne⟩
theorem red_result (a b : ByteArray) : (∃ q, mkR a.data.toList b.data.toList = some q /\ redE a b = 0 /\ okS (redN a b) = zS q.1 /\ okS (redD a b) = zS q.2) ∨ (mkR a.data.toList b.data.toList = none /\ redE a b ≠ 0) := by
 cases h : mkR a.data.toList b.data.toList with
 | none => exact .inr ⟨rfl, redE_no h⟩
 | some q =>
   refine .inl ⟨q, rfl, ?_⟩
   cases ha : rd a.data.toList with
   | none => rw [mkR_no1 ha] at h; cases h
   | some n =>
     cases hb : rd b.data.toList with
     | none => rw [mkR_no2 hb] at h; cases h
     | some d =>
       by_cases h0 : d = 0
       · subst h0; rw [mkR_zero hb] at h; cases h
       · rw [mkR_yes ha hb h0] at h
         cases h
         exact redE_yes ha hb h0
set_option maxRecDepth 100000 in
set_option maxHeartbeats 4000000 in
theorem frac_any (S : Nat -> Prop) (N D : Nat) (A : Value) (E : Int) (x y : ByteArray) (w : World) (hS : ∀ k, S k -> k < w.heap.size) (hN : N < w.heap.size) (hD : D < w.heap.size) (hND : N ≠ D) (hx : x.size <= 9000000000000000000) (hy : y.size <= 9000000000000000000)
   (hch : ∀ W, Below w.heap.size w W -> Calls Tryz.prog 71 #[A] W fun e W' => e = .returned (.int .i64 E) /\ Onl S W W' /\ (E = 0 -> Blk W' N 9 #[.string x] /\ Blk W' D 9 #[.string y]))
   (r : Option (Int × Int)) (hr : r = if E = 0 then mkR x.data.toList y.data.toList else none) :
   Calls Tryz.prog 60 #[at0 N, at0 D, A] w fun e w' => e = .returned (.tuple #[fV (qN r) (qD r), .int .i64 (qE r)]) /\ Onl (fun k => S k ∨ k = N ∨ k = D) w w' := by
 have hw0 : Below w.heap.size w (w.alloc (.cells #[.string ⟨#[]⟩, .string ⟨#[]⟩] 48)) := (Below.refl _ _).alloc (Nat.le_refl _) _
 have hR := Blk.new w 48 #[.string ⟨#[]⟩, .string ⟨#[]⟩]
 have hc := hch _ hw0
 have HR := Lib.hid hR; have HC := Lib.hid hc; have HW0 := Lib.hid hw0; have HS := Lib.hid hS
 clear hch hR hc hw0 hS
 by_cases hE : E = 0
 · subst hE
   rw [if_pos rfl] at hr
   subst hr
   have hcase := red_result x y
   obtain ⟨E2, hE2⟩ : ∃ E2, E2 = redE x y := ⟨_, rfl⟩
   obtain ⟨zN, hzN⟩ : ∃ z, z = okS (redN x y) := ⟨_, rfl⟩
   obtain ⟨zD, hzD⟩ : ∃ z, z = okS (redD x y) := ⟨_, rfl⟩
   obtain ⟨q, hq⟩ : ∃ q, q = mkR x.data.toList y.data.toList := ⟨_, rfl⟩
   rw [<- hE2, <- hzN, <- hzD, <- hq] at hcase
   rw [<- hq]
   have HE2 := Lib.hid hE2; have HZN := Lib.hid hzN; have HZD := Lib.hid hzD
   have hrx := fun W => reduce_ex N D W
   unfold reduceV at0 at hrx
   have HRX := Lib.hid hrx
   have HND := Lib.hid hND
   have HFO : Hid (∀ w1 w2 B, Onl S (w.alloc (.cells #[.string ⟨#[]⟩, .string ⟨#[]⟩] 48)) w1 -> Blk w1 N 9 #[.string x] -> Blk w1 D 9 #[.string y] -> Below w1.heap.size w1 w2 -> (Blk w2 B 85 #[at0 N] /\ Blk w2 (B + 1) 85 #[at0 D]) -> w1.heap.size <= B -> B + 1 < w2.heap.size →
       ∀ o, o = .cells #[.func (.func 87) #[] #[.pointer (some ⟨B, 0, none⟩), .pointer (some ⟨B + 1, 0, none⟩)]] 104 →
       Calls Tryz.prog 71 #[.slice (some ⟨w2.heap.size, 0, none⟩) 1 1] (w2.alloc o) fun e w' => e = .returned (.int .i64 E2) /\ Onl (fun k => S k ∨ k = N ∨ k = D) w w' /\ Blk w' w.heap.size 48 #[.string ⟨#[]⟩, .string ⟨#[]⟩] /\ (E2 = 0 -> Blk w' N 9 #[.string zN] /\ Blk w' D 9 #[.string zD])) := by
     intro w1 w2 B ho hN1 hD1 hb2 hcap hl1 hm1 o hoo
     subst hoo
     have hb3 : Below w2.heap.size w2 (w2.alloc (.cells #[reduceV B] 104)) := (Below.refl _ _).alloc (Nat.le_refl _) _
     have y2 := hb2.size
     have hb23 := hb2.trans (hb3.mono y2)
     have z0 := ho.size
     have z1 : (w.alloc (.cells #[.string ⟨#[]⟩, .string ⟨#[]⟩] 48)).heap.size = w.heap.size + 1 := by simp
     refine (reduce_chain w2.heap.size B N D x y _ (hcap.1.below hb3 (by omega)) (hcap.2.below hb3 (by omega)) (Blk.new w2 _ _) (hN1.below hb23 hN1.lt) (hD1.below hb23 hD1.lt) HND.out (by omega) hx hy).mono fun e w' ⟨he, ho2, hbb⟩ => ?_
     have o1 : Onl (fun k => S k ∨ k = N ∨ k = D) w (w2.alloc (.cells #[reduceV B] 104)) := ((Onl.of_below HW0.out).trans (ho.mono fun k _ h => .inl h)).below hb23
     refine ⟨by rw [HE2.out]; exact he, o1.trans (ho2.mono fun k _ h => .inr h), ?_, fun h0 => ?_⟩
     · have r1 := ho.blk HR.out (fun h => by have := HS.out _ h; omega)
       exact ho2.blk (r1.below hb23 r1.lt) (by omega)
     · rw [HZN.out, HZD.out]; exact hbb (by rw [<- HE2.out]; exact h0)
   clear hE2 hzN hzD hq hrx hND
   rcases hcase with ⟨q2, rfl, rfl, rfl, rfl⟩ | ⟨rfl, hne⟩
   · unfold at0
     go_enter Tryz.func60, Tryz.ntmps60
     go_wp2_with fail
     refine HC.out.mono ?_
     rintro e w1 ⟨rfl, ho, hbb⟩
     have HO := Lib.hid ho; have HBB := Lib.hid (hbb trivial)
     clear ho hbb
     go_wp2_with fail
     refine (HRX.out _).mono ?_
     rintro e w2 ⟨B, rfl, hcap, hl1, hm1, hb2⟩
     have HF1 := Lib.hid (HFO.out w1 w2 B HO.out HBB.out.1 HBB.out.2 hb2 hcap hl1 hm1 _ rfl)
     clear hcap hl1 hm1 hb2
     go_wp2_with fail
     refine HF1.out.mono ?_
     rintro e w3 ⟨rfl, ho3, hR3, hbb3⟩
     have b3 := hbb3 trivial
     have cN := b3.1.cell (i := 0) (v := .string (zS q2.1)) rfl
     have cD := b3.2.cell (i := 0) (v := .string (zS q2.2)) rfl
     have x0 := hR3.cell (i := 0) rfl; have x1 := hR3.cell (i := 1) rfl
     have f0 := hR3.frozen 0; have f1 := hR3.frozen 1
     obtain ⟨r0, r1⟩ := hR3.two (u := .string (zS q2.1)) (v := .string (zS q2.2))
     have HO3 := Lib.hid ((ho3.setCell (p := ⟨w.heap.size, 0, none⟩) (Nat.le_refl _) (.string (zS q2.1))).setCell (p := ⟨w.heap.size, 1, none⟩) (Nat.le_refl _) (.string (zS q2.2)))
     have hne1 : w.heap.size ≠ N := by omega
     have hne2 : w.heap.size ≠ D := by omega
     clear ho3 hR3 hbb3 b3
     go_wp2_with fail
     go_region_held3 (fun w' => w'.cell? ⟨N, 0, none⟩ = some (.string (zS q2.1)) /\ w'.cell? ⟨D, 0, none⟩ = some (.string (zS q2.2))) (go_keep) (fail)
     all_goals
       go_wp2_with fail
       exact bodyPost_ret (v := .tuple #[.agg #[.string (zS q2.1), .string (zS q2.2)], .int .i64 0]) (by simp [results, Tryz.results60, go_sem, r0, r1]) rfl ⟨rfl, HO3.out.drew⟩
   · have hE3 : (E2 == 0) = false := by simp [hne]
     unfold at0
     go_enter Tryz.func60, Tryz.ntmps60
     go_wp2_with fail
     refine HC.out.mono ?_
     rintro e w1 ⟨rfl, ho, hbb⟩
     have HO := Lib.hid ho; have HBB := Lib.hid (hbb trivial)
     clear ho hbb
     go_wp2_with fail
     refine (HRX.out _).mono ?_
     rintro e w2 ⟨B, rfl, hcap, hl1, hm1, hb2⟩
     have HF1 := Lib.hid (HFO.out w1 w2 B HO.out HBB.out.1 HBB.out.2 hb2 hcap hl1 hm1 _ rfl)
     clear hcap hl1 hm1 hb2
     go_wp2_with fail
     refine HF1.out.mono ?_
     rintro e w3 ⟨rfl, ho3, hR3, -⟩
     have x0 := hR3.cell (i := 0) rfl; have x1 := hR3.cell (i := 1) rfl
     have f0 := hR3.frozen 0; have f1 := hR3.frozen 1
     obtain ⟨r0, r1⟩ := hR3.two (u := .string ⟨#[]⟩) (v := .string ⟨#[]⟩)
     have HO3 := Lib.hid ((ho3.setCell (p := ⟨w.heap.size, 0, none⟩) (Nat.le_refl _) (.string ⟨#[]⟩)).setCell (p := ⟨w.heap.size, 1, none⟩) (Nat.le_refl _) (.string ⟨#[]⟩))
     clear ho3 hR3
     go_wp2_with fail
     exact bodyPost_ret (v := .tuple #[.agg #[.string ⟨#[]⟩, .string ⟨#[]⟩], .int .i64 40]) (by simp [results, Tryz.results60, go_sem, r0, r1]) rfl ⟨rfl, HO3.out⟩
 · rw [if_neg hE] at hr
   subst hr
   have hE2 : (E == 0) = false := by simp [hE]
   unfold at0
   go_enter Tryz.func60, Tryz.ntmps60
   go_wp2_with fail
   refine HC.out.mono ?_
   rintro e w1 ⟨rfl, ho, -⟩
   have hR1 := ho.blk HR.out (fun h => by have := HS.out _ h; omega)
   have x0 := hR1.cell (i := 0) rfl; have x1 := hR1.cell (i := 1) rfl
   have f0 := hR1.frozen 0; have f1 := hR1.frozen 1
   have HO := Lib.hid (((Onl.of_below HW0.out).trans ho).mono (S' := fun k => S k ∨ k = N ∨ k = D) fun k _ h => .inl h)
   have HR1 := Lib.hid hR1
   clear ho hR1
   go_wp2_with fail
   obtain ⟨r0, r1⟩ := HR1.out.two (u := .string ⟨#[]⟩) (v := .string ⟨#[]⟩)
   exact bodyPost_ret (v := .tuple #[.agg #[.string ⟨#[]⟩, .string ⟨#[]⟩], .int .i64 40]) (by simp [results, Tryz.results60, go_sem, r0, r1]) rfl ⟨rfl, (HO.out.setCell (p := ⟨w.heap.size, 0, none⟩) (Nat.le_refl _) _).setCell (p := ⟨w.heap.size, 1, none⟩) (Nat.le_refl _) _⟩
set_option maxRecDepth 100000 in
set_option maxHeartbeats 2000000 in
theorem make_any (a b : ByteArray) (w : World) (ha : a.size <= 9000000000000000000) (hb : b.size <= 9000000000000000000) :
   Calls Tryz.prog 51 #[.string a, .string b] w (OutFr (mkR a.data.toList b.data.toList) w) := by
 obtain ⟨W, hW⟩ : ∃ W, W = (((w.alloc (.cells #[.string a] 9)).alloc (.cells #[.string b] 9)).alloc (.cells #[.string ⟨#[]⟩, .string ⟨#[]⟩] 48)) := ⟨_, rfl⟩
 obtain ⟨h1, h2, hb1, hs1⟩ := two_fresh w 9 9 #[.string a] #[.string b] _ rfl
 have hR := Blk.new ((w.alloc (.cells #[.string a] 9)).alloc (.cells #[.string b] 9)) 48 #[.string ⟨#[]⟩, .string ⟨#[]⟩]
 rw [<- hW, show ((w.alloc (.cells #[.string a] 9)).alloc (.cells #[.string b] 9)).heap.size = w.heap.size + 1 + 1 from hs1] at hR
 have hbW : Below w.heap.size w W := by rw [hW]; exact hb1.alloc (by omega) _
 have hsW : W.heap.size = w.heap.size + 3 := by rw [hW]; simp
 have hN : Blk W w.heap.size 9 #[.string a] := by rw [hW]; exact h1.alloc _
 have hD : Blk W (w.heap.size + 1) 9 #[.string b] := by rw [hW]; exact h2.alloc _
 obtain ⟨r, hr⟩ : ∃ r, r = mkR a.data.toList b.data.toList := ⟨_, rfl⟩
 have hf := frac_any (fun _ => False) w.heap.size (w.heap.size + 1) (.slice none 0 0) 0 a b W (fun _ h => h.elim) (by omega) (by omega) (by omega) ha hb
   (fun W2 hb2 => (follow_nil W2).mono fun e W3 ⟨he, hw⟩ => ⟨he, by rw [hw]; exact Onl.refl _ _, fun _ => by rw [hw]; exact ⟨hN.below hb2 (by omega), hD.below hb2 (by omega)⟩⟩) r (by rw [hr]; rfl)
 rw [<- hr]
 unfold fV at0 at hf
 have HF := Lib.hid hf; have HR := Lib.hid hR; have HB := Lib.hid hbW; have HSW := Lib.hid hsW
 have HW := Lib.hid hW
 clear hf hR hbW hsW hN hD h1 h2 hb1 hs1 hr hW
 go_enter Tryz.func51, Tryz.ntmps51
 go_wp2_with fail
 rw [<- HW.out]
 refine HF.out.mono ?_
 rintro e w1 ⟨rfl, ho⟩
 have hR1 := ho.blk HR.out (by rintro (h | h | h); exact h; omega; omega)
 have x0 := hR1.cell (i := 0) rfl; have x1 := hR1.cell (i := 1) rfl
 have f0 := hR1.frozen 0; have f1 := hR1.frozen 1
 obtain ⟨r0, r1⟩ := hR1.two (u := .string (qN r)) (v := .string (qD r))
 have HO := Lib.hid (HB.out.trans ((ho.toBelow (B := w.heap.size) (by rintro k (h | h | h); exact h.elim; omega; omega) HB.out.size)))
 clear ho hR1
 go_wp2_with fail
 exact bodyPost_ret (v := .tuple #[.agg #[.string (qN r), .string (qD r)], .int .i64 (qE r)]) (by simp [results, Tryz.results51, go_sem, r0, r1]) rfl ⟨rfl, (HO.out.setCell (by show w.heap.size <= w.heap.size + 1 + 1; omega) _).setCell (by show w.heap.size <= w.heap.size + 1 + 1; omega) _⟩
def ofR (n d : Int) : Option (Int × Int) := if d = 0 then none else some (red n d)
theorem mkR_of {n d : Int} (hn : n.natAbs < 10 ^ 200) (hd : d.natAbs < 10 ^ 200) : mkR (zS n).data.toList (zS d).data.toList = ofR n d := by
 unfold mkR ofR; rw [zS_rd hn, zS_rd hd]
set_option maxRecDepth 100000 in
theorem of_any (n d : Int) (w : World) (h1 : -9223372036854775808 <= n /\ n <= 9223372036854775807) (h2 : -9223372036854775808 <= d /\ d <= 9223372036854775807) :
   Calls Tryz.prog 36 #[.int .i64 n, .int .i64 d] w (OutFr (ofR n d) w) := by
 have b1 : n.natAbs < 10 ^ 200 := Nat.lt_of_lt_of_le (show n.natAbs < 10 ^ 20 by omega) (Nat.pow_le_pow_right (by omega) (by omega))
 have b2 : d.natAbs < 10 ^ 200 := Nat.lt_of_lt_of_le (show d.natAbs < 10 ^ 20 by omega) (Nat.pow_le_pow_right (by omega) (by omega))
 have hm := fun W => make_any (zS n) (zS d) W (zs n d b1 b2).1 (zs n d b1 b2).2
 rw [mkR_of b1 b2] at hm
 have hbw : Below w.heap.size w (w.alloc (.cells #[.string ⟨#[]⟩, .string ⟨#[]⟩] 48)) := (Below.refl _ _).alloc (Nat.le_refl _) _
 have hR := Blk.new w 48 #[.string ⟨#[]⟩, .string ⟨#[]⟩]
 obtain ⟨r, hr⟩ : ∃ r, r = ofR n d := ⟨_, rfl⟩
 rw [<- hr] at hm ⊢
 have hf := fun (n : Int) h1 h2 W => fromInt_any n W h1 h2
 have HF1 := Lib.hid (hf n h1.1 h1.2); have HF2 := Lib.hid (hf d h2.1 h2.2)
 unfold OutFr fV at hm
 have HM := Lib.hid hm; have HR := Lib.hid hR; have HB := Lib.hid hbw
 clear hm hR hbw hr hf b1 b2
 go_enter Tryz.func36, Tryz.ntmps36
 go_wp2_with fail
 refine (HF1.out _).mono ?_
 rintro e w1 ⟨rfl, hb1⟩
 have HB1 := Lib.hid hb1
 clear hb1
 go_wp2_with fail
 refine (HF2.out _).mono ?_
 rintro e w2 ⟨rfl, hb2⟩
 have HB2 := Lib.hid (HB1.out.trans (hb2.mono HB1.out.size))
 clear hb2
 go_wp2_with fail
 refine (HM.out _).mono ?_
 rintro e w3 ⟨rfl, hb3⟩
 have hb := HB2.out.trans (hb3.mono HB2.out.size)
 have hR1 := HR.out.below hb HR.out.lt
 have x0 := hR1.cell (i := 0) rfl; have x1 := hR1.cell (i := 1) rfl
 have f0 := hR1.frozen 0; have f1 := hR1.frozen 1
 obtain ⟨r0, r1⟩ := hR1.two (u := .string (qN r)) (v := .string (qD r))
 have HO := Lib.hid (HB.out.trans (hb.mono HB.out.size))
 clear hb3 hb hR1
 go_wp2_with fail
 exact bodyPost_ret (v := .tuple #[.agg #[.string (qN r), .string (qD r)], .int .i64 (qE r)]) (by simp [results, Tryz.results36, go_sem, r0, r1]) rfl ⟨rfl, (HO.out.setCell (Nat.le_refl _) _).setCell (Nat.le_refl _) _⟩
def mk2 (n d : Option Int) : Option (Int × Int) := n.bind fun n => d.bind fun d => if d = 0 then none else some (red n d)
def sumQ (f : Int -> Int -> Int) (p q : Option (Int × Int)) : Option (Int × Int) :=
 p.bind fun p => q.bind fun q => mk2 ((lim (p.1 * q.2)).bind fun x => (lim (q.1 * p.2)).bind fun y => lim (f x y)) (lim (p.2 * q.2))
theorem lim_abs {z y : Int} (h : lim z = some y) : y = z /\ y.natAbs < 10 ^ 200 := by
 unfold lim at h
 split at h
 · cases h; exact ⟨rfl, by assumption⟩
 · cases h
def Sml (r : Option Int) : Prop := ∀ z, r = some z -> z.natAbs < 10 ^ 200
theorem sml_lim (z : Int) : Sml (lim z) := fun _ h => (lim_abs h).2
theorem rd_nil : rd [] = none := by decide +kernel
theorem rd_okS {r : Option Int} (h : Sml r) : rd (okS r).data.toList = r := by
 cases r with
 | none => exact rd_nil
 | some z => exact zS_rd (h z rfl)
theorem mkR_okS {n d : Option Int} (hn : Sml n) (hd : Sml d) : mkR (okS n).data.toList (okS d).data.toList = mk2 n d := by
 unfold mkR mk2
 rw [rd_okS hn, rd_okS hd]
 cases n <;> cases d <;> rfl
theorem sml_opR {f : Int -> Int -> Int} {a b : List UInt8} : Sml (opR f a b) := fun z h => by
 unfold opR at h
 cases hx : rd a with
 | none => rw [hx] at h; cases h
 | some x =>
   cases hy : rd b with
   | none => rw [hx, hy] at h; cases h
   | some y => rw [hx, hy] at h; exact (lim_abs h).2
theorem rdQ_some {a b : List UInt8} {q : Int × Int} (h : rdQ a b = some q) : rd a = some q.1 /\ rd b = some q.2 /\ Low q.1 q.2 := by
 unfold rdQ at h
 split at h
 · split at h
   · cases h; exact ⟨by assumption, by assumption, by assumption⟩
   · cases h
 · cases h
def fe : List Int -> Int
 | [] => 0
 | e :: r => if e = 0 then fe r else e
theorem fe_zero : ∀ {l : List Int}, fe l = 0 ↔ ∀ e ∈ l, e = 0
 | [] => by simp [fe]
 | e :: r => by
   unfold fe
   split
   · rename_i h
     rw [fe_zero]; simp [h]
   · rename_i h
     simp [h]
theorem fe_at : ∀ {l : List Int} {i : Nat}, i < l.length -> (∀ k, k < i -> l.getD k 0 = 0) -> l.getD i 0 ≠ 0 -> fe l = l.getD i 0
 | e :: r, 0, _, _, h => by simp at h; simp [fe, h]
 | e :: r, i + 1, hi, hp, h => by
   have h0 := hp 0 (by omega)
   simp at h0
   have h2 := fe_at (l := r) (i := i) (by simpa using hi) (fun k hk => by simpa using hp (k + 1) (by omega)) (by simpa using h)
   simp [fe, h0]
   simpa using h2
theorem outFol_fe {S : Nat -> Prop} {n : Nat} {I : Nat -> World -> Prop} {w w' : World} {e : Ending} {l : List Int} (hn : l.length = n) (h : OutFol S n (fun i => l.getD i 0) I w e w') : e = .returned (.int .i64 (fe l)) /\ Onl S w w' /\ (fe l = 0 -> I n w') := by
 obtain ⟨ho, ⟨rfl, hall, hI⟩ | ⟨i, hi, hpre, hne, rfl⟩⟩ := h
 · have h0 : fe l = 0 := fe_zero.2 fun e he => by
     obtain ⟨k, hk, rfl⟩ := List.getElem_of_mem he
     have := hall k (by omega)
     simpa [List.getD_eq_getElem?_getD, hk] using this
   exact ⟨by rw [h0], ho, fun _ => hI⟩
 · have h0 := fe_at (l := l) (by omega) hpre hne
   exact ⟨by rw [h0], ho, fun h => absurd (h0.symm.trans h) hne⟩
def chkE (L : List (ByteArray × ByteArray)) : Int := if L.all okFr then 0 else 40
def mulO (a b : ByteArray) : Option Int := opR (· * ·) a.data.toList b.data.toList
section
variable (f : Int -> Int -> Int) (an ad bn bd : ByteArray)
def cmL : Option Int := mulO an bd
def cmR : Option Int := mulO bn ad
def cmN : Option Int := opR f (okS (cmL an bd)).data.toList (okS (cmR ad bn)).data.toList
def cmD : Option Int := mulO ad bd
def cmEs : List Int := [chkE [(an, ad), (bn, bd)], okE (cmL an bd), okE (cmR ad bn), okE (cmN f an ad bn bd), okE (cmD ad bd)]
def cmS (L : Nat) (i : Nat) : Nat -> Option ByteArray :=
 let s0 := put (put (put (put nos L ⟨#[]⟩) (L + 1) ⟨#[]⟩) (L + 2) ⟨#[]⟩) (L + 3) ⟨#[]⟩
 let s2 := put s0 L (okS (cmL an bd))
 let s3 := put s2 (L + 1) (okS (cmR ad bn))
 let s4 := put s3 (L + 2) (okS (cmN f an ad bn bd))
 if i <= 1 then s0 else if i = 2 then s2 else if i = 3 then s3 else if i = 4 then s4 else put s4 (L + 3) (okS (cmD ad bd))
end
theorem mulO_size {a b : ByteArray} : (okS (mulO a b)).size <= 9000000000000000000 := okS_size
theorem comb_pure (f : Int -> Int -> Int) (an ad bn bd : ByteArray) : (if fe (cmEs f an ad bn bd) = 0 then mkR (okS (cmN f an ad bn bd)).data.toList (okS (cmD ad bd)).data.toList else none) = sumQ f (rdQ an.data.toList ad.data.toList) (rdQ bn.data.toList bd.data.toList) := by
 rw [mkR_okS (show Sml (cmN f an ad bn bd) from sml_opR) (show Sml (cmD ad bd) from sml_opR)]
 cases hp : rdQ an.data.toList ad.data.toList with
 | none =>
   rw [if_neg]
   · rfl
   · rw [fe_zero]; intro h
     have := h (chkE [(an, ad), (bn, bd)]) (by simp [cmEs])
     simp [chkE, okFr, hp] at this
 | some p =>
   cases hq : rdQ bn.data.toList bd.data.toList with
   | none =>
     rw [if_neg]
     · rfl
     · rw [fe_zero]; intro h
       have := h (chkE [(an, ad), (bn, bd)]) (by simp [cmEs])
       simp [chkE, okFr, hq] at this
   | some q =>
     obtain ⟨p1, p2, -⟩ := rdQ_some hp
     obtain ⟨q1, q2, -⟩ := rdQ_some hq
     have eL : cmL an bd = lim (p.1 * q.2) := by unfold cmL mulO; exact opR_yes p1 q2
     have eR : cmR ad bn = lim (q.1 * p.2) := by unfold cmR mulO; exact opR_yes q1 p2
     have eD : cmD ad bd = lim (p.2 * q.2) := by unfold cmD mulO; exact opR_yes p2 q2
     have eC : chkE [(an, ad), (bn, bd)] = 0 := by simp [chkE, okFr, hp, hq]
     have eN : cmN f an ad bn bd = (lim (p.1 * q.2)).bind fun x => (lim (q.1 * p.2)).bind fun y => lim (f x y) := by
       unfold cmN opR; rw [eL, eR, rd_okS (sml_lim _), rd_okS (sml_lim _)]
     show _ = mk2 _ _
     unfold cmEs
     rw [eC, eL, eR, eD, eN]
     cases lim (p.1 * q.2) with
     | none => rfl
     | some x =>
       cases lim (q.1 * p.2) with
       | none => rfl
       | some y =>
         show (if fe [0, 0, 0, okE (lim (f x y)), okE (lim (p.2 * q.2))] = 0 then mk2 (lim (f x y)) _ else none) = mk2 (lim (f x y)) _
         cases lim (f x y) with
         | none => rfl
         | some n => cases lim (p.2 * q.2) <;> rfl
set_option maxRecDepth 100000 in
theorem comb_chain {F : FuncId} {f : Int -> Int -> Int} (hF : Op2 F fun a b => opR f a.data.toList b.data.toList) (g cb gr B1 B2 B3 B4 A L : Nat) (an ad bn bd : ByteArray) (W : World) (hA : Blk W A 48 #[.string an, .string ad]) (hB : Blk W (A + 1) 48 #[.string bn, .string bd])
   (hcb : Blk W cb 123 #[.slice (some ⟨gr, 0, none⟩) 2 2]) (hgr : Blk W gr 48 #[.string an, .string ad, .string bn, .string bd])
   (h1 : Cap W B1 L 77 ⟨A, 0, none⟩ ⟨A + 1, 1, none⟩) (h2 : Cap W B2 (L + 1) 77 ⟨A + 1, 0, none⟩ ⟨A, 1, none⟩) (h3 : Cap W B3 (L + 2) F ⟨L, 0, none⟩ ⟨L + 1, 0, none⟩) (h4 : Cap W B4 (L + 3) 77 ⟨A, 1, none⟩ ⟨A + 1, 1, none⟩)
   (hL0 : Blk W L 9 #[.string ⟨#[]⟩]) (hL1 : Blk W (L + 1) 9 #[.string ⟨#[]⟩]) (hL2 : Blk W (L + 2) 9 #[.string ⟨#[]⟩]) (hL3 : Blk W (L + 3) 9 #[.string ⟨#[]⟩])
   (hg : Blk W g 104 #[chkV cb, stepV B1, stepV B2, stepV B3, stepV B4]) (hx : A + 1 < L /\ L + 3 < g /\ L + 3 < cb /\ L + 3 < gr /\ L + 3 < B1 /\ L + 3 < B2 /\ L + 3 < B3 /\ L + 3 < B4)
   (ha : an.size <= 9000000000000000000 /\ ad.size <= 9000000000000000000) (hb : bn.size <= 9000000000000000000 /\ bd.size <= 9000000000000000000) :
   Calls Tryz.prog 71 #[.slice (some ⟨g, 0, none⟩) 5 5] W fun e W' => e = .returned (.int .i64 (fe (cmEs f an ad bn bd))) /\ Onl (fun k => L <= k /\ k <= L + 3) W W' /\ (fe (cmEs f an ad bn bd) = 0 -> Blk W' (L + 2) 9 #[.string (okS (cmN f an ad bn bd))] /\ Blk W' (L + 3) 9 #[.string (okS (cmD ad bd))]) := by
 refine (follow_any (fun k => L <= k /\ k <= L + 3) g 5 (fun i => if i = 0 then 91 else 93) (fun i => if i = 0 then #[at0 cb] else if i = 1 then #[at0 (B1 + 1), at0 (B1 + 2), at0 (B1 + 3), at0 B1] else if i = 2 then #[at0 (B2 + 1), at0 (B2 + 2), at0 (B2 + 3), at0 B2] else if i = 3 then #[at0 (B3 + 1), at0 (B3 + 2), at0 (B3 + 3), at0 B3] else #[at0 (B4 + 1), at0 (B4 + 2), at0 (B4 + 3), at0 B4])
   (fun i => (cmEs f an ad bn bd).getD i 0) (fun i W' => Inv (fun k => L <= k /\ k <= L + 3) W (cmS f an ad bn bd L i) W') W (by omega) (((((Inv.nos W).put hL0).put hL1).put hL2).put hL3) ?_ ?_ ?_).mono fun e W' h => ?_
 · intro i hi
   match i, hi with
   | 0, _ => exact enters_of Tryz.func91 (by kernel_rfl) rfl
   | 1, _ => exact enters_of Tryz.func93 (by kernel_rfl) rfl
   | 2, _ => exact enters_of Tryz.func93 (by kernel_rfl) rfl
   | 3, _ => exact enters_of Tryz.func93 (by kernel_rfl) rfl
   | 4, _ => exact enters_of Tryz.func93 (by kernel_rfl) rfl
 · intro i W' hi hI
   have hg2 := hI.1.blk hg (by omega)
   match i, hi with
   | 0, _ => exact hg2.cell (i := 0) rfl
   | 1, _ => exact hg2.cell (i := 1) rfl
   | 2, _ => exact hg2.cell (i := 2) rfl
   | 3, _ => exact hg2.cell (i := 3) rfl
   | 4, _ => exact hg2.cell (i := 4) rfl
 · intro i hi W' hI
   have a0 : ¬ (L <= A /\ A <= L + 3) := by omega
   have a1 : ¬ (L <= A + 1 /\ A + 1 <= L + 3) := by omega
   match i, hi with
   | 0, _ =>
     have i1 := hI.1.blk hcb (by omega); have i2 := hI.1.blk hgr (by omega)
     refine (check_run gr cb 2 [(an, ad), (bn, bd)] W' i1 i2 rfl (by omega) (by intro q hq; simp at hq; rcases hq with rfl | rfl; exact ha; exact hb)).mono fun e W2 ⟨he, hb2⟩ => ⟨he, hI.1.below hb2, fun _ => ⟨hI.1.below hb2, fun k s hk => (hI.2 k s hk).below hb2 (hI.2 k s hk).lt⟩⟩
   | 1, _ => exact set_inv op2_mul B1 L ⟨A, 0, none⟩ ⟨A + 1, 1, none⟩ an bd ⟨#[]⟩ h1 (.inr ⟨a0, hA.cell (i := 0) rfl⟩) (.inr ⟨a1, hB.cell (i := 1) rfl⟩) (by simp [put]) (.inl (by omega)) (fun k _ _ => by show ¬ (L <= k /\ k <= L + 3); omega) ha.1 hb.2 hI
   | 2, _ => exact set_inv op2_mul B2 (L + 1) ⟨A + 1, 0, none⟩ ⟨A, 1, none⟩ bn ad ⟨#[]⟩ h2 (.inr ⟨a1, hB.cell (i := 0) rfl⟩) (.inr ⟨a0, hA.cell (i := 1) rfl⟩) (by simp [put]) (.inl (by omega)) (fun k _ _ => by show ¬ (L <= k /\ k <= L + 3); omega) hb.1 ha.2 hI
   | 3, _ => exact set_inv hF B3 (L + 2) ⟨L, 0, none⟩ ⟨L + 1, 0, none⟩ (okS (cmL an bd)) (okS (cmR ad bn)) ⟨#[]⟩ h3 (.inl ⟨L, rfl, by simp [put]⟩) (.inl ⟨L + 1, rfl, by simp [put]⟩) (by simp [put]) (.inl (by omega)) (fun k _ _ => by show ¬ (L <= k /\ k <= L + 3); omega) mulO_size mulO_size hI
   | 4, _ => exact set_inv op2_mul B4 (L + 3) ⟨A, 1, none⟩ ⟨A + 1, 1, none⟩ ad bd ⟨#[]⟩ h4 (.inr ⟨a0, hA.cell (i := 1) rfl⟩) (.inr ⟨a1, hB.cell (i := 1) rfl⟩) (by simp [put]) (.inl (by omega)) (fun k _ _ => by show ¬ (L <= k /\ k <= L + 3); omega) ha.2 hb.2 hI
 · obtain ⟨he, ho, hI⟩ := outFol_fe (n := 5) (l := cmEs f an ad bn bd) rfl h
   exact ⟨he, ho, fun h0 => ⟨(hI h0).2 (L + 2) _ (by simp [cmS, put]), (hI h0).2 (L + 3) _ (by simp [cmS, put])⟩⟩
theorem check_ex (g n : Nat) (w : World) :
   Calls Tryz.prog 75 #[.slice (some ⟨g, 0, none⟩) n n] w fun e w' => ∃ b, e = .returned (chkV b) /\ Blk w' b 123 #[.slice (some ⟨g, 0, none⟩) n n] /\ w.heap.size <= b /\ b < w'.heap.size /\ Below w.heap.size w w' :=
 (check_any g n w).mono fun _ _ ⟨he, h1, hb, hs⟩ => ⟨w.heap.size, he, h1, Nat.le_refl _, by omega, hb⟩
set_option maxRecDepth 100000 in
set_option maxHeartbeats 4000000 in
theorem comb_any {F : FuncId} {f : Int -> Int -> Int} (hF : Op2 F fun a b => opR f a.data.toList b.data.toList) (an ad bn bd : ByteArray) (w : World) (ha : an.size <= 9000000000000000000 /\ ad.size <= 9000000000000000000) (hb : bn.size <= 9000000000000000000 /\ bd.size <= 9000000000000000000) :
   Calls Tryz.prog 63 #[fV an ad, fV bn bd, .func (.func F) #[] #[]] w (OutFr (sumQ f (rdQ an.data.toList ad.data.toList) (rdQ bn.data.toList bd.data.toList)) w) := by
 have hci := fun W => check_ex (w.heap.size + 7) 2 W
 have hs1 := fun W => set_ex 77 (w.heap.size + 3) ⟨w.heap.size, 0, none⟩ ⟨w.heap.size + 1, 1, none⟩ W
 have hs2 := fun W => set_ex 77 (w.heap.size + 4) ⟨w.heap.size + 1, 0, none⟩ ⟨w.heap.size, 1, none⟩ W
 have hs3 := fun W => set_ex F (w.heap.size + 5) ⟨w.heap.size + 3, 0, none⟩ ⟨w.heap.size + 4, 0, none⟩ W
 have hs4 := fun W => set_ex 77 (w.heap.size + 6) ⟨w.heap.size, 1, none⟩ ⟨w.heap.size + 1, 1, none⟩ W
 unfold stepV at0 at hs1 hs2 hs3 hs4
 unfold chkV at0 at hci
 have HCI := Lib.hid hci; have HS1 := Lib.hid hs1; have HS2 := Lib.hid hs2; have HS3 := Lib.hid hs3; have HS4 := Lib.hid hs4
 clear hci hs1 hs2 hs3 hs4
 obtain ⟨W, hW⟩ : ∃ W, W = ((((((((w.alloc (.cells #[.string an, .string ad] 48)).alloc (.cells #[.string bn, .string bd] 48)).alloc (.cells #[.string ⟨#[]⟩, .string ⟨#[]⟩] 48)).alloc (.cells #[.string ⟨#[]⟩] 9)).alloc (.cells #[.string ⟨#[]⟩] 9)).alloc (.cells #[.string ⟨#[]⟩] 9)).alloc (.cells #[.string ⟨#[]⟩] 9)).alloc (.cells #[.string an, .string ad, .string bn, .string bd] 48)) := ⟨_, rfl⟩
 have hl : W = allocs w [(#[.string an, .string ad], 48), (#[.string bn, .string bd], 48), (#[.string ⟨#[]⟩, .string ⟨#[]⟩], 48), (#[.string ⟨#[]⟩], 9), (#[.string ⟨#[]⟩], 9), (#[.string ⟨#[]⟩], 9), (#[.string ⟨#[]⟩], 9), (#[.string an, .string ad, .string bn, .string bd], 48)] := hW
 have hall := allocs_blk [(#[.string an, .string ad], 48), (#[.string bn, .string bd], 48), (#[.string ⟨#[]⟩, .string ⟨#[]⟩], 48), (#[.string ⟨#[]⟩], 9), (#[.string ⟨#[]⟩], 9), (#[.string ⟨#[]⟩], 9), (#[.string ⟨#[]⟩], 9), (#[.string an, .string ad, .string bn, .string bd], 48)] w
 have hsz := allocs_size [(#[.string an, .string ad], 48), (#[.string bn, .string bd], 48), (#[.string ⟨#[]⟩, .string ⟨#[]⟩], 48), (#[.string ⟨#[]⟩], 9), (#[.string ⟨#[]⟩], 9), (#[.string ⟨#[]⟩], 9), (#[.string ⟨#[]⟩], 9), (#[.string an, .string ad, .string bn, .string bd], 48)] w
 have hbW := allocs_below [(#[.string an, .string ad], 48), (#[.string bn, .string bd], 48), (#[.string ⟨#[]⟩, .string ⟨#[]⟩], 48), (#[.string ⟨#[]⟩], 9), (#[.string ⟨#[]⟩], 9), (#[.string ⟨#[]⟩], 9), (#[.string ⟨#[]⟩], 9), (#[.string an, .string ad, .string bn, .string bd], 48)] w (Below.refl w.heap.size w) (Nat.le_refl _)
 rw [<- hl] at hall hsz hbW
 clear hl
 have HALL := Lib.hid hall; have HSZ : Hid (W.heap.size = w.heap.size + 8) := hsz; have HBW := Lib.hid hbW; have HW := Lib.hid hW
 clear hall hsz hbW hW
 obtain ⟨r, hr⟩ : ∃ r, r = sumQ f (rdQ an.data.toList ad.data.toList) (rdQ bn.data.toList bd.data.toList) := ⟨_, rfl⟩
 have HFR : Hid (∀ w1 w2 w3 w4 w5 cb B1 B2 B3 B4, Below W.heap.size W w1 -> Blk w1 cb 123 #[.slice (some ⟨w.heap.size + 7, 0, none⟩) 2 2] -> W.heap.size <= cb -> cb < w1.heap.size →
     Below w1.heap.size w1 w2 -> Cap w2 B1 (w.heap.size + 3) 77 ⟨w.heap.size, 0, none⟩ ⟨w.heap.size + 1, 1, none⟩ -> w1.heap.size <= B1 -> B1 + 3 < w2.heap.size →
     Below w2.heap.size w2 w3 -> Cap w3 B2 (w.heap.size + 4) 77 ⟨w.heap.size + 1, 0, none⟩ ⟨w.heap.size, 1, none⟩ -> w2.heap.size <= B2 -> B2 + 3 < w3.heap.size →
     Below w3.heap.size w3 w4 -> Cap w4 B3 (w.heap.size + 5) F ⟨w.heap.size + 3, 0, none⟩ ⟨w.heap.size + 4, 0, none⟩ -> w3.heap.size <= B3 -> B3 + 3 < w4.heap.size →
     Below w4.heap.size w4 w5 -> Cap w5 B4 (w.heap.size + 6) 77 ⟨w.heap.size, 1, none⟩ ⟨w.heap.size + 1, 1, none⟩ -> w4.heap.size <= B4 -> B4 + 3 < w5.heap.size →
     ∀ o, o = .cells #[.func (.func 91) #[] #[.pointer (some ⟨cb, 0, none⟩)], stepW B1, stepW B2, stepW B3, stepW B4] 104 →
     Calls Tryz.prog 60 #[.pointer (some ⟨w.heap.size + 5, 0, none⟩), .pointer (some ⟨w.heap.size + 6, 0, none⟩), .slice (some ⟨w5.heap.size, 0, none⟩) 5 5] (w5.alloc o) fun e w' => e = .returned (.tuple #[.agg #[.string (qN r), .string (qD r)], .int .i64 (qE r)]) /\ Below w.heap.size w w' /\ Blk w' (w.heap.size + 1 + 1) 48 #[.string ⟨#[]⟩, .string ⟨#[]⟩]) := by
   intro w1 w2 w3 w4 w5 cb B1 B2 B3 B4 hb1 hcb hl0 hm0 hb2 hc1 hl1 hm1 hb3 hc2 hl2 hm2 hb4 hc3 hl3 hm3 hb5 hc4 hl4 hm4 o ho
   subst ho
   have hb6 : Below w5.heap.size w5 (w5.alloc (.cells #[chkV cb, stepV B1, stepV B2, stepV B3, stepV B4] 104)) := (Below.refl _ _).alloc (Nat.le_refl _) _
   have y1 := hb1.size; have y2 := hb2.size; have y3 := hb3.size; have y4 := hb4.size; have y5 := hb5.size; have y0 := HSZ.out
   have g5 := hb6
   have g4 := hb5.trans (g5.mono y5)
   have g3 := hb4.trans (g4.mono y4)
   have g2 := hb3.trans (g3.mono y3)
   have g1 := hb2.trans (g2.mono y2)
   have g0 := hb1.trans (g1.mono y1)
   have gw := HBW.out.trans (g0.mono HBW.out.size)
   have z6 : (w5.alloc (.cells #[chkV cb, stepV B1, stepV B2, stepV B3, stepV B4] 104)).heap.size = w5.heap.size + 1 := by simp
   have blk : ∀ i t (cs : Array Value), i < 8 -> Blk W (w.heap.size + i) t cs -> Blk (w5.alloc (.cells #[chkV cb, stepV B1, stepV B2, stepV B3, stepV B4] 104)) (w.heap.size + i) t cs := fun i t cs hi h => h.below g0 (by omega)
   have bR := blk 2 _ _ (by omega) (HALL.out 2 _ rfl)
   have hfr := frac_any (fun k => w.heap.size + 3 <= k /\ k <= w.heap.size + 3 + 3) (w.heap.size + 5) (w.heap.size + 6) (.slice (some ⟨w5.heap.size, 0, none⟩) 5 5) (fe (cmEs f an ad bn bd)) (okS (cmN f an ad bn bd)) (okS (cmD ad bd)) (w5.alloc (.cells #[chkV cb, stepV B1, stepV B2, stepV B3, stepV B4] 104))
     (fun k hk => by omega) (by omega) (by omega) (by omega) okS_size mulO_size (fun W2 hW2 => by
       have hg := (Blk.new w5 104 #[chkV cb, stepV B1, stepV B2, stepV B3, stepV B4]).below hW2 (by omega)
       have b2 : ∀ i t (cs : Array Value), i < 8 -> Blk W (w.heap.size + i) t cs -> Blk W2 (w.heap.size + i) t cs := fun i t cs hi h => (blk i t cs hi h).below hW2 (by omega)
       exact comb_chain hF w5.heap.size cb (w.heap.size + 7) B1 B2 B3 B4 w.heap.size (w.heap.size + 3) an ad bn bd W2 (b2 0 _ _ (by omega) (HALL.out 0 _ rfl)) (b2 1 _ _ (by omega) (HALL.out 1 _ rfl)) ((hcb.below g1 (by omega)).below hW2 (by omega)) (b2 7 _ _ (by omega) (HALL.out 7 _ rfl))
         ((hc1.below g2 (by omega)).below hW2 (by omega)) ((hc2.below g3 (by omega)).below hW2 (by omega)) ((hc3.below g4 (by omega)).below hW2 (by omega)) ((hc4.below g5 (by omega)).below hW2 (by omega)) (b2 3 _ _ (by omega) (HALL.out 3 _ rfl)) (b2 4 _ _ (by omega) (HALL.out 4 _ rfl)) (b2 5 _ _ (by omega) (HALL.out 5 _ rfl)) (b2 6 _ _ (by omega) (HALL.out 6 _ rfl))
         hg (by omega) ha hb) r (by rw [hr, comb_pure])
   refine hfr.mono fun e w' ⟨he, ho⟩ => ⟨he, gw.trans (ho.toBelow (by rintro k (h | h | h) <;> omega) (by omega)), ho.blk bR (by rintro (h | h | h) <;> omega)⟩
 unfold stepW at HFR
 rw [<- hr]
 clear hr
 unfold fV
 go_enter Tryz.func63, Tryz.ntmps63
 go_wp2_with fail
 rw [<- HW.out]
 refine (HCI.out _).mono ?_
 rintro e w1 ⟨cb, rfl, hcb, hl0, hm0, hb1⟩
 have HCB := Lib.hid hcb; have HB1 := Lib.hid hb1
 clear hcb hb1
 go_wp2_with fail
 refine (HS1.out _).mono ?_
 rintro e w2 ⟨B1, rfl, hc1, hl1, hm1, hb2⟩
 have HC1 := Lib.hid hc1; have HB2 := Lib.hid hb2
 clear hc1 hb2
 go_wp2_with fail
 refine (HS2.out _).mono ?_
 rintro e w3 ⟨B2, rfl, hc2, hl2, hm2, hb3⟩
 have HC2 := Lib.hid hc2; have HB3 := Lib.hid hb3
 clear hc2 hb3
 go_wp2_with fail
 refine (HS3.out _).mono ?_
 rintro e w4 ⟨B3, rfl, hc3, hl3, hm3, hb4⟩
 have HC3 := Lib.hid hc3; have HB4 := Lib.hid hb4
 clear hc3 hb4
 go_wp2_with fail
 refine (HS4.out _).mono ?_
 rintro e w5 ⟨B4, rfl, hc4, hl4, hm4, hb5⟩
 have HFR1 := Lib.hid (HFR.out w1 w2 w3 w4 w5 cb B1 B2 B3 B4 HB1.out HCB.out hl0 hm0 HB2.out HC1.out hl1 hm1 HB3.out HC2.out hl2 hm2 HB4.out HC3.out hl3 hm3 hb5 hc4 hl4 hm4 _ rfl)
 clear hc4 hb5
 go_wp2_with fail
 refine HFR1.out.mono ?_
 rintro e w6 ⟨rfl, hbl, hR⟩
 have x0 := hR.cell (i := 0) rfl; have x1 := hR.cell (i := 1) rfl
 have f0 := hR.frozen 0; have f1 := hR.frozen 1
 obtain ⟨r0, r1⟩ := hR.two (u := .string (qN r)) (v := .string (qD r))
 have HO := Lib.hid hbl
 clear hR hbl
 go_wp2_with fail
 exact bodyPost_ret (v := .tuple #[.agg #[.string (qN r), .string (qD r)], .int .i64 (qE r)]) (by simp [results, Tryz.results63, go_sem, r0, r1]) rfl ⟨rfl, (HO.out.setCell (by show w.heap.size <= w.heap.size + 1 + 1; omega) _).setCell (by show w.heap.size <= w.heap.size + 1 + 1; omega) _⟩
set_option maxRecDepth 100000 in
set_option maxHeartbeats 1000000 in
theorem fadd_any (an ad bn bd : ByteArray) (w : World) (ha : an.size <= 9000000000000000000 /\ ad.size <= 9000000000000000000) (hb : bn.size <= 9000000000000000000 /\ bd.size <= 9000000000000000000) :
   Calls Tryz.prog 56 #[fV an ad, fV bn bd] w (OutFr (sumQ (· + ·) (rdQ an.data.toList ad.data.toList) (rdQ bn.data.toList bd.data.toList)) w) := by
 have hc := fun W => comb_any op2_add an ad bn bd W ha hb
 obtain ⟨r, hr⟩ : ∃ r, r = sumQ (· + ·) (rdQ an.data.toList ad.data.toList) (rdQ bn.data.toList bd.data.toList) := ⟨_, rfl⟩
 rw [<- hr] at hc ⊢
 unfold OutFr fV at hc
 have hR := allocs_blk [(#[.string an, .string ad], 48), (#[.string bn, .string bd], 48), (#[.string ⟨#[]⟩, .string ⟨#[]⟩], 48)] w 2 _ rfl
 have hbw := allocs_below [(#[.string an, .string ad], 48), (#[.string bn, .string bd], 48), (#[.string ⟨#[]⟩, .string ⟨#[]⟩], 48)] w (Below.refl w.heap.size w) (Nat.le_refl _)
 have HC := Lib.hid hc; have HR := Lib.hid hR; have HB := Lib.hid hbw
 clear hc hR hbw hr
 unfold fV
 go_enter Tryz.func56, Tryz.ntmps56
 go_wp2_with fail
 refine (HC.out _).mono ?_
 rintro e w1 ⟨rfl, hb1⟩
 have hR1 : Blk w1 (w.heap.size + 1 + 1) 48 #[.string ⟨#[]⟩, .string ⟨#[]⟩] := HR.out.below hb1 HR.out.lt
 have x0 := hR1.cell (i := 0) rfl; have x1 := hR1.cell (i := 1) rfl
 have f0 := hR1.frozen 0; have f1 := hR1.frozen 1
 obtain ⟨r0, r1⟩ := hR1.two (u := .string (qN r)) (v := .string (qD r))
 have hO : Below w.heap.size w w1 := HB.out.trans (hb1.mono HB.out.size)
 have HO := Lib.hid hO
 clear hb1 hR1 hO
 go_wp2_with fail
 exact bodyPost_ret (v := .tuple #[.agg #[.string (qN r), .string (qD r)], .int .i64 (qE r)]) (by simp [results, Tryz.results56, go_sem, r0, r1]) rfl ⟨rfl, (HO.out.setCell (by show w.heap.size <= w.heap.size + 1 + 1; omega) _).setCell (by show w.heap.size <= w.heap.size + 1 + 1; omega) _⟩
end Go.Proofs.YtpjbihfkedbenaaGreat
