/- Fractions of integers: which two strings are a valid one, and what is reduced. No conditions. | Package rational: the contract of Valid. Condition: the strings' lengths are ints. | Regions by hand: an operation may be taken first if it yields its value in every world that may be met before it has come up (XGoes). No conditions. | Package rational: the contracts of set and of what it returns: an operation on two cells, its result in a third. Conditions: the cells read. | Package rational: the contracts of check and of what it returns. Conditions: the slice's cells read; the strings' lengths are ints. | Package rational: the contract of follow: steps, one after the other, until one fails. Conditions: the slice's cells read, and each step has a contract. | Package rational: worlds in which only some blocks have changed; a step of a chain; the contract of quotient. Conditions: the cells read; the strings' lengths are ints. | Package rational: chains of steps over cells that hold strings. Conditions: the cells read; the strings' lengths are ints. -/
import Derived.Test.YtpjbihfkedbenaaGreatGE
import Derived.Test.YtpjbihfkedbenaaGreatHA
namespace Go.Proofs.YtpjbihfkedbenaaGreat
open Go.RowKit Go.Lib
def Low (n d : Int) : Prop := 0 < d /\ Nat.gcd n.natAbs d.natAbs = 1
instance (n d : Int) : Decidable (Low n d) := by unfold Low; infer_instance
def rdQ (a b : List UInt8) : Option (Int × Int) := match rd a, rd b with
 | some n, some d => if Low n d then some (n, d) else none
 | _, _ => none
def sgcd (n d : Int) : Int := if d < 0 then -(Nat.gcd n.natAbs d.natAbs : Nat) else (Nat.gcd n.natAbs d.natAbs : Nat)
def red (n d : Int) : Int × Int := (n / sgcd n d, d / sgcd n d)
def mkR (a b : List UInt8) : Option (Int × Int) := match rd a, rd b with
 | some n, some d => if d = 0 then none else some (red n d)
 | _, _ => none
def qN : Option (Int × Int) -> ByteArray
 | some q => zS q.1
 | none => ⟨#[]⟩
def qD : Option (Int × Int) -> ByteArray
 | some q => zS q.2
 | none => ⟨#[]⟩
def qE : Option (Int × Int) -> Int
 | some _ => 0
 | none => 40
def fV (a b : ByteArray) : Value := .agg #[.string a, .string b]
def OutFr (r : Option (Int × Int)) (w : World) (e : Ending) (w' : World) : Prop := e = .returned (.tuple #[fV (qN r) (qD r), .int .i64 (qE r)]) /\ Below w.heap.size w w'
theorem sgcd_pos {n d : Int} (h : 0 < d) : sgcd n d = (Nat.gcd n.natAbs d.natAbs : Nat) := by unfold sgcd; rw [if_neg (by omega)]
theorem sgcd_dvd {n d : Int} : sgcd n d ∣ n /\ sgcd n d ∣ d := by
 have h1 : ((Nat.gcd n.natAbs d.natAbs : Nat) : Int) ∣ n := Int.ofNat_dvd_left.2 (Nat.gcd_dvd_left _ _)
 have h2 : ((Nat.gcd n.natAbs d.natAbs : Nat) : Int) ∣ d := Int.ofNat_dvd_left.2 (Nat.gcd_dvd_right _ _)
 unfold sgcd
 split
 · exact ⟨(Int.neg_dvd).2 h1, (Int.neg_dvd).2 h2⟩
 · exact ⟨h1, h2⟩
theorem red_mul {n d : Int} : n = (red n d).1 * sgcd n d /\ d = (red n d).2 * sgcd n d := by
 obtain ⟨h1, h2⟩ := @sgcd_dvd n d
 unfold red
 exact ⟨(Int.ediv_mul_cancel h1).symm, (Int.ediv_mul_cancel h2).symm⟩
theorem gpos {n d : Int} (h : d ≠ 0) : 0 < Nat.gcd n.natAbs d.natAbs := Nat.gcd_pos_of_pos_right _ (by omega)
theorem red_pos {n d : Int} (h : d ≠ 0) : 0 < (red n d).2 := by
 obtain ⟨-, h2⟩ := @red_mul n d
 have h3 := @gpos n d h
 generalize (red n d).2 = x at h2 ⊢
 unfold sgcd at h2
 obtain ⟨g, hg⟩ : ∃ g : Int, g = ((Nat.gcd n.natAbs d.natAbs : Nat) : Int) := ⟨_, rfl⟩
 rw [<- hg] at h2
 have hg0 : 0 <= g := by omega
 refine Int.not_le.1 fun hx => ?_
 have h4 := Int.mul_le_mul_of_nonneg_right hx hg0
 rw [Int.zero_mul] at h4
 split at h2
 · rw [Int.mul_neg] at h2; omega
 · omega
theorem sgcd_abs {n d : Int} : (sgcd n d).natAbs = Nat.gcd n.natAbs d.natAbs := by unfold sgcd; split <;> omega
theorem red_nat {n d : Int} : n.natAbs = (red n d).1.natAbs * Nat.gcd n.natAbs d.natAbs /\ d.natAbs = (red n d).2.natAbs * Nat.gcd n.natAbs d.natAbs := by
 obtain ⟨h1, h2⟩ := @red_mul n d
 have h3 := congrArg Int.natAbs h1
 have h4 := congrArg Int.natAbs h2
 rw [Int.natAbs_mul, sgcd_abs] at h3 h4
 exact ⟨h3, h4⟩
theorem red_low {n d : Int} (h : d ≠ 0) : Low (red n d).1 (red n d).2 := by
 refine ⟨red_pos h, ?_⟩
 obtain ⟨h1, h2⟩ := @red_nat n d
 have h3 := @gpos n d h
 have h4 : Nat.gcd n.natAbs d.natAbs = Nat.gcd (red n d).1.natAbs (red n d).2.natAbs * Nat.gcd n.natAbs d.natAbs := by
   rw [<- Nat.gcd_mul_right, <- h1, <- h2]
 generalize Nat.gcd (red n d).1.natAbs (red n d).2.natAbs = x at h4 ⊢
 generalize Nat.gcd n.natAbs d.natAbs = g at h3 h4
 exact Nat.eq_of_mul_eq_mul_right h3 (by rw [Nat.one_mul]; exact h4.symm)
theorem red_abs {n d : Int} (h : d ≠ 0) : (red n d).1.natAbs <= n.natAbs /\ (red n d).2.natAbs <= d.natAbs := by
 obtain ⟨h1, h2⟩ := @red_nat n d
 have h3 := @gpos n d h
 have h4 := Nat.le_mul_of_pos_right (red n d).1.natAbs h3
 have h5 := Nat.le_mul_of_pos_right (red n d).2.natAbs h3
 omega
theorem is1_of (z : Int) (v : Bool) (h : v = decide (z = 1)) : ((zS z).toList == [49]) = v := by
 have h1 := zS_beq z 1 v h
 rw [zS_one, toList_data (⟨#[49]⟩ : ByteArray)] at h1
 exact h1
theorem is0_z (z : Int) (v : Bool) (h : v = decide (z = 0)) : ((zS z).toList == [48]) = v := by
 have h1 := zS_beq z 0 v h
 rw [zS_zero, toList_data (⟨#[48]⟩ : ByteArray)] at h1
 exact h1
theorem ord_zero (d : Int) : decide (0 < ordI d 0) = decide (0 < d) := by
 unfold ordI
 rw [decide_eq_decide]
 split
 · omega
 · split <;> omega
theorem rd_48 : rd [48] = some 0 := by decide +kernel
theorem rdQ_no1 {a b : List UInt8} (h : rd a = none) : rdQ a b = none := by unfold rdQ; rw [h]
theorem rdQ_no2 {a b : List UInt8} (h : rd b = none) : rdQ a b = none := by unfold rdQ; rw [h]; cases rd a <;> rfl
theorem rdQ_yes {a b : List UInt8} {n d : Int} (h : rd a = some n) (h2 : rd b = some d) : rdQ a b = if Low n d then some (n, d) else none := by unfold rdQ; rw [h, h2]
set_option maxRecDepth 100000 in
theorem fvalid_any (a b : ByteArray) (w : World) (ha : a.size <= 9000000000000000000) (hb : b.size <= 9000000000000000000) :
   Calls Tryz.prog 92 #[fV a b] w fun e w' => e = .returned (.bool (rdQ a.data.toList b.data.toList).isSome) /\ Below w.heap.size w w' := by
 have hb0 : Below w.heap.size w (w.alloc (.cells #[.string a, .string b] 48)) := (Below.refl _ _).alloc (Nat.le_refl _) _
 have hn := Blk.new w 48 #[.string a, .string b]
 have hg := gcd_any a b (w.alloc (.cells #[.string a, .string b] 48)) ha hb
 have HB := Lib.hid hb0
 have HN : Hid (∀ W, Below (w.heap.size + 1) (w.alloc (.cells #[.string a, .string b] 48)) W -> W.cell? ⟨w.heap.size, 1, none⟩ = some (.string b)) := fun W hW => (hn.below hW (by omega)).cell (i := 1) rfl
 have hsz : (w.alloc (.cells #[.string a, .string b] 48)).heap.size = w.heap.size + 1 := by simp
 have HSZ := Lib.hid hsz
 have c0 := hn.cell (i := 0) (v := .string a) rfl; have c1 := hn.cell (i := 1) (v := .string b) rfl
 cases hr : opR (fun x y => ((Nat.gcd x.natAbs y.natAbs : Nat) : Int)) a.data.toList b.data.toList with
 | none =>
   have hq : (rdQ a.data.toList b.data.toList).isSome = false := by
     cases hx : rd a.data.toList with
     | none => rw [rdQ_no1 hx]; rfl
     | some n =>
       cases hy : rd b.data.toList with
       | none => rw [rdQ_no2 hy]; rfl
       | some d =>
         rw [opR_yes hx hy] at hr
         rw [rdQ_yes hx hy, if_neg]
         · rfl
         · rintro ⟨-, h1⟩
           rw [h1, lim_some (by decide)] at hr
           cases hr
   rw [hq]
   rw [hr] at hg
   have HG := Lib.hid hg
   clear hg hn hb0 hr hq ha hb hsz
   unfold fV
   go_enter Tryz.func92, Tryz.ntmps92
   go_wp2_with fail
   refine HG.out.mono ?_
   rintro e w1 ⟨rfl, hb1⟩
   go_wp2_with fail
   go_ret
   exact ⟨rfl, HB.out.trans (hb1.mono HB.out.size)⟩
 | some g =>
   obtain ⟨n, hx⟩ : ∃ n, rd a.data.toList = some n := by
     cases hx : rd a.data.toList with
     | none => rw [opR_no1 hx] at hr; cases hr
     | some n => exact ⟨n, rfl⟩
   obtain ⟨d, hy⟩ : ∃ d, rd b.data.toList = some d := by
     cases hy : rd b.data.toList with
     | none => rw [opR_no2 hx hy] at hr; cases hr
     | some d => exact ⟨d, rfl⟩
   have hg1 : g = ((Nat.gcd n.natAbs d.natAbs : Nat) : Int) := by
     rw [opR_yes hx hy] at hr
     unfold lim at hr
     split at hr
     · exact (Option.some.inj hr).symm
     · cases hr
   have hcm := fun w => compare_any b ⟨#[48]⟩ w hb (by decide)
   rw [show cmpR b.data.toList (⟨#[48]⟩ : ByteArray).data.toList = ordI d 0 from cmpR_yes hy rd_48] at hcm
   rw [hr] at hg
   rw [rdQ_yes hx hy]
   have HG := Lib.hid hg; have HC := Lib.hid hcm
   have ho := ord_zero d
   obtain ⟨o, hoo⟩ : ∃ o, o = ordI d 0 := ⟨_, rfl⟩
   rw [<- hoo] at ho HC
   have ho9 : -9223372036854775808 <= o /\ o <= 9223372036854775807 := by rw [hoo]; unfold ordI; split <;> (try split) <;> omega
   clear hg hcm hr hx hy hn hb0 ha hb hsz hoo
   by_cases h1 : g = 1
   · have hq := is1_of g true (by simp [h1])
     by_cases hd : 0 < d
     · rw [if_pos ⟨hd, by omega⟩]
       have ho2 : 0 < o := by simpa [hd] using ho
       have ho3 : decide (0 < o) = true := by simp [ho2]
       clear ho hd hg1 h1
       unfold fV
       go_enter Tryz.func92, Tryz.ntmps92
       go_wp2_with fail
       refine HG.out.mono ?_
       rintro e w1 ⟨rfl, hb1⟩
       have c2 := HN.out w1 (by have := HSZ.out; rw [<- this]; exact hb1)
       have HB1 := Lib.hid hb1
       clear hb1
       unfold okS okE
       go_wp2_with fail
       refine (HC.out _).mono ?_
       rintro e w2 ⟨rfl, hb2⟩
       go_wp2_with fail
       go_ret
       exact ⟨rfl, (HB.out.trans (HB1.out.mono HB.out.size)).trans (hb2.mono (HB.out.trans (HB1.out.mono HB.out.size)).size)⟩
     · rw [if_neg (fun h => hd h.1)]
       have ho2 : ¬ 0 < o := by simpa [hd] using ho
       have ho3 : decide (0 < o) = false := by simp [ho2]
       clear ho hd hg1 h1
       unfold fV
       go_enter Tryz.func92, Tryz.ntmps92
       go_wp2_with fail
       refine HG.out.mono ?_
       rintro e w1 ⟨rfl, hb1⟩
       have c2 := HN.out w1 (by have := HSZ.out; rw [<- this]; exact hb1)
       have HB1 := Lib.hid hb1
       clear hb1
       unfold okS okE
       go_wp2_with fail
       refine (HC.out _).mono ?_
       rintro e w2 ⟨rfl, hb2⟩
       go_wp2_with fail
       go_ret
       exact ⟨rfl, (HB.out.trans (HB1.out.mono HB.out.size)).trans (hb2.mono (HB.out.trans (HB1.out.mono HB.out.size)).size)⟩
   · rw [if_neg (fun h => h1 (by rw [hg1, h.2]; rfl))]
     have hq := is1_of g false (by simp [h1])
     clear ho hg1 h1
     unfold fV
     go_enter Tryz.func92, Tryz.ntmps92
     go_wp2_with fail
     refine HG.out.mono ?_
     rintro e w1 ⟨rfl, hb1⟩
     unfold okS okE
     go_wp2_with fail
     go_ret
     exact ⟨rfl, HB.out.trans (hb1.mono HB.out.size)⟩
end Go.Proofs.YtpjbihfkedbenaaGreat
namespace Go.Proofs.YtpjbihfkedbenaaGreat
end Go.Proofs.YtpjbihfkedbenaaGreat
namespace Go.Proofs.YtpjbihfkedbenaaGreat
open Go.RowKit Go.Lib
def at0 (b : Nat) : Value := .pointer (some ⟨b, 0, none⟩)
def Cap (w : World) (B T : Nat) (F : FuncId) (x y : Addr) : Prop :=
 Blk w B 85 #[at0 T] /\ Blk w (B + 1) 109 #[.func (.func F) #[] #[]] /\ Blk w (B + 2) 85 #[.pointer (some x)] /\ Blk w (B + 3) 85 #[.pointer (some y)]
def stepV (B : Nat) : Value := .func (.func 93) #[] #[at0 (B + 1), at0 (B + 2), at0 (B + 3), at0 B]
theorem Cap.only {w w' : World} {B T : Nat} {F : FuncId} {x y : Addr} {row : Option Nat} (h : Cap w B T F x y) (hg : w.grownBy w' row) (hr : ∀ k, row = some k -> k < B ∨ B + 3 < k) : Cap w' B T F x y := by
 obtain ⟨h1, h2, h3, h4⟩ := h
 exact ⟨h1.only hg fun e => by have := hr _ e.symm; omega, h2.only hg fun e => by have := hr _ e.symm; omega, h3.only hg fun e => by have := hr _ e.symm; omega, h4.only hg fun e => by have := hr _ e.symm; omega⟩
theorem Cap.below {w w' : World} {B T M : Nat} {F : FuncId} {x y : Addr} (h : Cap w B T F x y) (hb : Below M w w') (hM : B + 3 < M) : Cap w' B T F x y := by
 obtain ⟨h1, h2, h3, h4⟩ := h
 exact ⟨h1.below hb (by omega), h2.below hb (by omega), h3.below hb (by omega), h4.below hb hM⟩
theorem four_new (w : World) (t1 t2 t3 t4 : TypeId) (a b c d : Array Value) (W : World) (hW : W = (((w.alloc (.cells a t1)).alloc (.cells b t2)).alloc (.cells c t3)).alloc (.cells d t4)) :
   Blk W w.heap.size t1 a /\ Blk W (w.heap.size + 1) t2 b /\ Blk W (w.heap.size + 2) t3 c /\ Blk W (w.heap.size + 3) t4 d /\ Below w.heap.size w W /\ W.heap.size = w.heap.size + 4 := by
 subst hW
 have s1 : (w.alloc (.cells a t1)).heap.size = w.heap.size + 1 := by simp
 have s2 : ((w.alloc (.cells a t1)).alloc (.cells b t2)).heap.size = w.heap.size + 2 := by simp
 have s3 : (((w.alloc (.cells a t1)).alloc (.cells b t2)).alloc (.cells c t3)).heap.size = w.heap.size + 3 := by simp
 have h2 := Blk.new (w.alloc (.cells a t1)) t2 b
 have h3 := Blk.new ((w.alloc (.cells a t1)).alloc (.cells b t2)) t3 c
 have h4 := Blk.new (((w.alloc (.cells a t1)).alloc (.cells b t2)).alloc (.cells c t3)) t4 d
 rw [s1] at h2
 rw [s2] at h3
 rw [s3] at h4
 exact ⟨(((Blk.new w t1 a).alloc _).alloc _).alloc _, (h2.alloc _).alloc _, h3.alloc _, h4, ((((Below.refl _ _).alloc (Nat.le_refl _) _).alloc (by omega) _).alloc (by omega) _).alloc (by omega) _, by simp⟩
set_option maxRecDepth 100000 in
theorem set_any (F : FuncId) (T : Nat) (x y : Addr) (w : World) :
   Calls Tryz.prog 76 #[at0 T, .func (.func F) #[] #[], .pointer (some x), .pointer (some y)] w fun e w' => e = .returned (stepV w.heap.size) /\ Cap w' w.heap.size T F x y /\ Below w.heap.size w w' /\ w'.heap.size = w.heap.size + 4 := by
 have hmf : ∀ (fn : Fn) (first cap : Array Value) (w : World), (Instr.makeFunc fn first cap).run Tryz.prog w = .ok (.func fn first cap) w := fun _ _ _ _ => rfl
 unfold at0
 go_enter Tryz.func76, Tryz.ntmps76
 go_wp2_with fail
 go_ret
 obtain ⟨h1, h2, h3, h4, hb, hs⟩ := four_new w 85 109 85 85 #[at0 T] #[.func (.func F) #[] #[]] #[.pointer (some x)] #[.pointer (some y)] _ rfl
 exact ⟨rfl, ⟨h1, h2, h3, h4⟩, hb, hs⟩
def SetE (B T : Nat) (F : FuncId) (x y : Addr) (sx sy : ByteArray) (w : World) : Prop :=
 w.cell? ⟨B, 0, none⟩ = some (.pointer (some ⟨T, 0, none⟩)) /\ w.cell? ⟨B + 1, 0, none⟩ = some (.func (.func F) #[] #[]) /\ w.cell? ⟨B + 2, 0, none⟩ = some (.pointer (some x)) /\ w.cell? ⟨B + 3, 0, none⟩ = some (.pointer (some y)) /\ w.cell? x = some (.string sx) /\ w.cell? y = some (.string sy)
theorem SetE.below {B T : Nat} {F : FuncId} {x y : Addr} {sx sy : ByteArray} {w w' : World} (h : SetE B T F x y sx sy w) (hb : Below w.heap.size w w') : SetE B T F x y sx sy w' := by
 obtain ⟨h0, h1, h2, h3, h4, h5⟩ := h
 exact ⟨(hb.cell (World.block_lt_of_cell? w _ h0)).trans h0, (hb.cell (World.block_lt_of_cell? w _ h1)).trans h1, (hb.cell (World.block_lt_of_cell? w _ h2)).trans h2, (hb.cell (World.block_lt_of_cell? w _ h3)).trans h3, (hb.cell (World.block_lt_of_cell? w _ h4)).trans h4, (hb.cell (World.block_lt_of_cell? w _ h5)).trans h5⟩
set_option maxRecDepth 100000 in
set_option maxHeartbeats 1000000 in
theorem set_run (F : FuncId) (B T : Nat) (x y : Addr) (sx sy r : ByteArray) (c : Int) (old : Value) (w : World) (hc : Cap w B T F x y) (hx : w.cell? x = some (.string sx)) (hy : w.cell? y = some (.string sy)) (hT : Blk w T 9 #[old])
   (hcf : ∀ args w, (callFunc F args).run Tryz.prog w = .ok (.enter F args) w) (hF : ∀ W, Below w.heap.size w W -> Calls Tryz.prog F #[.string sx, .string sy] W fun e W' => e = .returned (.tuple #[.string r, .int .i64 c]) /\ Below W.heap.size W W') :
   Calls Tryz.prog 93 #[at0 (B + 1), at0 (B + 2), at0 (B + 3), at0 B] w fun e w' => e = .returned (.int .i64 c) /\ w.grownBy w' (some T) /\ Blk w' T 9 #[.string r] := by
 obtain ⟨hb0, hb1, hb2, hb3⟩ := hc
 have HK : Hid (∀ W, Below w.heap.size w W -> Blk W T 9 #[old]) := fun W hW => hT.below hW hT.lt
 have HF := Lib.hid (hF w.drew (Below.refl _ _).drew)
 have HSE : Hid (SetE B T F x y sx sy w) := ⟨hb0.cell (i := 0) rfl, hb1.cell (i := 0) rfl, hb2.cell (i := 0) rfl, hb3.cell (i := 0) rfl, hx, hy⟩
 have HH : Holds (fun _ => True) (SetE B T F x y sx sy) ([13].contains ·) (Array.replicate 15 false) w.drew := ⟨trivial, fun _ => HSE.out⟩
 clear hb0 hb1 hb2 hb3 hF hT hx hy
 unfold at0 at *
 go_enter Tryz.func93, Tryz.ntmps93
 go_wp2_with fail
 refine wp_region_goes (Sp := fun _ => True) (Se := SetE B T F x y sx sy) (Z := ([13].contains ·)) (by kernel_rfl) ?_
 refine Goes.take (t := [(13, [0, 1, 2, 4, 5, 7])]) (es := [0, 1, 2, 4, 5, 7]) 0 (some 6) (.pointer (some ⟨T, 0, none⟩)) (by kernel_rfl) (by kernel_rfl) rfl rfl (by kernel_rfl) (by kernel_rfl) (by kernel_rfl) (fun _ _ _ h => h) (Or.inl ⟨by kernel_rfl, by (rintro w ⟨-, hse⟩; obtain ⟨h0, h1, h2, h3, h4, h5⟩ := hse rfl; go_simp)⟩) HH ?_
 intro HH
 refine Goes.take (t := [(13, [0, 1, 2, 4, 5, 7])]) (es := [0, 1, 2, 4, 5, 7]) 1 (some 7) (.func (.func F) #[] #[]) (by kernel_rfl) (by kernel_rfl) rfl rfl (by kernel_rfl) (by kernel_rfl) (by kernel_rfl) (fun _ _ _ h => h) (Or.inl ⟨by kernel_rfl, by (rintro w ⟨-, hse⟩; obtain ⟨h0, h1, h2, h3, h4, h5⟩ := hse rfl; go_simp)⟩) HH ?_
 intro HH
 refine Goes.take (t := [(13, [0, 1, 2, 4, 5, 7])]) (es := [0, 1, 2, 4, 5, 7]) 2 (some 8) (.pointer (some x)) (by kernel_rfl) (by kernel_rfl) rfl rfl (by kernel_rfl) (by kernel_rfl) (by kernel_rfl) (fun _ _ _ h => h) (Or.inl ⟨by kernel_rfl, by (rintro w ⟨-, hse⟩; obtain ⟨h0, h1, h2, h3, h4, h5⟩ := hse rfl; go_simp)⟩) HH ?_
 intro HH
 refine Goes.take (t := [(13, [0, 1, 2, 4, 5, 7])]) (es := [0, 1, 2, 4, 5, 7]) 3 (some 9) (.pointer (some x)) (by kernel_rfl) (by kernel_rfl) rfl rfl (by kernel_rfl) (by kernel_rfl) (by kernel_rfl) (fun _ _ _ h => h) (Or.inl ⟨by kernel_rfl, by (rintro w ⟨-, hse⟩; go_simp)⟩) HH ?_
 intro HH
 refine Goes.take (t := [(13, [0, 1, 2, 4, 5, 7])]) (es := [0, 1, 2, 4, 5, 7]) 4 (some 10) (.string sx) (by kernel_rfl) (by kernel_rfl) rfl rfl (by kernel_rfl) (by kernel_rfl) (by kernel_rfl) (fun _ _ _ h => h) (Or.inl ⟨by kernel_rfl, by (rintro w ⟨-, hse⟩; obtain ⟨h0, h1, h2, h3, h4, h5⟩ := hse rfl; go_simp)⟩) HH ?_
 intro HH
 refine Goes.take (t := [(13, [0, 1, 2, 4, 5, 7])]) (es := [0, 1, 2, 4, 5, 7]) 5 (some 11) (.pointer (some y)) (by kernel_rfl) (by kernel_rfl) rfl rfl (by kernel_rfl) (by kernel_rfl) (by kernel_rfl) (fun _ _ _ h => h) (Or.inl ⟨by kernel_rfl, by (rintro w ⟨-, hse⟩; obtain ⟨h0, h1, h2, h3, h4, h5⟩ := hse rfl; go_simp)⟩) HH ?_
 intro HH
 refine Goes.take (t := [(13, [0, 1, 2, 4, 5, 7])]) (es := [0, 1, 2, 4, 5, 7]) 6 (some 12) (.pointer (some y)) (by kernel_rfl) (by kernel_rfl) rfl rfl (by kernel_rfl) (by kernel_rfl) (by kernel_rfl) (fun _ _ _ h => h) (Or.inl ⟨by kernel_rfl, by (rintro w ⟨-, hse⟩; go_simp)⟩) HH ?_
 intro HH
 refine Goes.take (t := [(13, [0, 1, 2, 4, 5, 7])]) (es := [0, 1, 2, 4, 5, 7]) 7 (some 13) (.string sy) (by kernel_rfl) (by kernel_rfl) rfl rfl (by kernel_rfl) (by kernel_rfl) (by kernel_rfl) (fun _ _ _ h => h) (Or.inl ⟨by kernel_rfl, by (rintro w ⟨-, hse⟩; obtain ⟨h0, h1, h2, h3, h4, h5⟩ := hse rfl; go_simp)⟩) HH ?_
 intro HH
 refine Goes.one (i := 8) rfl (by kernel_rfl) (by kernel_rfl) fun K hK => ?_
 go_wp2_with fail
 refine HF.out.mono ?_
 rintro e w2 ⟨rfl, hb9⟩
 have hbb : Below w.heap.size w w2 := (Below.refl _ _).drew.trans hb9
 have hT2 := (HK.out w2 hbb)
 have HH := (⟨trivial, fun _ => HSE.out.below hbb⟩ : Holds (fun _ => True) (SetE B T F x y sx sy) ([13].contains ·) (#[true, true, true, true, true, true, true, true, true, false, false, false, false, false, false]) w2)
 refine hK _ _ HH fun HH => ?_
 refine Goes.take (t := [(13, [0, 1, 2, 4, 5, 7])]) (es := [0, 1, 2, 4, 5, 7]) 9 (some 5) (.tuple #[.string r, .int .i64 c]) (by kernel_rfl) (by kernel_rfl) rfl rfl (by kernel_rfl) (by kernel_rfl) (by kernel_rfl) (fun _ _ _ h => h) (Or.inl ⟨by kernel_rfl, by (rintro w ⟨-, hse⟩; go_simp)⟩) HH ?_
 intro HH
 refine Goes.take (t := [(13, [0, 1, 2, 4, 5, 7])]) (es := [0, 1, 2, 4, 5, 7]) 10 (some 15) (.string r) (by kernel_rfl) (by kernel_rfl) rfl rfl (by kernel_rfl) (by kernel_rfl) (by kernel_rfl) (fun _ _ _ h => h) (Or.inl ⟨by kernel_rfl, by (rintro w ⟨-, hse⟩; go_simp)⟩) HH ?_
 intro HH
 refine Goes.take (t := [(13, [0, 1, 2, 4, 5, 7])]) (es := [0, 1, 2, 4, 5, 7]) 11 (some 16) (.int .i64 c) (by kernel_rfl) (by kernel_rfl) rfl rfl (by kernel_rfl) (by kernel_rfl) (by kernel_rfl) (fun _ _ _ h => h) (Or.inl ⟨by kernel_rfl, by (rintro w ⟨-, hse⟩; go_simp)⟩) HH ?_
 intro HH
 refine Goes.take (t := [(13, [0, 1, 2, 4, 5, 7])]) (es := [0, 1, 2, 4, 5, 7]) 12 (some 17) (.pointer (some ⟨T, 0, none⟩)) (by kernel_rfl) (by kernel_rfl) rfl rfl (by kernel_rfl) (by kernel_rfl) (by kernel_rfl) (fun _ _ _ h => h) (Or.inl ⟨by kernel_rfl, by (rintro w ⟨-, hse⟩; go_simp)⟩) HH ?_
 intro HH
 have ht2 := hT2.cell (i := 0) rfl
 have hf2 := hT2.frozen 0
 clear hK
 refine Goes.one (i := 13) rfl (by kernel_rfl) (by kernel_rfl) fun K hK => ?_
 go_wp2_with fail
 refine hK _ _ ⟨trivial, fun h => absurd (h 13 rfl) (by decide)⟩ fun HH => ?_
 refine Goes.take (t := [(13, [0, 1, 2, 4, 5, 7])]) (es := [0, 1, 2, 4, 5, 7]) 14 (some 4) (.int .i64 c) (by kernel_rfl) (by kernel_rfl) rfl rfl (by kernel_rfl) (by kernel_rfl) (by kernel_rfl) (fun _ _ _ h => h) (Or.inl ⟨by kernel_rfl, by (rintro w ⟨-, hse⟩; go_simp)⟩) HH ?_
 intro HH
 refine Goes.done (by kernel_rfl) ?_ _
 clear ht2 hf2 hK
 go_wp2_with fail
 go_ret
 exact ⟨rfl, only_setCell ⟨hbb.os, hbb.tape, hbb.output, hbb.size, fun k hk _ => hbb.block k hk⟩ 0 _, hT2.set 0 _⟩
def frCells : List (ByteArray × ByteArray) -> List Value
 | [] => []
 | q :: r => .string q.1 :: .string q.2 :: frCells r
def okFr (q : ByteArray × ByteArray) : Bool := (rdQ q.1.data.toList q.2.data.toList).isSome
theorem frCells_at : ∀ (L : List (ByteArray × ByteArray)) (j : Nat) (h : j < L.length), (frCells L)[j * 2]? = some (.string L[j].1) /\ (frCells L)[j * 2 + 1]? = some (.string L[j].2)
 | q :: r, 0, _ => ⟨rfl, rfl⟩
 | q :: r, j + 1, h => by
   have h2 := frCells_at r j (by simpa using h)
   rw [show (j + 1) * 2 = j * 2 + 1 + 1 from by omega]
   simpa [frCells] using h2
def chkV (b : Nat) : Value := .func (.func 91) #[] #[at0 b]
set_option maxRecDepth 100000 in
theorem check_any (g n : Nat) (w : World) :
   Calls Tryz.prog 75 #[.slice (some ⟨g, 0, none⟩) n n] w fun e w' => e = .returned (chkV w.heap.size) /\ Blk w' w.heap.size 123 #[.slice (some ⟨g, 0, none⟩) n n] /\ Below w.heap.size w w' /\ w'.heap.size = w.heap.size + 1 := by
 have hmf : ∀ (fn : Fn) (first cap : Array Value) (w : World), (Instr.makeFunc fn first cap).run Tryz.prog w = .ok (.func fn first cap) w := fun _ _ _ _ => rfl
 unfold chkV at0
 go_enter Tryz.func75, Tryz.ntmps75
 go_wp2_with fail
 go_ret
 exact ⟨rfl, Blk.new w _ _, (Below.refl _ _).alloc (Nat.le_refl _) _, by simp⟩
set_option maxRecDepth 100000 in
set_option maxHeartbeats 1000000 in
theorem check_run (g b n : Nat) (L : List (ByteArray × ByteArray)) (w : World) (hb : Blk w b 123 #[.slice (some ⟨g, 0, none⟩) n n]) (hg : Blk w g 48 (frCells L).toArray) (hn : L.length = n) (hn9 : n <= 1000)
   (hL : ∀ q ∈ L, q.1.size <= 9000000000000000000 /\ q.2.size <= 9000000000000000000) :
   Calls Tryz.prog 91 #[at0 b] w fun e w' => e = .returned (.int .i64 (if L.all okFr then 0 else 40)) /\ Below w.heap.size w w' := by
 have c0 := hb.cell (i := 0) rfl
 have HG := Lib.hid hg; have HN := Lib.hid hn; have HL := Lib.hid hL
 clear hb hg hn hL
 unfold at0
 go_enter Tryz.func91, Tryz.ntmps91
 go_wp2_with fail
 go_loopw [6] (fun ii wr => ∃ j : Nat, ii = .int .i64 j /\ j <= n /\ (∀ k (h : k < L.length), k < j -> okFr L[k] = true) /\ Below w.heap.size w wr) (fun ii _ => n - (intOf ii).toNat)
 case atStart => exact ⟨0, rfl, Nat.zero_le _, fun k h h2 => absurd h2 (by omega), Below.refl _ _⟩
 case round =>
   obtain ⟨j, rfl, hj, hall, hbl⟩ := hrel
   have HA := Lib.hid hall
   clear hall
   by_cases hlt : j < n
   · have hjl : j < L.length := by rw [HN.out]; exact hlt
     have hG := HG.out.below hbl HG.out.lt
     obtain ⟨f1, f2⟩ := frCells_at L j hjl
     have x0 : wr.cell? ⟨g, j * 2, none⟩ = some (.string L[j].1) := hG.cell (by simpa using f1)
     have x1 : wr.cell? ⟨g, j * 2 + 1, none⟩ = some (.string L[j].2) := hG.cell (by simpa using f2)
     obtain ⟨s1, s2⟩ := HL.out L[j] (List.getElem_mem _)
     have hv := fun W => fvalid_any L[j].1 L[j].2 W s1 s2
     have hok : (rdQ L[j].1.data.toList L[j].2.data.toList).isSome = okFr L[j] := rfl
     obtain ⟨a, ha⟩ : ∃ a, a = L[j].1 := ⟨_, rfl⟩
     obtain ⟨c, hc⟩ : ∃ c, c = L[j].2 := ⟨_, rfl⟩
     obtain ⟨o, ho⟩ : ∃ o, o = okFr L[j] := ⟨_, rfl⟩
     rw [hok, <- ho, <- ha, <- hc] at hv
     rw [<- ha] at x0; rw [<- hc] at x1
     have HV := Lib.hid hv; have HO := Lib.hid ho
     have q1 : (0 : Int) <= (j : Int) := by omega
     have q2 : (j : Int) < (n : Int) := by omega
     have hs := hbl.size
     have HBL := Lib.hid hbl
     clear hv ho ha hc hok f1 f2 s1 s2 hG hbl
     cases o with
     | true =>
       go_wp2_with fail
       refine (HV.out _).mono ?_
       rintro e w2 ⟨rfl, hb2⟩
       have HB2 := Lib.hid hb2
       clear hb2
       go_wp2_with fail
       go_roundw
       case rel =>
         have hb3 := HBL.out.alloc hs (.cells #[.string a, .string c] 48)
         exact ⟨j + 1, by go_num, by omega, fun k hk hkj => (by
           rcases Nat.lt_succ_iff_lt_or_eq.1 hkj with h | h
           · exact HA.out k hk h
           · subst h; exact HO.out.symm), hb3.trans (HB2.out.mono hb3.size)⟩
       case measure => simp [intOf]; omega
     | false =>
       have hno : L.all okFr = false := by
         rw [List.all_eq_false]
         exact ⟨L[j], List.getElem_mem _, by rw [<- HO.out]; simp⟩
       go_wp2_with fail
       refine (HV.out _).mono ?_
       rintro e w2 ⟨rfl, hb2⟩
       have HB2 := Lib.hid hb2
       have hb3 := HBL.out.alloc hs (.cells #[.string a, .string c] 48)
       have hb4 := hb3.trans (HB2.out.mono hb3.size)
       clear hb2 hb3
       go_wp2_with fail
       all_goals
         go_ret
         exact ⟨rfl, hb4⟩
   · obtain rfl : j = n := by omega
     have hall : L.all okFr = true := by
       rw [List.all_eq_true]
       intro q hq
       obtain ⟨k, hk, rfl⟩ := List.getElem_of_mem hq
       exact HA.out k hk (by rw [<- HN.out]; exact hk)
     go_wp2
     go_ret
     exact ⟨rfl, hbl⟩
structure Onl (S : Nat -> Prop) (w w' : World) : Prop where
 os : w'.os = w.os
 tape : w'.tape = w.tape
 output : w'.output = w.output
 size : w.heap.size <= w'.heap.size
 block : ∀ k, k < w.heap.size -> ¬ S k -> w'.heap[k]? = w.heap[k]?
section
variable {S : Nat -> Prop} {w w' w'' : World}
theorem Onl.refl (S : Nat -> Prop) (w : World) : Onl S w w := ⟨rfl, rfl, rfl, Nat.le_refl _, fun _ _ _ => rfl⟩
theorem Onl.trans (h : Onl S w w') (h2 : Onl S w' w'') : Onl S w w'' :=
 ⟨h2.os.trans h.os, h2.tape.trans h.tape, h2.output.trans h.output, Nat.le_trans h.size h2.size, fun k hk hs => (h2.block k (Nat.lt_of_lt_of_le hk h.size) hs).trans (h.block k hk hs)⟩
theorem Onl.of_below (hb : Below w.heap.size w w') : Onl S w w' := ⟨hb.os, hb.tape, hb.output, hb.size, fun k hk _ => hb.block k hk⟩
theorem Onl.below (h : Onl S w w') (hb : Below w'.heap.size w' w'') : Onl S w w'' := h.trans (Onl.of_below hb)
theorem Onl.only {T : Nat} (h : Onl S w w') (hg : w'.grownBy w'' (some T)) (hT : S T ∨ w.heap.size <= T) : Onl S w w'' :=
 ⟨hg.os.trans h.os, hg.tape.trans h.tape, hg.output.trans h.output, Nat.le_trans h.size hg.size, fun k hk hs => (hg.block k (Nat.lt_of_lt_of_le hk h.size) (fun e => by
   cases e
   rcases hT with hT | hT
   · exact hs hT
   · omega)).trans (h.block k hk hs)⟩
theorem Onl.mono {S' : Nat -> Prop} (h : Onl S w w') (hs : ∀ k, k < w.heap.size -> S k -> S' k) : Onl S' w w' :=
 ⟨h.os, h.tape, h.output, h.size, fun k hk hn => h.block k hk fun hk2 => hn (hs k hk hk2)⟩
theorem Onl.toBelow {B : Nat} (h : Onl S w w') (hs : ∀ k, S k -> B <= k) (hB : B <= w.heap.size) : Below B w w' :=
 ⟨h.os, h.tape, h.output, h.size, fun k hk => h.block k (by omega) fun hk2 => by have := hs k hk2; omega⟩
theorem Onl.blk {g : Nat} {t : TypeId} {cs : Array Value} (h : Onl S w w') (hb : Blk w g t cs) (hg : ¬ S g) : Blk w' g t cs := (h.block g hb.lt hg).trans hb
theorem Onl.setCell (h : Onl S w w') {p : Addr} (hp : w.heap.size <= p.block) (u : Value) : Onl S w (w'.setCell p u) :=
 ⟨h.os, h.tape, h.output, by simpa [World.setCell] using h.size, fun k hk hs => (Below.heap_setCell w' p u k (by omega)).trans (h.block k hk hs)⟩
theorem Onl.drew (h : Onl S w w') : Onl S w w'.drew := ⟨h.os, h.tape, h.output, h.size, h.block⟩
theorem Onl.cap {B T : Nat} {F : FuncId} {x y : Addr} (h : Onl S w w') (hc : Cap w B T F x y) (h0 : ¬ S B) (h1 : ¬ S (B + 1)) (h2 : ¬ S (B + 2)) (h3 : ¬ S (B + 3)) : Cap w' B T F x y :=
 ⟨h.blk hc.1 h0, h.blk hc.2.1 h1, h.blk hc.2.2.1 h2, h.blk hc.2.2.2 h3⟩
end
def OutFol (S : Nat -> Prop) (n : Nat) (Es : Nat -> Int) (Inv : Nat -> World -> Prop) (w : World) (e : Ending) (w' : World) : Prop :=
 Onl S w w' /\ ((e = .returned (.int .i64 0) /\ (∀ i, i < n -> Es i = 0) /\ Inv n w') ∨ ∃ i, i < n /\ (∀ k, k < i -> Es k = 0) /\ Es i ≠ 0 /\ e = .returned (.int .i64 (Es i)))
set_option maxRecDepth 100000 in
theorem follow_nil (w : World) : Calls Tryz.prog 71 #[.slice none 0 0] w fun e w' => e = .returned (.int .i64 0) /\ w' = w := by
 go_enter Tryz.func71, Tryz.ntmps71
 go_wp2_with fail
 go_loopw [8] (fun ii wr => ii = .int .i64 0 /\ wr = w) (fun _ _ => 0)
 case atStart => exact ⟨rfl, rfl⟩
 case round =>
   obtain ⟨rfl, rfl⟩ := hrel
   go_wp2_with fail
   go_ret
   exact ⟨rfl, rfl⟩
set_option maxRecDepth 100000 in
set_option maxHeartbeats 1000000 in
theorem follow_any (S : Nat -> Prop) (g n : Nat) (fs : Nat -> FuncId) (cs : Nat -> Array Value) (Es : Nat -> Int) (Inv : Nat -> World -> Prop) (w : World) (hn9 : n <= 1000) (h0 : Inv 0 w)
   (hcf : ∀ i, i < n -> ∀ args w, (callFunc (fs i) args).run Tryz.prog w = .ok (.enter (fs i) args) w)
   (hcell : ∀ i W, i < n -> Inv i W -> W.cell? ⟨g, i, none⟩ = some (.func (.func (fs i)) #[] (cs i)))
   (hst : ∀ i, i < n -> ∀ W, Inv i W -> Calls Tryz.prog (fs i) (cs i) W fun e W' => e = .returned (.int .i64 (Es i)) /\ Onl S w W' /\ (Es i = 0 -> Inv (i + 1) W')) :
   Calls Tryz.prog 71 #[.slice (some ⟨g, 0, none⟩) n n] w (OutFol S n Es Inv w) := by
 have H0 := Lib.hid h0; have HCF := Lib.hid hcf; have HC := Lib.hid hcell; have HST := Lib.hid hst
 clear h0 hcf hcell hst
 go_enter Tryz.func71, Tryz.ntmps71
 go_wp2_with fail
 go_loopw [8] (fun ii wr => ∃ j : Nat, ii = .int .i64 j /\ j <= n /\ (∀ k, k < j -> Es k = 0) /\ Onl S w wr /\ Hid (Inv j wr)) (fun ii _ => n - (intOf ii).toNat)
 case atStart => exact ⟨0, rfl, Nat.zero_le _, fun k h2 => absurd h2 (by omega), Onl.refl _ _, H0⟩
 case round =>
   obtain ⟨j, rfl, hj, hall, hbl, HI⟩ := hrel
   have HA := Lib.hid hall; have HBL := Lib.hid hbl
   clear hall hbl
   by_cases hlt : j < n
   · have x0 := HC.out j wr hlt HI.out
     have hs := HST.out j hlt wr HI.out
     have hf := HCF.out j hlt
     have HS := Lib.hid hs
     obtain ⟨F, hF⟩ : ∃ F, F = fs j := ⟨_, rfl⟩
     obtain ⟨C, hC⟩ : ∃ C, C = cs j := ⟨_, rfl⟩
     obtain ⟨E, hE⟩ : ∃ E, E = Es j := ⟨_, rfl⟩
     rw [<- hF, <- hC] at x0
     rw [<- hF] at hf
     rw [<- hF, <- hC, <- hE] at HS
     have HE := Lib.hid hE
     have q1 : (0 : Int) <= (j : Int) := by omega
     have q2 : (j : Int) < (n : Int) := by omega
     clear hs hF hC hE
     go_wp2_with fail
     refine HS.out.mono ?_
     rintro e w2 ⟨rfl, hb2, hi2⟩
     have HB2 := Lib.hid hb2; have HI2 := Lib.hid hi2
     clear hb2 hi2
     by_cases hz : E = 0
     · have HI3 := Lib.hid (HI2.out hz)
       subst hz
       go_wp2_with fail
       go_roundw
       case rel => exact ⟨j + 1, by go_num, by omega, fun k hk => (by
         rcases Nat.lt_succ_iff_lt_or_eq.1 hk with h | h
         · exact HA.out k h
         · rw [h]; exact HE.out.symm), HB2.out, HI3.out⟩
       case measure => simp [intOf]; omega
     · have hz2 : (E == 0) = false := by simp [hz]
       go_wp2_with fail
       all_goals
         go_ret
         exact ⟨HB2.out,   .inr ⟨j, hlt, HA.out, by rw [<- HE.out]; exact hz, by rw [<- HE.out]; rfl⟩⟩
   · obtain rfl : j = n := by omega
     go_wp2_with fail
     go_ret
     exact ⟨HBL.out, .inl ⟨rfl, HA.out, HI.out⟩⟩
def Op2 (F : FuncId) (f : ByteArray -> ByteArray -> Option Int) : Prop :=
 (∀ args w, (callFunc F args).run Tryz.prog w = .ok (.enter F args) w) /\ ∀ a b w, a.size <= 9000000000000000000 -> b.size <= 9000000000000000000 -> Calls Tryz.prog F #[.string a, .string b] w (OutO (f a b) w)
theorem step_set {S : Nat -> Prop} {F : FuncId} {f : ByteArray -> ByteArray -> Option Int} (hF : Op2 F f) (B T : Nat) (x y : Addr) (sx sy : ByteArray) (old : Value) (W0 W : World) (ho : Onl S W0 W) (hc : Cap W0 B T F x y) (hx : W.cell? x = some (.string sx)) (hy : W.cell? y = some (.string sy))
   (hT : Blk W T 9 #[old]) (hST : S T ∨ W0.heap.size <= T) (h0 : ¬ S B) (h1 : ¬ S (B + 1)) (h2 : ¬ S (B + 2)) (h3 : ¬ S (B + 3)) (hx9 : sx.size <= 9000000000000000000) (hy9 : sy.size <= 9000000000000000000) :
   Calls Tryz.prog 93 #[at0 (B + 1), at0 (B + 2), at0 (B + 3), at0 B] W fun e W' => e = .returned (.int .i64 (okE (f sx sy))) /\ Onl S W0 W' /\ W.grownBy W' (some T) /\ Blk W' T 9 #[.string (okS (f sx sy))] := by
 refine (set_run F B T x y sx sy (okS (f sx sy)) (okE (f sx sy)) old W (ho.cap hc h0 h1 h2 h3) hx hy hT hF.1 (fun W2 _ => hF.2 sx sy W2 hx9 hy9)).mono fun e W' ⟨he, hg, hb⟩ => ⟨he, ho.only hg hST, hg, hb⟩
theorem op2_add : Op2 64 (fun a b => opR (· + ·) a.data.toList b.data.toList) := ⟨enters_of Tryz.func64 (by kernel_rfl) rfl, fun a b w ha hb => add_any a b w ha hb⟩
theorem op2_sub : Op2 103 (fun a b => opR (· - ·) a.data.toList b.data.toList) := ⟨enters_of Tryz.func103 (by kernel_rfl) rfl, fun a b w ha hb => sub_any a b w ha hb⟩
theorem op2_mul : Op2 77 (fun a b => opR (· * ·) a.data.toList b.data.toList) := ⟨enters_of Tryz.func77 (by kernel_rfl) rfl, fun a b w ha hb => mul_any a b w ha hb⟩
theorem op2_gcd : Op2 89 (fun a b => opR (fun x y => ((Nat.gcd x.natAbs y.natAbs : Nat) : Int)) a.data.toList b.data.toList) := ⟨enters_of Tryz.func89 (by kernel_rfl) rfl, fun a b w ha hb => gcd_any a b w ha hb⟩
set_option maxRecDepth 100000 in
theorem quot_any (a b : ByteArray) (w : World) (ha : a.size <= 9000000000000000000) (hb : b.size <= 9000000000000000000) :
   Calls Tryz.prog 90 #[.string a, .string b] w (OutO ((divR a.data.toList b.data.toList).map (·.1)) w) := by
 have hd := div_any a b w ha hb
 unfold OutDP at hd
 cases hr : divR a.data.toList b.data.toList with
 | none =>
   rw [hr] at hd
   have HD := Lib.hid hd
   clear hd hr
   go_enter Tryz.func90, Tryz.ntmps90
   go_wp2_with fail
   refine HD.out.mono ?_
   rintro e w1 ⟨rfl, hb1⟩
   go_wp2_with fail
   go_ret2
   exact ⟨rfl, hb1⟩
 | some q =>
   rw [hr] at hd
   have HD := Lib.hid hd
   clear hd hr
   go_enter Tryz.func90, Tryz.ntmps90
   go_wp2_with fail
   refine HD.out.mono ?_
   rintro e w1 ⟨rfl, hb1⟩
   go_wp2_with fail
   go_ret2
   exact ⟨rfl, hb1⟩
theorem op2_quot : Op2 90 (fun a b => (divR a.data.toList b.data.toList).map (·.1)) := ⟨enters_of Tryz.func90 (by kernel_rfl) rfl, fun a b w ha hb => quot_any a b w ha hb⟩
theorem okS_size {f : Int -> Int -> Int} {a b : List UInt8} : (okS (opR f a b)).size <= 9000000000000000000 := by
 cases hr : opR f a b with
 | none => exact Nat.zero_le _
 | some z =>
   have hz : z.natAbs < 10 ^ 200 := by
     unfold opR at hr
     cases hx : rd a with
     | none => rw [hx] at hr; cases hr
     | some x =>
       cases hy : rd b with
       | none => rw [hx, hy] at hr; cases hr
       | some y =>
         rw [hx, hy] at hr
         have h2 : lim (f x y) = some z := hr
         unfold lim at h2
         split at h2
         · cases h2; assumption
         · cases h2
   have := zS_small hz
   show (zS z).size <= _
   omega
def Inv (S : Nat -> Prop) (W0 : World) (σ : Nat -> Option ByteArray) (W : World) : Prop := Onl S W0 W /\ ∀ k s, σ k = some s -> Blk W k 9 #[.string s]
def put (σ : Nat -> Option ByteArray) (T : Nat) (r : ByteArray) : Nat -> Option ByteArray := fun k => if k = T then some r else σ k
def nos : Nat -> Option ByteArray := fun _ => none
theorem put_at {σ : Nat -> Option ByteArray} {T : Nat} {r : ByteArray} : put σ T r T = some r := by simp [put]
theorem put_ne {σ : Nat -> Option ByteArray} {T k : Nat} {r : ByteArray} (h : k ≠ T) : put σ T r k = σ k := by simp [put, h]
def Rds (S : Nat -> Prop) (W0 : World) (σ : Nat -> Option ByteArray) (x : Addr) (s : ByteArray) : Prop :=
 (∃ k, x = ⟨k, 0, none⟩ /\ σ k = some s) ∨ (¬ S x.block /\ W0.cell? x = some (.string s))
section
variable {S : Nat -> Prop} {W0 W : World} {σ : Nat -> Option ByteArray}
theorem Inv.rds {x : Addr} {s : ByteArray} (h : Inv S W0 σ W) (hx : Rds S W0 σ x s) : W.cell? x = some (.string s) := by
 rcases hx with ⟨k, rfl, hk⟩ | ⟨hs, hc⟩
 · exact (h.2 k s hk).cell (i := 0) rfl
 · exact (World.cell?_of_block (w := W0) (w' := W) (a := x) (h.1.block _ (World.block_lt_of_cell? W0 _ hc) hs)).trans hc
theorem Inv.nos (W : World) : Inv S W nos W := ⟨Onl.refl _ _, fun _ _ h => by cases h⟩
theorem Inv.put {T : Nat} {s : ByteArray} (h : Inv S W0 σ W) (hb : Blk W T 9 #[.string s]) : Inv S W0 (put σ T s) W := ⟨h.1, fun k r hk => by
 by_cases e : k = T
 · subst e; rw [put_at] at hk; cases hk; exact hb
 · rw [put_ne e] at hk; exact h.2 k r hk⟩
theorem Inv.cell {k : Nat} {s : ByteArray} (h : Inv S W0 σ W) (hk : σ k = some s) : Blk W k 9 #[.string s] := h.2 k s hk
theorem set_inv {F : FuncId} {f : ByteArray -> ByteArray -> Option Int} (hF : Op2 F f) (B T : Nat) (x y : Addr) (sx sy old : ByteArray) (hc : Cap W0 B T F x y) (hx : Rds S W0 σ x sx) (hy : Rds S W0 σ y sy) (hT : σ T = some old) (hST : S T ∨ W0.heap.size <= T)
   (hB : ∀ k, B <= k -> k <= B + 3 -> ¬ S k) (hx9 : sx.size <= 9000000000000000000) (hy9 : sy.size <= 9000000000000000000) (hI : Inv S W0 σ W) :
   Calls Tryz.prog 93 #[at0 (B + 1), at0 (B + 2), at0 (B + 3), at0 B] W fun e W' => e = .returned (.int .i64 (okE (f sx sy))) /\ Onl S W0 W' /\ (okE (f sx sy) = 0 -> Inv S W0 (_root_.Go.Proofs.YtpjbihfkedbenaaGreat.put σ T (okS (f sx sy))) W') := by
 refine (step_set hF B T x y sx sy (.string old) W0 W hI.1 hc (hI.rds hx) (hI.rds hy) (hI.2 T old hT) hST (hB _ (by omega) (by omega)) (hB _ (by omega) (by omega)) (hB _ (by omega) (by omega)) (hB _ (by omega) (by omega)) hx9 hy9).mono fun e W' ⟨he, ho, hg, hb⟩ => ⟨he, ?_, fun _ => ⟨ho, fun k s hk => ?_⟩⟩
 · exact ho
 · by_cases e : k = T
   · subst e; rw [put_at] at hk; cases hk; exact hb
   · rw [put_ne e] at hk
     exact (hI.2 k s hk).only hg (fun h => by cases h; exact e rfl)
end
def s48 : ByteArray := ⟨#[48]⟩
def tc (b : ByteArray) : Int := cmpR b.data.toList s48.data.toList
def neg0 (a : ByteArray) : Option Int := opR (· - ·) s48.data.toList a.data.toList
def turnE (a b : ByteArray) : Int := if tc b = 0 then 40 else if tc b = 1 then 0 else if okE (neg0 a) = 0 then okE (neg0 b) else okE (neg0 a)
def turnN (a b : ByteArray) : ByteArray := if tc b = 1 then a else okS (neg0 a)
def turnD (b : ByteArray) : ByteArray := if tc b = 1 then b else okS (neg0 b)
theorem tc_cases (b : ByteArray) : tc b = 0 ∨ tc b = 1 ∨ tc b = -1 := by
 unfold tc cmpR
 split
 · unfold ordI; split
   · simp
   · split <;> simp
 · simp
set_option maxRecDepth 100000 in
theorem turn_chain (g B1 B2 Z N D : Nat) (a b : ByteArray) (W : World) (h1 : Cap W B1 N 103 ⟨Z, 0, none⟩ ⟨N, 0, none⟩) (h2 : Cap W B2 D 103 ⟨Z, 0, none⟩ ⟨D, 0, none⟩) (hz : Blk W Z 9 #[.string s48])
   (hg : Blk W g 104 #[stepV B1, stepV B2]) (hN : Blk W N 9 #[.string a]) (hD : Blk W D 9 #[.string b]) (hND : N ≠ D) (hx : N < B1 /\ D < B1 /\ N < B2 /\ D < B2 /\ N < Z /\ D < Z /\ N < g /\ D < g) (ha : a.size <= 9000000000000000000) (hb : b.size <= 9000000000000000000) :
   Calls Tryz.prog 71 #[.slice (some ⟨g, 0, none⟩) 2 2] W (OutFol (fun k => k = N ∨ k = D) 2 (fun i => if i = 0 then okE (neg0 a) else okE (neg0 b)) (fun i W' => Inv (fun k => k = N ∨ k = D) W (if i = 0 then put (put nos N a) D b else if i = 1 then put (put (put nos N a) D b) N (okS (neg0 a)) else put (put (put (put nos N a) D b) N (okS (neg0 a))) D (okS (neg0 b))) W') W) := by
 have hZ := hz.cell (i := 0) (v := .string s48) rfl
 refine follow_any (fun k => k = N ∨ k = D) g 2 (fun _ => 93) (fun i => if i = 0 then #[at0 (B1 + 1), at0 (B1 + 2), at0 (B1 + 3), at0 B1] else #[at0 (B2 + 1), at0 (B2 + 2), at0 (B2 + 3), at0 B2]) _ _ W (by omega) (((Inv.nos W).put hN).put hD) (fun _ _ => enters_of Tryz.func93 (by kernel_rfl) rfl) ?_ ?_
 · intro i W' hi hI
   have hg2 := hI.1.blk hg (by omega)
   match i, hi with
   | 0, _ => exact hg2.cell (i := 0) rfl
   | 1, _ => exact hg2.cell (i := 1) rfl
 · intro i hi W' hI
   match i, hi with
   | 0, _ => exact set_inv op2_sub B1 N ⟨Z, 0, none⟩ ⟨N, 0, none⟩ s48 a a h1 (.inr ⟨by show ¬ (Z = N ∨ Z = D); omega, hZ⟩) (.inl ⟨N, rfl, by rw [put_ne hND, put_at]⟩) (by rw [put_ne hND, put_at]) (.inl (.inl rfl)) (fun k hk _ => by show ¬ (k = N ∨ k = D); omega) (by decide) ha hI
   | 1, _ => exact set_inv op2_sub B2 D ⟨Z, 0, none⟩ ⟨D, 0, none⟩ s48 b b h2 (.inr ⟨by show ¬ (Z = N ∨ Z = D); omega, hZ⟩) (.inl ⟨D, rfl, by simp [put, Ne.symm hND]⟩) (by simp [put, Ne.symm hND]) (.inl (.inr rfl)) (fun k hk _ => by show ¬ (k = N ∨ k = D); omega) (by decide) hb hI
end Go.Proofs.YtpjbihfkedbenaaGreat
