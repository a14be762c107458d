/- PlaneHulls answers true. Conditions: ints, the rows read. -/
import Derived.Maps.AppendAt
import Derived.Test.YtpjbihfkedbenaaGreatHL
import Derived.Test.YtpjbihfkedbenaaGreatHM
import Derived.Test.YtpjbihfkedbenaaGreatKSd7
namespace Go.Proofs.YtpjbihfkedbenaaGreat
open Go.RowKit Go.Lib
theorem wp_append_at {α : Type} {cs : α -> List Value} {k : Nat} {T TS : TypeId} (ap : Ap cs k T TS) {w : World} {o : Oper} {a : Act} {K : Act -> World -> Prop} {Q : Exit -> Act -> World -> Prop} (s x : Operand)
   (ho : o.op = .call { callee := .builtin .append, args := #[s, x], argTypes := #[TS, TS] }) (B : Nat) (v : Value) (l : List α) (hs : a.eval s = v) (hown : OwnL cs k T w B v l)
   (ad : Addr) (c n : Nat) (m : List α) (hx : a.eval x = .slice (some ad) n c) (hnm : n = m.length) (hm : Rz cs k w (some ad) m) (hn : l.length + m.length <= 1000000) (hbase : B <= w.heap.size)
   (h : ∀ v' w', OwnL cs k T w' B v' (l ++ m) -> w.grownBy w' v.ownBlock -> (v'.ownBlock = v.ownBlock ∨ v'.ownBlock = some w.heap.size) -> K (a.put o.dst v') w') : Oper.wp Tryz.prog o a w K Q := by
 subst hnm
 obtain ⟨i, z, b, hi, hz, hsz, hb, hb1, hzc⟩ := ap.info
 obtain ⟨v', w', hr, h2, h3, h4, h5⟩ := run_append_own_at (P := Tryz.prog) w B TS o.type T i z k b ap.und hi hz hsz hb hzc ap.pos v l.length _ hown ad m.length c (m.flatMap cs) (flat_len ap.len m) (fun j u hj => by
   have hj2 : j < m.length * k := by rw [<- flat_len (cs := cs) ap.len]; exact (List.getElem?_eq_some_iff.1 hj).1
   have hm0 : 0 < m.length := Nat.pos_of_ne_zero fun e => by rw [e, Nat.zero_mul] at hj2; exact absurd hj2 (Nat.not_lt_zero _)
   obtain ⟨b', o', e, _, hc⟩ := hm hm0
   cases e
   have hq : j / k < m.length := (Nat.div_lt_iff_lt_mul ap.pos).2 hj2
   have hr : j % k < k := Nat.mod_lt _ ap.pos
   have hdm : j / k * k + j % k = j := by rw [Nat.mul_comm]; exact Nat.div_add_mod j k
   have key : ∀ (m : List α) (q r : Nat) (hq : q < m.length), r < k -> (m.flatMap cs)[q * k + r]? = (cs m[q])[r]? := by
     intro m
     induction m with
     | nil => intro q r hq; simp at hq
     | cons x t ih =>
       intro q r hq hr
       cases q with
       | zero => rw [List.flatMap_cons, List.getElem?_append_left (by rw [ap.len]; omega)]; simp
       | succ q =>
         rw [List.flatMap_cons, List.getElem?_append_right (by rw [ap.len, Nat.add_mul]; omega), show (q + 1) * k + r - (cs x).length = q * k + r from by rw [ap.len, Nat.add_mul]; omega]
         exact ih q r (by simpa using hq) hr
   have h2 := key m (j / k) (j % k) hq hr
   rw [hdm, hj] at h2
   have h3 := hc (j / k) hq (j % k) u h2.symm
   have e : (⟨b', o', none⟩ : Addr).add j = ⟨b', o' + j, none⟩ := by unfold Addr.add; split <;> simp_all
   rw [e]
   rwa [show o' + j / k * k + j % k = o' + j from by omega] at h3) (fun u hu => by
   obtain ⟨y, hy, hu⟩ := List.mem_flatMap.1 hu
   exact ap.one y u hu) (by unfold maxLen; omega) (Nat.le_trans (Nat.mul_le_mul_left _ hb1) (by omega)) hbase
 unfold Oper.wp execOp
 simp only [ho, resolve, invoke, builtin, Sem.run_bind, Sem.run_pure, Result.andThen_ok, List.map_toArray, List.map_cons, List.map_nil, hs, hx, hr]
 exact h v' w' (by
     unfold OwnL
     rw [List.length_append, List.flatMap_append]; exact h2) h3 h5
theorem oz_none7 (w : World) (B : Nat) (hb : B <= w.heap.size) : Oz (w.alloc (.cells #[] 31)) B (.slice (some ⟨w.heap.size, 0, none⟩) 0 0) ([] : List P7) :=
 ⟨rfl, Or.inr ⟨w.heap.size, 0, _, rfl, hb, Blk.new w _ _, Nat.le_refl _, by unfold maxLen; omega, rfl, rfl⟩⟩
theorem hul_mem7 {l : List P7} {k : Nat} {hk : k < l.length} {d : P7} (hlk : l[k] = d) : ∀ x, x ∈ l ↔ x ∈ ([] ++ l.drop k ++ l.take k ++ [d]) := fun x => by
 have h1 : l.take k ++ l.drop k = l := List.take_append_drop k l
 have hd : d ∈ l := by rw [<- hlk]; exact List.getElem_mem hk
 simp only [List.nil_append, List.mem_append, List.mem_singleton]
 constructor
 · intro h
   rw [<- h1, List.mem_append] at h
   rcases h with h | h
   · exact Or.inl (Or.inr h)
   · exact Or.inl (Or.inl h)
 · rintro ((h | h) | rfl)
   · exact List.mem_of_mem_drop h
   · exact List.mem_of_mem_take h
   · exact hd
theorem cut7 {G : Prop} (I : Value -> World -> Prop) (R : Nat -> Nat -> Value -> Value -> Value -> World -> Prop) (h1 : (∀ p0 pN v1 v2 v3 w, I v3 w -> R p0 pN v1 v2 v3 w) -> G) (h2 : ∀ p0 pN v1 v2 v3 w, I v3 w -> R p0 pN v1 v2 v3 w) : G := h1 h2
theorem Few7.hul {l : List P7} (h : Few7 l) : hul7 fits7 l = hul7 tf7 l := hul7_ok fun x hx y hy z hz => fits7_ok (h.ls.2 x hx) (h.ls.2 y hy) (h.ls.2 z hz)
set_option maxRecDepth 100000 in
set_option maxHeartbeats 32000000 in
theorem plane_hulls (A : Option Addr) (n c : Nat) (tu : Int) (w : World) (hA : Xz 2 w A n) (hz : n <= 9223372036854775807) (ht : I64 tu) : Yl 3 #[.slice A n c, .int .i64 tu] w (.bool true) := by
 have HSN := Lib.hid sane7_any
 have HX := Lib.hid hA; have HN := Lib.hid hz; have HT := Lib.hid ht
 clear hA hz ht
 go_enter Tryz.func3, Tryz.ntmps3
 go_wp2_with fail
 refine (HSN.out _).mono ?_
 rintro e w1 ⟨rfl, hb1⟩
 have HP := Lib.hid (rplaces_any A n c w1 (HX.out.below hb1 (Nat.le_refl _)) HN.out)
 have HB1 := Lib.hid hb1
 clear hb1
 go_wp2_with fail
 refine HP.out.mono ?_
 rintro e w2 ⟨⟨l, vl, rfl, hf, hol⟩, hb2⟩
 obtain ⟨A1, c1, rfl, hz1, hc1, hn1, hm1⟩ := OwnL.read apP hol
 have hlen := hf.1
 obtain ⟨b1, o1, rfl⟩ := hz1.some (by omega)
 have HF := Lib.hid hf; have HB2 := Lib.hid (HB1.out.trans (hb2.mono HB1.out.size)); have HZ1 := Lib.hid hz1
 have HH := Lib.hid (pHull_yes l _ c1 w2 hz1 hf.ls)
 rw [hf.hul] at HH
 clear hf hol hb2 hz1 HB1 HP hn1
 go_wp2_with fail
 refine HH.out.mono ?_
 rintro e w3 ⟨⟨vh, rfl, hoh⟩, hb3⟩
 have hcn := hul7_corners (l := l) (by omega)
 have hag := hul7_again (l := l) (by omega)
 have hml : ∀ m : List P7, (∀ x, x ∈ l ↔ x ∈ m) -> hul7 tf7 m = hul7 tf7 l := fun m h => (hul7_same h).symm
 obtain ⟨h, hh⟩ : ∃ h, h = hul7 tf7 l := ⟨_, rfl⟩
 rw [<- hh] at hoh hcn hag hml
 obtain ⟨A2, c2, rfl, hz2, hc2, _, _⟩ := OwnL.read apP hoh
 have hp2 := hcn.pos; have hl2 := hcn.len
 obtain ⟨b2, o2, rfl⟩ := hz2.some (by omega)
 have hfh : Few7 h := ⟨⟨by omega, by omega⟩, fun p hp => by obtain ⟨i, hi, rfl⟩ := List.getElem_of_mem hp; exact HF.out.2 _ (hcn.mem i hi)⟩
 have HFH := Lib.hid hfh
 have HB3 := Lib.hid (HB2.out.trans (hb3.mono HB2.out.size)); have HZ1b := Lib.hid (HZ1.out.below hb3 (Nat.le_refl _)); have HZ2 := Lib.hid hz2
 have HH2 := Lib.hid (pHull_yes h _ c2 w3 hz2 hfh.ls)
 rw [hfh.hul, hag] at HH2
 have HCN := Lib.hid hcn; have HML := Lib.hid hml
 clear hoh hb3 hz2 HH HZ1 HB2 hcn hml hag hh hfh
 go_wp2_with fail
 refine HH2.out.mono ?_
 rintro e w4 ⟨⟨va, rfl, hoa⟩, hb4⟩
 obtain ⟨A3, c3, rfl, hz3, hc3, _, _⟩ := OwnL.read apP hoa
 obtain ⟨b3, o3, rfl⟩ := hz3.some (by omega)
 have HB4 := Lib.hid (HB3.out.trans (hb4.mono HB3.out.size)); have HZ1 := Lib.hid (HZ1b.out.below hb4 (Nat.le_refl _)); have HZ2b := Lib.hid (HZ2.out.below hb4 (Nat.le_refl _)); have HZ3 := Lib.hid hz3
 clear hoa hb4 hz3 HH2 HB3 HZ1b HZ2
 have hpk := pk7_in tu (n := (l.length : Int)) (by omega)
 have HPK := Lib.hid (fun W => lpick_any tu (l.length : Int) W HT.out (by omega))
 obtain ⟨k, hk⟩ : ∃ k : Nat, pk7 tu (l.length : Int) = (k : Int) := ⟨(pk7 tu (l.length : Int)).toNat, by omega⟩
 rw [hk] at HPK hpk
 clear hk
 go_wp2_with fail
 refine (HPK.out _).mono ?_
 rintro e w5 ⟨rfl, hb5⟩
 have HB5 := Lib.hid (HB4.out.trans (hb5.mono HB4.out.size)); have HZ1b := Lib.hid (HZ1.out.below hb5 (Nat.le_refl _)); have HZ2 := Lib.hid (HZ2b.out.below hb5 (Nat.le_refl _)); have HZ3b := Lib.hid (HZ3.out.below hb5 (Nat.le_refl _))
 clear hb5 HB4 HZ1 HZ2b HZ3 HPK HSN HX HN HT
 obtain ⟨d, hd⟩ : ∃ d, l[k]? = some d := ⟨l[k]'(by omega), by simp⟩
 have HDL : Hid (l.length - k = (l.drop k).length) := Lib.hid (by rw [List.length_drop])
 have HTL : Hid (k = (l.take k).length) := Lib.hid (by rw [List.length_take]; omega)
 have HS4 : Hid (([] : List P7).length + (l.drop k).length <= 1000000) := Lib.hid (by simp; omega)
 have HS8 : Hid (([] ++ l.drop k).length + (l.take k).length <= 1000000) := Lib.hid (by simp; omega)
 have HS14 : Hid (([] ++ l.drop k ++ l.take k).length <= 1000000) := Lib.hid (by simp; omega)
 have hkl : k < l.length := by omega
 have hlk : l[k] = d := by rw [List.getElem?_eq_getElem hkl] at hd; exact Option.some.inj hd
 have HC0 : Hid (∀ w', Below w5.heap.size w5 w' -> w'.cell? ⟨b1, o1 + k * 2, none⟩ = some (.int .i64 d.x) /\ w'.cell? ⟨b1, o1 + k * 2 + 1, none⟩ = some (.int .i64 d.y)) := Lib.hid (fun w' hb => ⟨HZ1b.out.cells hb (Nat.le_refl _) hkl (j := 0) (by rw [hlk]; rfl), HZ1b.out.cells hb (Nat.le_refl _) hkl (j := 1) (by rw [hlk]; rfl)⟩)
 have g1 : (k : Int) <= (l.length : Int) := by omega
 have g2 : (k : Int) < (l.length : Int) := by omega
 have g3 : (0 : Int) <= (k : Int) := by omega
 have g4 : (k : Int) <= (c1 : Int) := by omega
 have g6 : ¬ c1 = k := by omega
 have g5 : (l.length : Int) <= (c1 : Int) := by omega
 go_wp2_with fail
 apply cut7 (fun v w' => Below w5.heap.size w5 w' /\ Oz w' w5.heap.size v ([] ++ l.drop k ++ l.take k ++ [d]))
 case h1 =>
   intro hcut
   refine wp_region_grow (S := (fun w' => w'.cell? ⟨b1, o1 + k * 2, none⟩ = some (.int .i64 d.x) /\ w'.cell? ⟨b1, o1 + k * 2 + 1, none⟩ = some (.int .i64 d.y))) ((fun w' => Below w5.heap.size w5 w')) (by kernel_rfl) (⟨fun w2 h2 => ⟨(HC0.out _ h2).1, (HC0.out _ h2).2⟩, fun w2 w3 h2 hb2 => h2.trans (hb2.mono h2.size)⟩) ((Below.refl _ _).drew) (fun hCalm => ?_)
   refine grow_take 1 (some 36) ?_ rfl rfl (by kernel_rfl) (fun _ _ _ h => h) (by kernel_rfl) hCalm ?_ ?_
   rotate_left
   · intro wS hS; (try dsimp only at hS); go_simp <;> with_reducible rfl
   try simp only [Act.put, q8a, q8b, q8c]
   refine grow_take 2 (some 37) ?_ rfl rfl (by kernel_rfl) (fun _ _ _ h => h) (by kernel_rfl) hCalm ?_ ?_
   rotate_left
   · intro wS hS; (try dsimp only at hS); go_simp <;> with_reducible rfl
   try simp only [Act.put, q8a, q8b, q8c]
   refine grow_take 3 (some 38) ?_ rfl rfl (by kernel_rfl) (fun _ _ _ h => h) (by kernel_rfl) hCalm ?_ ?_
   rotate_left
   · intro wS hS; (try dsimp only at hS); go_simp <;> with_reducible rfl
   try simp only [Act.put, q8a, q8b, q8c]
   refine grow_take 5 (some 40) ?_ rfl rfl (by kernel_rfl) (fun _ _ _ h => h) (by kernel_rfl) hCalm ?_ ?_
   rotate_left
   · intro wS hS; (try dsimp only at hS); go_simp <;> with_reducible rfl
   try simp only [Act.put, q8a, q8b, q8c]
   refine grow_take 6 (some 41) ?_ rfl rfl (by kernel_rfl) (fun _ _ _ h => h) (by kernel_rfl) hCalm ?_ ?_
   rotate_left
   · intro wS hS; (try dsimp only at hS); go_simp <;> with_reducible rfl
   try simp only [Act.put, q8a, q8b, q8c]
   refine grow_take 7 (some 42) ?_ rfl rfl (by kernel_rfl) (fun _ _ _ h => h) (by kernel_rfl) hCalm ?_ ?_
   rotate_left
   · intro wS hS; (try dsimp only at hS); go_simp <;> with_reducible rfl
   try simp only [Act.put, q8a, q8b, q8c]
   refine grow_take 9 (some 44) ?_ rfl rfl (by kernel_rfl) (fun _ _ _ h => h) (by kernel_rfl) hCalm ?_ ?_
   rotate_left
   · intro wS hS; (try dsimp only at hS); go_simp <;> with_reducible rfl
   try simp only [Act.put, q8a, q8b, q8c]
   refine grow_take 10 (some 45) ?_ rfl rfl (by kernel_rfl) (fun _ _ _ h => h) (by kernel_rfl) hCalm ?_ ?_
   rotate_left
   · intro wS hS; (try dsimp only at hS); go_simp <;> with_reducible rfl
   try simp only [Act.put, q8a, q8b, q8c]
   refine grow_take 11 (some 46) ?_ rfl rfl (by kernel_rfl) (fun _ _ _ h => h) (by kernel_rfl) hCalm ?_ ?_
   rotate_left
   · intro wS hS; (try dsimp only at hS); go_simp <;> with_reducible rfl
   try simp only [Act.put, q8a, q8b, q8c]
   refine grow_take 12 (some 47) ?_ rfl rfl (by kernel_rfl) (fun _ _ _ h => h) (by kernel_rfl) hCalm ?_ ?_
   rotate_left
   · intro wS hS; (try dsimp only at hS); go_simp <;> with_reducible rfl
   try simp only [Act.put, q8a, q8b, q8c]
   refine grow_each [0, 13] (by kernel_rfl) (by decide) ?_
   refine grow_cons 0 rfl (by kernel_rfl) (fun wA hA K hK => ?_) ?_
   case _ =>
     obtain ⟨p0, hp0⟩ : ∃ b, b = wA.heap.size := ⟨_, rfl⟩
     have hnw := oz_none7 wA w5.heap.size hA.size
     rw [<- hp0] at hnw
     go_simp
     rw [<- hp0]
     refine hK.out _ _ (fun w' => Below w5.heap.size w5 w' /\ Oz w' w5.heap.size (.slice (some ⟨p0, 0, none⟩) 0 0) ([] : List P7)) ⟨fun w2 h2 => ⟨(HC0.out _ h2.1).1, (HC0.out _ h2.1).2⟩, fun w2 w3 h2 hb2 => ⟨h2.1.trans (hb2.mono h2.1.size), OwnL.below h2.2 hb2⟩⟩ ⟨hA.alloc hA.size _, hnw⟩ ?_
     clear hnw hp0 hK K hA wA hCalm
     have hCalm : Calm (fun w' => w'.cell? ⟨b1, o1 + k * 2, none⟩ = some (.int .i64 d.x) /\ w'.cell? ⟨b1, o1 + k * 2 + 1, none⟩ = some (.int .i64 d.y)) (fun w' => Below w5.heap.size w5 w' /\ Oz w' w5.heap.size (.slice (some ⟨p0, 0, none⟩) 0 0) ([] : List P7)) := ⟨fun w2 h2 => ⟨(HC0.out _ h2.1).1, (HC0.out _ h2.1).2⟩, fun w2 w3 h2 hb2 => ⟨h2.1.trans (hb2.mono h2.1.size), OwnL.below h2.2 hb2⟩⟩
     try simp only [Act.put, q8a, q8b, q8c]
     refine grow_each [4, 13] (by kernel_rfl) (by decide) ?_
     refine grow_cons 4 rfl (by kernel_rfl) (fun wA hA K hK => ?_) ?_
     case _ =>
       refine wp_append_at apP _ _ rfl w5.heap.size (.slice (some ⟨p0, 0, none⟩) 0 0) ([] : List P7) rfl hA.2 ⟨b1, o1 + k * 2, none⟩ (c1 - k) (l.length - k) (l.drop k) rfl HDL.out ((HZ1b.out.drop k).below hA.1 (Nat.le_refl _)) HS4.out hA.1.size ?_
       intro v1 w6 hown6 hgrow6 hat6
       have hbg := hA.1.grown hgrow6 hA.1.size (fun q e => OwnL.block hA.2 e)
       refine hK.out _ _ (fun w' => Below w5.heap.size w5 w' /\ Oz w' w5.heap.size v1 ([] ++ l.drop k)) ⟨fun w2 h2 => ⟨(HC0.out _ h2.1).1, (HC0.out _ h2.1).2⟩, fun w2 w3 h2 hb2 => ⟨h2.1.trans (hb2.mono h2.1.size), OwnL.below h2.2 hb2⟩⟩ ⟨hbg, hown6⟩ ?_
       clear hbg hown6 hgrow6 hat6  w6 hK K hA wA hCalm
       have hCalm : Calm (fun w' => w'.cell? ⟨b1, o1 + k * 2, none⟩ = some (.int .i64 d.x) /\ w'.cell? ⟨b1, o1 + k * 2 + 1, none⟩ = some (.int .i64 d.y)) (fun w' => Below w5.heap.size w5 w' /\ Oz w' w5.heap.size v1 ([] ++ l.drop k)) := ⟨fun w2 h2 => ⟨(HC0.out _ h2.1).1, (HC0.out _ h2.1).2⟩, fun w2 w3 h2 hb2 => ⟨h2.1.trans (hb2.mono h2.1.size), OwnL.below h2.2 hb2⟩⟩
       try simp only [Act.put, q8a]
       refine grow_each [8, 13] (by kernel_rfl) (by decide) ?_
       refine grow_cons 8 rfl (by kernel_rfl) (fun wA hA K hK => ?_) ?_
       case _ =>
         refine wp_append_at apP _ _ rfl w5.heap.size v1 ([] ++ l.drop k) rfl hA.2 ⟨b1, o1, none⟩ c1 k (l.take k) rfl HTL.out ((HZ1b.out.take k).below hA.1 (Nat.le_refl _)) HS8.out hA.1.size ?_
         intro v2 w6 hown6 hgrow6 hat6
         have hbg := hA.1.grown hgrow6 hA.1.size (fun q e => OwnL.block hA.2 e)
         refine hK.out _ _ (fun w' => Below w5.heap.size w5 w' /\ Oz w' w5.heap.size v2 ([] ++ l.drop k ++ l.take k)) ⟨fun w2 h2 => ⟨(HC0.out _ h2.1).1, (HC0.out _ h2.1).2⟩, fun w2 w3 h2 hb2 => ⟨h2.1.trans (hb2.mono h2.1.size), OwnL.below h2.2 hb2⟩⟩ ⟨hbg, hown6⟩ ?_
         clear hbg hown6 hgrow6 hat6  w6 hK K hA wA hCalm
         have hCalm : Calm (fun w' => w'.cell? ⟨b1, o1 + k * 2, none⟩ = some (.int .i64 d.x) /\ w'.cell? ⟨b1, o1 + k * 2 + 1, none⟩ = some (.int .i64 d.y)) (fun w' => Below w5.heap.size w5 w' /\ Oz w' w5.heap.size v2 ([] ++ l.drop k ++ l.take k)) := ⟨fun w2 h2 => ⟨(HC0.out _ h2.1).1, (HC0.out _ h2.1).2⟩, fun w2 w3 h2 hb2 => ⟨h2.1.trans (hb2.mono h2.1.size), OwnL.below h2.2 hb2⟩⟩
         try simp only [Act.put]
         refine grow_each [13] (by kernel_rfl) (by decide) ?_
         refine grow_cons 13 rfl (by kernel_rfl) (fun wA hA K hK => ?_) grow_nil
         obtain ⟨pN, hpN⟩ : ∃ b, b = wA.heap.size := ⟨_, rfl⟩
         have hne : Value.ownBlock v2 ≠ some pN := fun e => absurd (World.ownsRow.lt hA.2 _ e).2 (by omega)
         have hnew : Blk (wA.alloc (.cells #[.int .i64 d.x, .int .i64 d.y] 31)) pN 31 #[.int .i64 d.x, .int .i64 d.y] := by rw [hpN]; exact Blk.new wA _ _
         go_simp
         rw [<- hpN]
         refine hK.out _ _ (fun w' => Below w5.heap.size w5 w' /\ Oz w' w5.heap.size v2 ([] ++ l.drop k ++ l.take k) /\ Blk w' pN 31 #[.int .i64 d.x, .int .i64 d.y]) ⟨fun w2 h2 => ⟨(HC0.out _ h2.1).1, (HC0.out _ h2.1).2⟩, fun w2 w3 h2 hb2 => ⟨h2.1.trans (hb2.mono h2.1.size), OwnL.below h2.2.1 hb2, h2.2.2.below hb2 h2.2.2.lt⟩⟩ ⟨hA.1.alloc hA.1.size _, OwnL.below hA.2 ((Below.refl _ _).alloc (Nat.le_refl _) _), hnew⟩ ?_
         clear hnew hpN hK K hA wA hCalm
         have hCalm : Calm (fun w' => w'.cell? ⟨b1, o1 + k * 2, none⟩ = some (.int .i64 d.x) /\ w'.cell? ⟨b1, o1 + k * 2 + 1, none⟩ = some (.int .i64 d.y)) (fun w' => Below w5.heap.size w5 w' /\ Oz w' w5.heap.size v2 ([] ++ l.drop k ++ l.take k) /\ Blk w' pN 31 #[.int .i64 d.x, .int .i64 d.y]) := ⟨fun w2 h2 => ⟨(HC0.out _ h2.1).1, (HC0.out _ h2.1).2⟩, fun w2 w3 h2 hb2 => ⟨h2.1.trans (hb2.mono h2.1.size), OwnL.below h2.2.1 hb2, h2.2.2.below hb2 h2.2.2.lt⟩⟩
         try simp only [Act.put, q8a, q8b, q8c]
         refine grow_each [14] (by kernel_rfl) (by decide) ?_
         refine grow_cons 14 rfl (by kernel_rfl) (fun wA hA K hK => ?_) grow_nil
         refine wp_append_one apP _ _ rfl w5.heap.size v2 ([] ++ l.drop k ++ l.take k) rfl hA.2.1 pN d rfl hA.2.2 HS14.out hA.1.size ?_
         intro v3 w6 hown6 hgrow6
         have hbg := hA.1.grown hgrow6 hA.1.size (fun q e => OwnL.block hA.2.1 e)
         refine hK.out _ _ (fun w' => Below w5.heap.size w5 w' /\ Oz w' w5.heap.size v3 ([] ++ l.drop k ++ l.take k ++ [d])) ⟨fun w2 h2 => ⟨(HC0.out _ h2.1).1, (HC0.out _ h2.1).2⟩, fun w2 w3 h2 hb2 => ⟨h2.1.trans (hb2.mono h2.1.size), OwnL.below h2.2 hb2⟩⟩ ⟨hbg, hown6⟩ ?_
         clear hbg hown6 hgrow6 w6 hK K hA wA hCalm
         have hCalm : Calm (fun w' => w'.cell? ⟨b1, o1 + k * 2, none⟩ = some (.int .i64 d.x) /\ w'.cell? ⟨b1, o1 + k * 2 + 1, none⟩ = some (.int .i64 d.y)) (fun w' => Below w5.heap.size w5 w' /\ Oz w' w5.heap.size v3 ([] ++ l.drop k ++ l.take k ++ [d])) := ⟨fun w2 h2 => ⟨(HC0.out _ h2.1).1, (HC0.out _ h2.1).2⟩, fun w2 w3 h2 hb2 => ⟨h2.1.trans (hb2.mono h2.1.size), OwnL.below h2.2 hb2⟩⟩
         try simp only [Act.put, q8a]
         refine grow_take 15 (some 11) ?_ rfl rfl (by kernel_rfl) (fun _ _ _ h => h) (by kernel_rfl) hCalm ?_ ?_
         rotate_left
         · intro wS hS; (try dsimp only at hS); go_simp <;> with_reducible rfl
         try simp only [Act.put]
         refine grow_done (by kernel_rfl) (fun wA hA => ?_) _
         exact hcut p0 pN v1 v2 v3 wA ⟨hA.1, hA.2⟩
       refine grow_cons 13 rfl (by kernel_rfl) (fun wA hA K hK => ?_) ?_
       case _ =>
         obtain ⟨pN, hpN⟩ : ∃ b, b = wA.heap.size := ⟨_, rfl⟩
         have hne : Value.ownBlock v1 ≠ some pN := fun e => absurd (World.ownsRow.lt hA.2 _ e).2 (by omega)
         have hnew : Blk (wA.alloc (.cells #[.int .i64 d.x, .int .i64 d.y] 31)) pN 31 #[.int .i64 d.x, .int .i64 d.y] := by rw [hpN]; exact Blk.new wA _ _
         go_simp
         rw [<- hpN]
         refine hK.out _ _ (fun w' => Below w5.heap.size w5 w' /\ Oz w' w5.heap.size v1 ([] ++ l.drop k) /\ Blk w' pN 31 #[.int .i64 d.x, .int .i64 d.y]) ⟨fun w2 h2 => ⟨(HC0.out _ h2.1).1, (HC0.out _ h2.1).2⟩, fun w2 w3 h2 hb2 => ⟨h2.1.trans (hb2.mono h2.1.size), OwnL.below h2.2.1 hb2, h2.2.2.below hb2 h2.2.2.lt⟩⟩ ⟨hA.1.alloc hA.1.size _, OwnL.below hA.2 ((Below.refl _ _).alloc (Nat.le_refl _) _), hnew⟩ ?_
         clear hnew hpN hK K hA wA hCalm
         have hCalm : Calm (fun w' => w'.cell? ⟨b1, o1 + k * 2, none⟩ = some (.int .i64 d.x) /\ w'.cell? ⟨b1, o1 + k * 2 + 1, none⟩ = some (.int .i64 d.y)) (fun w' => Below w5.heap.size w5 w' /\ Oz w' w5.heap.size v1 ([] ++ l.drop k) /\ Blk w' pN 31 #[.int .i64 d.x, .int .i64 d.y]) := ⟨fun w2 h2 => ⟨(HC0.out _ h2.1).1, (HC0.out _ h2.1).2⟩, fun w2 w3 h2 hb2 => ⟨h2.1.trans (hb2.mono h2.1.size), OwnL.below h2.2.1 hb2, h2.2.2.below hb2 h2.2.2.lt⟩⟩
         try simp only [Act.put, q8a, q8b, q8c]
         refine grow_each [8] (by kernel_rfl) (by decide) ?_
         refine grow_cons 8 rfl (by kernel_rfl) (fun wA hA K hK => ?_) grow_nil
         refine wp_append_at apP _ _ rfl w5.heap.size v1 ([] ++ l.drop k) rfl hA.2.1 ⟨b1, o1, none⟩ c1 k (l.take k) rfl HTL.out ((HZ1b.out.take k).below hA.1 (Nat.le_refl _)) HS8.out hA.1.size ?_
         intro v2 w6 hown6 hgrow6 hat6
         have hbg := hA.1.grown hgrow6 hA.1.size (fun q e => OwnL.block hA.2.1 e)
         have hlt := hA.2.2.lt
         have hl6 := hA.2.2.only hgrow6 (fun e => hne e.symm)
         have hne2 : Value.ownBlock v2 ≠ some pN := fun e => by rcases hat6 with e2 | e2 <;> rw [e2] at e <;> first | exact hne e | (have e3 := Option.some.inj e; omega)
         clear hne; have hne := hne2; clear hne2 hlt
         refine hK.out _ _ (fun w' => Below w5.heap.size w5 w' /\ Oz w' w5.heap.size v2 ([] ++ l.drop k ++ l.take k) /\ Blk w' pN 31 #[.int .i64 d.x, .int .i64 d.y]) ⟨fun w2 h2 => ⟨(HC0.out _ h2.1).1, (HC0.out _ h2.1).2⟩, fun w2 w3 h2 hb2 => ⟨h2.1.trans (hb2.mono h2.1.size), OwnL.below h2.2.1 hb2, h2.2.2.below hb2 h2.2.2.lt⟩⟩ ⟨hbg, hown6, hl6⟩ ?_
         clear hbg hown6 hgrow6 hat6 hl6 w6 hK K hA wA hCalm
         have hCalm : Calm (fun w' => w'.cell? ⟨b1, o1 + k * 2, none⟩ = some (.int .i64 d.x) /\ w'.cell? ⟨b1, o1 + k * 2 + 1, none⟩ = some (.int .i64 d.y)) (fun w' => Below w5.heap.size w5 w' /\ Oz w' w5.heap.size v2 ([] ++ l.drop k ++ l.take k) /\ Blk w' pN 31 #[.int .i64 d.x, .int .i64 d.y]) := ⟨fun w2 h2 => ⟨(HC0.out _ h2.1).1, (HC0.out _ h2.1).2⟩, fun w2 w3 h2 hb2 => ⟨h2.1.trans (hb2.mono h2.1.size), OwnL.below h2.2.1 hb2, h2.2.2.below hb2 h2.2.2.lt⟩⟩
         try simp only [Act.put, q8a]
         refine grow_each [14] (by kernel_rfl) (by decide) ?_
         refine grow_cons 14 rfl (by kernel_rfl) (fun wA hA K hK => ?_) grow_nil
         refine wp_append_one apP _ _ rfl w5.heap.size v2 ([] ++ l.drop k ++ l.take k) rfl hA.2.1 pN d rfl hA.2.2 HS14.out hA.1.size ?_
         intro v3 w6 hown6 hgrow6
         have hbg := hA.1.grown hgrow6 hA.1.size (fun q e => OwnL.block hA.2.1 e)
         refine hK.out _ _ (fun w' => Below w5.heap.size w5 w' /\ Oz w' w5.heap.size v3 ([] ++ l.drop k ++ l.take k ++ [d])) ⟨fun w2 h2 => ⟨(HC0.out _ h2.1).1, (HC0.out _ h2.1).2⟩, fun w2 w3 h2 hb2 => ⟨h2.1.trans (hb2.mono h2.1.size), OwnL.below h2.2 hb2⟩⟩ ⟨hbg, hown6⟩ ?_
         clear hbg hown6 hgrow6 w6 hK K hA wA hCalm
         have hCalm : Calm (fun w' => w'.cell? ⟨b1, o1 + k * 2, none⟩ = some (.int .i64 d.x) /\ w'.cell? ⟨b1, o1 + k * 2 + 1, none⟩ = some (.int .i64 d.y)) (fun w' => Below w5.heap.size w5 w' /\ Oz w' w5.heap.size v3 ([] ++ l.drop k ++ l.take k ++ [d])) := ⟨fun w2 h2 => ⟨(HC0.out _ h2.1).1, (HC0.out _ h2.1).2⟩, fun w2 w3 h2 hb2 => ⟨h2.1.trans (hb2.mono h2.1.size), OwnL.below h2.2 hb2⟩⟩
         try simp only [Act.put]
         refine grow_take 15 (some 11) ?_ rfl rfl (by kernel_rfl) (fun _ _ _ h => h) (by kernel_rfl) hCalm ?_ ?_
         rotate_left
         · intro wS hS; (try dsimp only at hS); go_simp <;> with_reducible rfl
         try simp only [Act.put]
         refine grow_done (by kernel_rfl) (fun wA hA => ?_) _
         exact hcut p0 pN v1 v2 v3 wA ⟨hA.1, hA.2⟩
       exact grow_nil
     refine grow_cons 13 rfl (by kernel_rfl) (fun wA hA K hK => ?_) ?_
     case _ =>
       obtain ⟨pN, hpN⟩ : ∃ b, b = wA.heap.size := ⟨_, rfl⟩
       have hne : Value.ownBlock (.slice (some ⟨p0, 0, none⟩) 0 0) ≠ some pN := fun e => absurd (World.ownsRow.lt hA.2 _ e).2 (by omega)
       have hnew : Blk (wA.alloc (.cells #[.int .i64 d.x, .int .i64 d.y] 31)) pN 31 #[.int .i64 d.x, .int .i64 d.y] := by rw [hpN]; exact Blk.new wA _ _
       go_simp
       rw [<- hpN]
       refine hK.out _ _ (fun w' => Below w5.heap.size w5 w' /\ Oz w' w5.heap.size (.slice (some ⟨p0, 0, none⟩) 0 0) ([] : List P7) /\ Blk w' pN 31 #[.int .i64 d.x, .int .i64 d.y]) ⟨fun w2 h2 => ⟨(HC0.out _ h2.1).1, (HC0.out _ h2.1).2⟩, fun w2 w3 h2 hb2 => ⟨h2.1.trans (hb2.mono h2.1.size), OwnL.below h2.2.1 hb2, h2.2.2.below hb2 h2.2.2.lt⟩⟩ ⟨hA.1.alloc hA.1.size _, OwnL.below hA.2 ((Below.refl _ _).alloc (Nat.le_refl _) _), hnew⟩ ?_
       clear hnew hpN hK K hA wA hCalm
       have hCalm : Calm (fun w' => w'.cell? ⟨b1, o1 + k * 2, none⟩ = some (.int .i64 d.x) /\ w'.cell? ⟨b1, o1 + k * 2 + 1, none⟩ = some (.int .i64 d.y)) (fun w' => Below w5.heap.size w5 w' /\ Oz w' w5.heap.size (.slice (some ⟨p0, 0, none⟩) 0 0) ([] : List P7) /\ Blk w' pN 31 #[.int .i64 d.x, .int .i64 d.y]) := ⟨fun w2 h2 => ⟨(HC0.out _ h2.1).1, (HC0.out _ h2.1).2⟩, fun w2 w3 h2 hb2 => ⟨h2.1.trans (hb2.mono h2.1.size), OwnL.below h2.2.1 hb2, h2.2.2.below hb2 h2.2.2.lt⟩⟩
       try simp only [Act.put, q8a, q8b, q8c]
       refine grow_each [4] (by kernel_rfl) (by decide) ?_
       refine grow_cons 4 rfl (by kernel_rfl) (fun wA hA K hK => ?_) grow_nil
       refine wp_append_at apP _ _ rfl w5.heap.size (.slice (some ⟨p0, 0, none⟩) 0 0) ([] : List P7) rfl hA.2.1 ⟨b1, o1 + k * 2, none⟩ (c1 - k) (l.length - k) (l.drop k) rfl HDL.out ((HZ1b.out.drop k).below hA.1 (Nat.le_refl _)) HS4.out hA.1.size ?_
       intro v1 w6 hown6 hgrow6 hat6
       have hbg := hA.1.grown hgrow6 hA.1.size (fun q e => OwnL.block hA.2.1 e)
       have hlt := hA.2.2.lt
       have hl6 := hA.2.2.only hgrow6 (fun e => hne e.symm)
       have hne2 : Value.ownBlock v1 ≠ some pN := fun e => by rcases hat6 with e2 | e2 <;> rw [e2] at e <;> first | exact hne e | (have e3 := Option.some.inj e; omega)
       clear hne; have hne := hne2; clear hne2 hlt
       refine hK.out _ _ (fun w' => Below w5.heap.size w5 w' /\ Oz w' w5.heap.size v1 ([] ++ l.drop k) /\ Blk w' pN 31 #[.int .i64 d.x, .int .i64 d.y]) ⟨fun w2 h2 => ⟨(HC0.out _ h2.1).1, (HC0.out _ h2.1).2⟩, fun w2 w3 h2 hb2 => ⟨h2.1.trans (hb2.mono h2.1.size), OwnL.below h2.2.1 hb2, h2.2.2.below hb2 h2.2.2.lt⟩⟩ ⟨hbg, hown6, hl6⟩ ?_
       clear hbg hown6 hgrow6 hat6 hl6 w6 hK K hA wA hCalm
       have hCalm : Calm (fun w' => w'.cell? ⟨b1, o1 + k * 2, none⟩ = some (.int .i64 d.x) /\ w'.cell? ⟨b1, o1 + k * 2 + 1, none⟩ = some (.int .i64 d.y)) (fun w' => Below w5.heap.size w5 w' /\ Oz w' w5.heap.size v1 ([] ++ l.drop k) /\ Blk w' pN 31 #[.int .i64 d.x, .int .i64 d.y]) := ⟨fun w2 h2 => ⟨(HC0.out _ h2.1).1, (HC0.out _ h2.1).2⟩, fun w2 w3 h2 hb2 => ⟨h2.1.trans (hb2.mono h2.1.size), OwnL.below h2.2.1 hb2, h2.2.2.below hb2 h2.2.2.lt⟩⟩
       try simp only [Act.put, q8a]
       refine grow_each [8] (by kernel_rfl) (by decide) ?_
       refine grow_cons 8 rfl (by kernel_rfl) (fun wA hA K hK => ?_) grow_nil
       refine wp_append_at apP _ _ rfl w5.heap.size v1 ([] ++ l.drop k) rfl hA.2.1 ⟨b1, o1, none⟩ c1 k (l.take k) rfl HTL.out ((HZ1b.out.take k).below hA.1 (Nat.le_refl _)) HS8.out hA.1.size ?_
       intro v2 w6 hown6 hgrow6 hat6
       have hbg := hA.1.grown hgrow6 hA.1.size (fun q e => OwnL.block hA.2.1 e)
       have hlt := hA.2.2.lt
       have hl6 := hA.2.2.only hgrow6 (fun e => hne e.symm)
       have hne2 : Value.ownBlock v2 ≠ some pN := fun e => by rcases hat6 with e2 | e2 <;> rw [e2] at e <;> first | exact hne e | (have e3 := Option.some.inj e; omega)
       clear hne; have hne := hne2; clear hne2 hlt
       refine hK.out _ _ (fun w' => Below w5.heap.size w5 w' /\ Oz w' w5.heap.size v2 ([] ++ l.drop k ++ l.take k) /\ Blk w' pN 31 #[.int .i64 d.x, .int .i64 d.y]) ⟨fun w2 h2 => ⟨(HC0.out _ h2.1).1, (HC0.out _ h2.1).2⟩, fun w2 w3 h2 hb2 => ⟨h2.1.trans (hb2.mono h2.1.size), OwnL.below h2.2.1 hb2, h2.2.2.below hb2 h2.2.2.lt⟩⟩ ⟨hbg, hown6, hl6⟩ ?_
       clear hbg hown6 hgrow6 hat6 hl6 w6 hK K hA wA hCalm
       have hCalm : Calm (fun w' => w'.cell? ⟨b1, o1 + k * 2, none⟩ = some (.int .i64 d.x) /\ w'.cell? ⟨b1, o1 + k * 2 + 1, none⟩ = some (.int .i64 d.y)) (fun w' => Below w5.heap.size w5 w' /\ Oz w' w5.heap.size v2 ([] ++ l.drop k ++ l.take k) /\ Blk w' pN 31 #[.int .i64 d.x, .int .i64 d.y]) := ⟨fun w2 h2 => ⟨(HC0.out _ h2.1).1, (HC0.out _ h2.1).2⟩, fun w2 w3 h2 hb2 => ⟨h2.1.trans (hb2.mono h2.1.size), OwnL.below h2.2.1 hb2, h2.2.2.below hb2 h2.2.2.lt⟩⟩
       try simp only [Act.put]
       refine grow_each [14] (by kernel_rfl) (by decide) ?_
       refine grow_cons 14 rfl (by kernel_rfl) (fun wA hA K hK => ?_) grow_nil
       refine wp_append_one apP _ _ rfl w5.heap.size v2 ([] ++ l.drop k ++ l.take k) rfl hA.2.1 pN d rfl hA.2.2 HS14.out hA.1.size ?_
       intro v3 w6 hown6 hgrow6
       have hbg := hA.1.grown hgrow6 hA.1.size (fun q e => OwnL.block hA.2.1 e)
       refine hK.out _ _ (fun w' => Below w5.heap.size w5 w' /\ Oz w' w5.heap.size v3 ([] ++ l.drop k ++ l.take k ++ [d])) ⟨fun w2 h2 => ⟨(HC0.out _ h2.1).1, (HC0.out _ h2.1).2⟩, fun w2 w3 h2 hb2 => ⟨h2.1.trans (hb2.mono h2.1.size), OwnL.below h2.2 hb2⟩⟩ ⟨hbg, hown6⟩ ?_
       clear hbg hown6 hgrow6 w6 hK K hA wA hCalm
       have hCalm : Calm (fun w' => w'.cell? ⟨b1, o1 + k * 2, none⟩ = some (.int .i64 d.x) /\ w'.cell? ⟨b1, o1 + k * 2 + 1, none⟩ = some (.int .i64 d.y)) (fun w' => Below w5.heap.size w5 w' /\ Oz w' w5.heap.size v3 ([] ++ l.drop k ++ l.take k ++ [d])) := ⟨fun w2 h2 => ⟨(HC0.out _ h2.1).1, (HC0.out _ h2.1).2⟩, fun w2 w3 h2 hb2 => ⟨h2.1.trans (hb2.mono h2.1.size), OwnL.below h2.2 hb2⟩⟩
       try simp only [Act.put]
       refine grow_take 15 (some 11) ?_ rfl rfl (by kernel_rfl) (fun _ _ _ h => h) (by kernel_rfl) hCalm ?_ ?_
       rotate_left
       · intro wS hS; (try dsimp only at hS); go_simp <;> with_reducible rfl
       try simp only [Act.put]
       refine grow_done (by kernel_rfl) (fun wA hA => ?_) _
       exact hcut p0 pN v1 v2 v3 wA ⟨hA.1, hA.2⟩
     exact grow_nil
   refine grow_cons 13 rfl (by kernel_rfl) (fun wA hA K hK => ?_) ?_
   case _ =>
     obtain ⟨pN, hpN⟩ : ∃ b, b = wA.heap.size := ⟨_, rfl⟩
     have hnew : Blk (wA.alloc (.cells #[.int .i64 d.x, .int .i64 d.y] 31)) pN 31 #[.int .i64 d.x, .int .i64 d.y] := by rw [hpN]; exact Blk.new wA _ _
     go_simp
     rw [<- hpN]
     refine hK.out _ _ (fun w' => Below w5.heap.size w5 w' /\ Blk w' pN 31 #[.int .i64 d.x, .int .i64 d.y]) ⟨fun w2 h2 => ⟨(HC0.out _ h2.1).1, (HC0.out _ h2.1).2⟩, fun w2 w3 h2 hb2 => ⟨h2.1.trans (hb2.mono h2.1.size), h2.2.below hb2 h2.2.lt⟩⟩ ⟨hA.alloc hA.size _, hnew⟩ ?_
     clear hnew hpN hK K hA wA hCalm
     have hCalm : Calm (fun w' => w'.cell? ⟨b1, o1 + k * 2, none⟩ = some (.int .i64 d.x) /\ w'.cell? ⟨b1, o1 + k * 2 + 1, none⟩ = some (.int .i64 d.y)) (fun w' => Below w5.heap.size w5 w' /\ Blk w' pN 31 #[.int .i64 d.x, .int .i64 d.y]) := ⟨fun w2 h2 => ⟨(HC0.out _ h2.1).1, (HC0.out _ h2.1).2⟩, fun w2 w3 h2 hb2 => ⟨h2.1.trans (hb2.mono h2.1.size), h2.2.below hb2 h2.2.lt⟩⟩
     try simp only [Act.put, q8a, q8b, q8c]
     refine grow_each [0] (by kernel_rfl) (by decide) ?_
     refine grow_cons 0 rfl (by kernel_rfl) (fun wA hA K hK => ?_) grow_nil
     obtain ⟨p0, hp0⟩ : ∃ b, b = wA.heap.size := ⟨_, rfl⟩
     have hne : Value.ownBlock (.slice (some ⟨p0, 0, none⟩) 0 0) ≠ some pN := fun e => by have h1 := hA.2.lt; have e2 : p0 = pN := Option.some.inj e; omega
     have hnw := oz_none7 wA w5.heap.size hA.1.size
     rw [<- hp0] at hnw
     go_simp
     rw [<- hp0]
     refine hK.out _ _ (fun w' => Below w5.heap.size w5 w' /\ Oz w' w5.heap.size (.slice (some ⟨p0, 0, none⟩) 0 0) ([] : List P7) /\ Blk w' pN 31 #[.int .i64 d.x, .int .i64 d.y]) ⟨fun w2 h2 => ⟨(HC0.out _ h2.1).1, (HC0.out _ h2.1).2⟩, fun w2 w3 h2 hb2 => ⟨h2.1.trans (hb2.mono h2.1.size), OwnL.below h2.2.1 hb2, h2.2.2.below hb2 h2.2.2.lt⟩⟩ ⟨hA.1.alloc hA.1.size _, hnw, hA.2.below ((Below.refl _ _).alloc (Nat.le_refl _) _) hA.2.lt⟩ ?_
     clear hnw hp0 hK K hA wA hCalm
     have hCalm : Calm (fun w' => w'.cell? ⟨b1, o1 + k * 2, none⟩ = some (.int .i64 d.x) /\ w'.cell? ⟨b1, o1 + k * 2 + 1, none⟩ = some (.int .i64 d.y)) (fun w' => Below w5.heap.size w5 w' /\ Oz w' w5.heap.size (.slice (some ⟨p0, 0, none⟩) 0 0) ([] : List P7) /\ Blk w' pN 31 #[.int .i64 d.x, .int .i64 d.y]) := ⟨fun w2 h2 => ⟨(HC0.out _ h2.1).1, (HC0.out _ h2.1).2⟩, fun w2 w3 h2 hb2 => ⟨h2.1.trans (hb2.mono h2.1.size), OwnL.below h2.2.1 hb2, h2.2.2.below hb2 h2.2.2.lt⟩⟩
     try simp only [Act.put, q8a, q8b, q8c]
     refine grow_each [4] (by kernel_rfl) (by decide) ?_
     refine grow_cons 4 rfl (by kernel_rfl) (fun wA hA K hK => ?_) grow_nil
     refine wp_append_at apP _ _ rfl w5.heap.size (.slice (some ⟨p0, 0, none⟩) 0 0) ([] : List P7) rfl hA.2.1 ⟨b1, o1 + k * 2, none⟩ (c1 - k) (l.length - k) (l.drop k) rfl HDL.out ((HZ1b.out.drop k).below hA.1 (Nat.le_refl _)) HS4.out hA.1.size ?_
     intro v1 w6 hown6 hgrow6 hat6
     have hbg := hA.1.grown hgrow6 hA.1.size (fun q e => OwnL.block hA.2.1 e)
     have hlt := hA.2.2.lt
     have hl6 := hA.2.2.only hgrow6 (fun e => hne e.symm)
     have hne2 : Value.ownBlock v1 ≠ some pN := fun e => by rcases hat6 with e2 | e2 <;> rw [e2] at e <;> first | exact hne e | (have e3 := Option.some.inj e; omega)
     clear hne; have hne := hne2; clear hne2 hlt
     refine hK.out _ _ (fun w' => Below w5.heap.size w5 w' /\ Oz w' w5.heap.size v1 ([] ++ l.drop k) /\ Blk w' pN 31 #[.int .i64 d.x, .int .i64 d.y]) ⟨fun w2 h2 => ⟨(HC0.out _ h2.1).1, (HC0.out _ h2.1).2⟩, fun w2 w3 h2 hb2 => ⟨h2.1.trans (hb2.mono h2.1.size), OwnL.below h2.2.1 hb2, h2.2.2.below hb2 h2.2.2.lt⟩⟩ ⟨hbg, hown6, hl6⟩ ?_
     clear hbg hown6 hgrow6 hat6 hl6 w6 hK K hA wA hCalm
     have hCalm : Calm (fun w' => w'.cell? ⟨b1, o1 + k * 2, none⟩ = some (.int .i64 d.x) /\ w'.cell? ⟨b1, o1 + k * 2 + 1, none⟩ = some (.int .i64 d.y)) (fun w' => Below w5.heap.size w5 w' /\ Oz w' w5.heap.size v1 ([] ++ l.drop k) /\ Blk w' pN 31 #[.int .i64 d.x, .int .i64 d.y]) := ⟨fun w2 h2 => ⟨(HC0.out _ h2.1).1, (HC0.out _ h2.1).2⟩, fun w2 w3 h2 hb2 => ⟨h2.1.trans (hb2.mono h2.1.size), OwnL.below h2.2.1 hb2, h2.2.2.below hb2 h2.2.2.lt⟩⟩
     try simp only [Act.put, q8a]
     refine grow_each [8] (by kernel_rfl) (by decide) ?_
     refine grow_cons 8 rfl (by kernel_rfl) (fun wA hA K hK => ?_) grow_nil
     refine wp_append_at apP _ _ rfl w5.heap.size v1 ([] ++ l.drop k) rfl hA.2.1 ⟨b1, o1, none⟩ c1 k (l.take k) rfl HTL.out ((HZ1b.out.take k).below hA.1 (Nat.le_refl _)) HS8.out hA.1.size ?_
     intro v2 w6 hown6 hgrow6 hat6
     have hbg := hA.1.grown hgrow6 hA.1.size (fun q e => OwnL.block hA.2.1 e)
     have hlt := hA.2.2.lt
     have hl6 := hA.2.2.only hgrow6 (fun e => hne e.symm)
     have hne2 : Value.ownBlock v2 ≠ some pN := fun e => by rcases hat6 with e2 | e2 <;> rw [e2] at e <;> first | exact hne e | (have e3 := Option.some.inj e; omega)
     clear hne; have hne := hne2; clear hne2 hlt
     refine hK.out _ _ (fun w' => Below w5.heap.size w5 w' /\ Oz w' w5.heap.size v2 ([] ++ l.drop k ++ l.take k) /\ Blk w' pN 31 #[.int .i64 d.x, .int .i64 d.y]) ⟨fun w2 h2 => ⟨(HC0.out _ h2.1).1, (HC0.out _ h2.1).2⟩, fun w2 w3 h2 hb2 => ⟨h2.1.trans (hb2.mono h2.1.size), OwnL.below h2.2.1 hb2, h2.2.2.below hb2 h2.2.2.lt⟩⟩ ⟨hbg, hown6, hl6⟩ ?_
     clear hbg hown6 hgrow6 hat6 hl6 w6 hK K hA wA hCalm
     have hCalm : Calm (fun w' => w'.cell? ⟨b1, o1 + k * 2, none⟩ = some (.int .i64 d.x) /\ w'.cell? ⟨b1, o1 + k * 2 + 1, none⟩ = some (.int .i64 d.y)) (fun w' => Below w5.heap.size w5 w' /\ Oz w' w5.heap.size v2 ([] ++ l.drop k ++ l.take k) /\ Blk w' pN 31 #[.int .i64 d.x, .int .i64 d.y]) := ⟨fun w2 h2 => ⟨(HC0.out _ h2.1).1, (HC0.out _ h2.1).2⟩, fun w2 w3 h2 hb2 => ⟨h2.1.trans (hb2.mono h2.1.size), OwnL.below h2.2.1 hb2, h2.2.2.below hb2 h2.2.2.lt⟩⟩
     try simp only [Act.put]
     refine grow_each [14] (by kernel_rfl) (by decide) ?_
     refine grow_cons 14 rfl (by kernel_rfl) (fun wA hA K hK => ?_) grow_nil
     refine wp_append_one apP _ _ rfl w5.heap.size v2 ([] ++ l.drop k ++ l.take k) rfl hA.2.1 pN d rfl hA.2.2 HS14.out hA.1.size ?_
     intro v3 w6 hown6 hgrow6
     have hbg := hA.1.grown hgrow6 hA.1.size (fun q e => OwnL.block hA.2.1 e)
     refine hK.out _ _ (fun w' => Below w5.heap.size w5 w' /\ Oz w' w5.heap.size v3 ([] ++ l.drop k ++ l.take k ++ [d])) ⟨fun w2 h2 => ⟨(HC0.out _ h2.1).1, (HC0.out _ h2.1).2⟩, fun w2 w3 h2 hb2 => ⟨h2.1.trans (hb2.mono h2.1.size), OwnL.below h2.2 hb2⟩⟩ ⟨hbg, hown6⟩ ?_
     clear hbg hown6 hgrow6 w6 hK K hA wA hCalm
     have hCalm : Calm (fun w' => w'.cell? ⟨b1, o1 + k * 2, none⟩ = some (.int .i64 d.x) /\ w'.cell? ⟨b1, o1 + k * 2 + 1, none⟩ = some (.int .i64 d.y)) (fun w' => Below w5.heap.size w5 w' /\ Oz w' w5.heap.size v3 ([] ++ l.drop k ++ l.take k ++ [d])) := ⟨fun w2 h2 => ⟨(HC0.out _ h2.1).1, (HC0.out _ h2.1).2⟩, fun w2 w3 h2 hb2 => ⟨h2.1.trans (hb2.mono h2.1.size), OwnL.below h2.2 hb2⟩⟩
     try simp only [Act.put]
     refine grow_take 15 (some 11) ?_ rfl rfl (by kernel_rfl) (fun _ _ _ h => h) (by kernel_rfl) hCalm ?_ ?_
     rotate_left
     · intro wS hS; (try dsimp only at hS); go_simp <;> with_reducible rfl
     try simp only [Act.put]
     refine grow_done (by kernel_rfl) (fun wA hA => ?_) _
     exact hcut p0 pN v1 v2 v3 wA ⟨hA.1, hA.2⟩
   exact grow_nil
 case h2 =>
   intro p0 pN v1 v2 v3 w6 hI
   have HB6 := Lib.hid hI.1; have HO6 := Lib.hid hI.2
   clear hI
   have hmem : ∀ x, x ∈ l ↔ x ∈ ([] ++ l.drop k ++ l.take k ++ [d]) := hul_mem7 hlk
   have hln : ([] ++ l.drop k ++ l.take k ++ [d]).length = l.length + 1 := by simp; omega
   have hmf : Ls7 ([] ++ l.drop k ++ l.take k ++ [d]) := ⟨by omega, fun p hp => HF.out.ls.2 p ((hmem p).2 hp)⟩
   have hmh := HML.out _ hmem
   obtain ⟨m, hm⟩ : ∃ m, m = [] ++ l.drop k ++ l.take k ++ [d] := ⟨_, rfl⟩
   rw [<- hm] at HO6 hln hmf hmh
   obtain ⟨A4, c4, rfl, hz4, _, _, _⟩ := OwnL.read apP HO6.out
   obtain ⟨b4, o4, rfl⟩ := hz4.some (by omega)
   have HH4 := Lib.hid (pHull_yes m _ c4 w6 hz4 hmf)
   have hmk : hul7 fits7 m = h := by rw [<- hmh]; exact hul7_ok fun x hx y hy z hz => fits7_ok (hmf.2 x hx) (hmf.2 y hy) (hmf.2 z hz)
   rw [hmk] at HH4
   have HB7 := Lib.hid (HB5.out.trans (HB6.out.mono HB5.out.size)); have HZ1 := Lib.hid (HZ1b.out.below HB6.out (Nat.le_refl _)); have HZ2b := Lib.hid (HZ2.out.below HB6.out (Nat.le_refl _)); have HZ3 := Lib.hid (HZ3b.out.below HB6.out (Nat.le_refl _))
   clear hmem hln hmf hmh hm hz4 hmk HO6 HB6 HB5 HZ1b HZ2 HZ3b HML HC0 HDL HTL HS4 HS8 HS14 hlk hkl hd
   go_wp2_with fail
   refine HH4.out.mono ?_
   rintro e w7 ⟨⟨vo, rfl, hoo⟩, hb7⟩
   obtain ⟨A5, c5, rfl, hz5, _, _, _⟩ := OwnL.read apP hoo
   obtain ⟨b5, o5, rfl⟩ := hz5.some (by omega)
   have HB8 := Lib.hid (HB7.out.trans (hb7.mono HB7.out.size)); have HZ1b := Lib.hid (HZ1.out.below hb7 (Nat.le_refl _)); have HZ2 := Lib.hid (HZ2b.out.below hb7 (Nat.le_refl _)); have HZ3b := Lib.hid (HZ3.out.below hb7 (Nat.le_refl _)); have HZ5 := Lib.hid hz5
   clear hoo hb7 hz5 HH4 HB7 HZ1 HZ2b HZ3
   have HM1 := Lib.hid (samep_yes h _ _ c2 c3 w7 HZ2.out HZ3b.out (by omega))
   have t1 : ((h.length : Int) == 0) = false := by rw [beq_eq_false_iff_ne]; omega
   have t2 : ¬ (l.length : Int) < (h.length : Int) := by omega
   have t3 : ¬ h.length = 0 := by omega
   have t4 : ¬ l.length < h.length := by omega
   go_wp2_with fail
   refine HM1.out.mono ?_
   rintro e w8 ⟨rfl, hb8⟩
   have HM2 := Lib.hid (samep_yes h _ _ c2 c5 w8 (HZ2.out.below hb8 (Nat.le_refl _)) (HZ5.out.below hb8 (Nat.le_refl _)) (by omega))
   have HB9 := Lib.hid (HB8.out.trans (hb8.mono HB8.out.size)); have HZ1 := Lib.hid (HZ1b.out.below hb8 (Nat.le_refl _)); have HZ2b := Lib.hid (HZ2.out.below hb8 (Nat.le_refl _))
   clear hb8 HM1 HB8 HZ1b HZ2 HZ3b HZ5
   go_wp2_with fail
   refine HM2.out.mono ?_
   rintro e w9 ⟨rfl, hb9⟩
   have HB0 := Lib.hid (HB9.out.trans (hb9.mono HB9.out.size)); have HZA := Lib.hid (HZ1.out.below hb9 (Nat.le_refl _)); have HZB := Lib.hid (HZ2b.out.below hb9 (Nat.le_refl _))
   clear hb9 HM2 HB9 HZ1 HZ2b
   go_wp2_with fail
   go_loopw [14] (fun ii wr => ∃ i : Nat, ii = .int .i64 i /\ i <= h.length /\ Below w9.heap.size w9 wr) (fun ii _ => h.length - (intOf ii).toNat)
   case atStart => exact ⟨0, rfl, Nat.zero_le _, Below.refl _ _⟩
   case round =>
     obtain ⟨i, rfl, hi, hB⟩ := hrel
     have HB := Lib.hid hB; clear hB
     by_cases hlt : i < h.length
     case neg =>
       have s1 : ¬ (i : Int) < (h.length : Int) := by omega
       clear hi
       go_wp2_with fail
       go_ret
       exact ⟨rfl, HB0.out.trans (HB.out.mono HB0.out.size)⟩
     case pos =>
       obtain ⟨j1, hj1⟩ : ∃ j, j = (i + 1) % h.length := ⟨_, rfl⟩
       obtain ⟨j2, hj2⟩ : ∃ j, j = (i + 2) % h.length := ⟨_, rfl⟩
       have lj1 : j1 < h.length := by rw [hj1]; exact Nat.mod_lt _ (by omega)
       have lj2 : j2 < h.length := by rw [hj2]; exact Nat.mod_lt _ (by omega)
       have hleft : ∀ q (hq : q < l.length), 0 <= sd7 h[i] h[j1] l[q] := fun q hq => by
         have h1 := HCN.out.left i hlt l[q] (List.getElem_mem hq)
         rw [sd7_ok (HFH.out.ls.2 _ (List.getElem_mem hlt)) (HFH.out.ls.2 _ (List.getElem_mem lj1)) (HF.out.ls.2 _ (List.getElem_mem hq))]
         simp only [<- hj1] at h1
         unfold sg7; omega
       have hturn : 2 < h.length -> sd7 h[i] h[j1] h[j2] = 1 := fun hn => by
         have h1 := HCN.out.turn hn i hlt
         rw [sd7_ok (HFH.out.ls.2 _ (List.getElem_mem hlt)) (HFH.out.ls.2 _ (List.getElem_mem lj1)) (HFH.out.ls.2 _ (List.getElem_mem lj2))]
         simp only [<- hj1, <- hj2] at h1
         exact sg7_pos h1
       have hfirst : 0 < i -> lt7 (h[0]'(by omega)) h[i] := HCN.out.first i hlt
       have hin : h[i] ∈ l := HCN.out.mem i hlt
       have hcells : ∀ W, Below w9.heap.size w9 W -> ((W.cell? ⟨b2, o2 + i * 2, none⟩ = some (.int .i64 h[i].x) /\ W.cell? ⟨b2, o2 + i * 2 + 1, none⟩ = some (.int .i64 h[i].y)) /\ (W.cell? ⟨b2, o2 + j1 * 2, none⟩ = some (.int .i64 h[j1].x) /\ W.cell? ⟨b2, o2 + j1 * 2 + 1, none⟩ = some (.int .i64 h[j1].y)) /\ (W.cell? ⟨b2, o2 + j2 * 2, none⟩ = some (.int .i64 h[j2].x) /\ W.cell? ⟨b2, o2 + j2 * 2 + 1, none⟩ = some (.int .i64 h[j2].y)) /\ (W.cell? ⟨b2, o2, none⟩ = some (.int .i64 (h[0]'(by omega)).x) /\ W.cell? ⟨b2, o2 + 1, none⟩ = some (.int .i64 (h[0]'(by omega)).y))) := fun W hW =>
         ⟨Pz.cell HZB.out hW (Nat.le_refl _) hlt, Pz.cell HZB.out hW (Nat.le_refl _) lj1, Pz.cell HZB.out hW (Nat.le_refl _) lj2, by have := Pz.cell HZB.out hW (Nat.le_refl _) (i := 0) (by omega); simpa using this⟩
       obtain ⟨p0, hp0⟩ : ∃ p, p = h[i] := ⟨_, rfl⟩
       obtain ⟨p1, hp1⟩ : ∃ p, p = h[j1] := ⟨_, rfl⟩
       obtain ⟨p2, hp2⟩ : ∃ p, p = h[j2] := ⟨_, rfl⟩
       obtain ⟨pz, hpz⟩ : ∃ p, p = h[0]'(by omega) := ⟨_, rfl⟩
       rw [<- hp0, <- hpz] at hfirst
       simp only [<- hp0, <- hp1, <- hp2, <- hpz] at hleft hturn hin hcells
       have HL := Lib.hid hleft; have HTU := Lib.hid hturn; have HFI := Lib.hid hfirst; have HIN := Lib.hid hin; have HCE := Lib.hid hcells
       have HS3 := Lib.hid (fun W => side_any p0 p1 p2 W)
       have e1 : IntKind.i64.wrap ((i : Int) + 1) = ((i + 1 : Nat) : Int) := by rw [show ((i + 1 : Nat) : Int) = (i : Int) + 1 by omega]; exact IntWalk.i64_in _ (by omega)
       have e2 : IntKind.i64.wrap ((i : Int) + 2) = ((i + 2 : Nat) : Int) := by rw [show ((i + 2 : Nat) : Int) = (i : Int) + 2 by omega]; exact IntWalk.i64_in _ (by omega)
       have em1 : ((i + 1 : Nat) : Int).tmod (h.length : Int) = (j1 : Int) := by rw [hj1]; rfl
       have em2 : ((i + 2 : Nat) : Int).tmod (h.length : Int) = (j2 : Int) := by rw [hj2]; rfl
       have ew1 : IntKind.i64.wrap (j1 : Int) = (j1 : Int) := IntWalk.i64_in _ (by omega)
       have ew2 : IntKind.i64.wrap (j2 : Int) = (j2 : Int) := IntWalk.i64_in _ (by omega)
       obtain ⟨i1, hi1⟩ : ∃ i1, i1 = i + 1 := ⟨_, rfl⟩
       obtain ⟨i2, hi2⟩ : ∃ i2, i2 = i + 2 := ⟨_, rfl⟩
       rw [<- hi1] at e1 em1
       rw [<- hi2] at e2 em2
       have q1 : (0 : Int) <= (i : Int) := by omega
       have q2 : (i : Int) < (h.length : Int) := by omega
       have q3 : (0 : Int) <= (j1 : Int) := by omega
       have q4 : (j1 : Int) < (h.length : Int) := by omega
       have q5 : (0 : Int) <= (j2 : Int) := by omega
       have q6 : (j2 : Int) < (h.length : Int) := by omega
       have q7 : (0 : Int) < (h.length : Int) := by omega
       have q8 : 0 < h.length := by omega
       have HII : Hid (i1 = i + 1 /\ i1 <= h.length) := Lib.hid (by omega)
       clear hleft hturn hfirst hin hcells hp0 hp1 hp2 hpz hj1 hj2 lj1 lj2 hi1 hi2 hi
       go_wp2_with fail
       go_loopw [15, 16] (fun tt nn wi => ∃ (q : Nat) (b : Bool), tt = .bool b /\ nn = .int .i64 q /\ q <= l.length /\ (b = true ∨ ∀ r (hr : r < l.length), r < q -> l[r] ≠ p0) /\ Below w9.heap.size w9 wi) (fun _ nn _ => l.length - (intOf nn).toNat)
       case atStart => exact ⟨0, false, rfl, rfl, Nat.zero_le _, Or.inr (fun r hr h0 => absurd h0 (Nat.not_lt_zero r)), HB.out⟩
       case round =>
         clear HB
         obtain ⟨q, b, rfl, rfl, hq, hb, hB⟩ := hrel
         have HB := Lib.hid hB; have HQ := Lib.hid hb; clear hB hb
         by_cases hqt : q < l.length
         case pos =>
           have s1 : (q : Int) < (l.length : Int) := by omega
           have s2 : (0 : Int) <= (q : Int) := by omega
           have eq : IntKind.i64.wrap ((q : Int) + 1) = ((q + 1 : Nat) : Int) := by rw [show ((q + 1 : Nat) : Int) = (q : Int) + 1 by omega]; exact IntWalk.i64_in _ (by omega)
           obtain ⟨x, hx⟩ : ∃ x, x = l[q] := ⟨_, rfl⟩
           have HCX : Hid (∀ W, Below w9.heap.size w9 W -> W.cell? ⟨b1, o1 + q * 2, none⟩ = some (.int .i64 x.x) /\ W.cell? ⟨b1, o1 + q * 2 + 1, none⟩ = some (.int .i64 x.y)) := Lib.hid (fun W hW => by have := Pz.cell HZA.out hW (Nat.le_refl _) hqt; rwa [<- hx] at this)
           have HSX := Lib.hid (fun W => side_any p0 p1 x W)
           have hsx : 0 <= sd7 p0 p1 x := by rw [hx]; exact HL.out q hqt
           have HXE : Hid (l[q]? = some x) := Lib.hid (by rw [List.getElem?_eq_getElem hqt, hx])
           have HQT := Lib.hid hqt
           clear hx hqt hq
           generalize sd7 p0 p1 x = sx at *
           cases b
           case true =>
             go_wp2_with fail
             refine wp_region_grow (S := (fun w' => w'.cell? ⟨b1, o1 + q * 2, none⟩ = some (.int .i64 x.x) /\ w'.cell? ⟨b1, o1 + q * 2 + 1, none⟩ = some (.int .i64 x.y) /\ w'.cell? ⟨b2, o2 + i * 2, none⟩ = some (.int .i64 p0.x) /\ w'.cell? ⟨b2, o2 + i * 2 + 1, none⟩ = some (.int .i64 p0.y))) ((fun w' => Below w9.heap.size w9 w')) (by kernel_rfl) (⟨fun w2 h2 => ⟨(HCX.out _ h2).1, (HCX.out _ h2).2, (HCE.out _ h2).1.1, (HCE.out _ h2).1.2⟩, fun w2 w3 h2 hb2 => h2.trans (hb2.mono h2.size)⟩) (HB.out.drew) (fun hCalm => ?_)
             refine grow_take 0 (some 101) ?_ rfl rfl (by kernel_rfl) (fun _ _ _ h => h) (by kernel_rfl) hCalm ?_ ?_
             rotate_left
             · intro wS hS; (try dsimp only at hS); go_simp <;> with_reducible rfl
             try simp only [Act.put, q8a, q8b, q8c]
             refine grow_take 1 (some 102) ?_ rfl rfl (by kernel_rfl) (fun _ _ _ h => h) (by kernel_rfl) hCalm ?_ ?_
             rotate_left
             · intro wS hS; (try dsimp only at hS); go_simp <;> with_reducible rfl
             try simp only [Act.put, q8a, q8b, q8c]
             refine grow_skip 2 (some 103) rfl rfl (by kernel_rfl) (fun _ _ _ h => h) (by kernel_rfl) hCalm ?_
             try simp only [Act.put, q8a, q8b, q8c]
             refine grow_skip 3 (some 104) rfl rfl (by kernel_rfl) (fun _ _ _ h => h) (by kernel_rfl) hCalm ?_
             try simp only [Act.put, q8a, q8b, q8c]
             refine grow_skip 4 (some 105) rfl rfl (by kernel_rfl) (fun _ _ _ h => h) (by kernel_rfl) hCalm ?_
             try simp only [Act.put, q8a, q8b, q8c]
             refine grow_skip 5 (some 106) rfl rfl (by kernel_rfl) (fun _ _ _ h => h) (by kernel_rfl) hCalm ?_
             try simp only [Act.put, q8a, q8b, q8c]
             refine grow_skip 6 (some 107) rfl rfl (by kernel_rfl) (fun _ _ _ h => h) (by kernel_rfl) hCalm ?_
             try simp only [Act.put, q8a, q8b, q8c]
             refine grow_skip 7 (some 108) rfl rfl (by kernel_rfl) (fun _ _ _ h => h) (by kernel_rfl) hCalm ?_
             try simp only [Act.put, q8a, q8b, q8c]
             refine grow_skip 8 (some 109) rfl rfl (by kernel_rfl) (fun _ _ _ h => h) (by kernel_rfl) hCalm ?_
             try simp only [Act.put, q8a, q8b, q8c]
             refine grow_skip 9 (some 110) rfl rfl (by kernel_rfl) (fun _ _ _ h => h) (by kernel_rfl) hCalm ?_
             try simp only [Act.put, q8a, q8b, q8c]
             refine grow_skip 10 (some 111) rfl rfl (by kernel_rfl) (fun _ _ _ h => h) (by kernel_rfl) hCalm ?_
             try simp only [Act.put, q8a, q8b, q8c]
             refine grow_take 11 (some 112) ?_ rfl rfl (by kernel_rfl) (fun _ _ _ h => h) (by kernel_rfl) hCalm ?_ ?_
             rotate_left
             · intro wS hS; (try dsimp only at hS); go_simp <;> with_reducible rfl
             try simp only [Act.put, q8a, q8b, q8c]
             refine grow_take 12 (some 15) ?_ rfl rfl (by kernel_rfl) (fun _ _ _ h => h) (by kernel_rfl) hCalm ?_ ?_
             rotate_left
             · intro wS hS; (try dsimp only at hS); go_simp <;> with_reducible rfl
             try simp only [Act.put, q8a, q8b, q8c]
             refine grow_done (by kernel_rfl) (fun wA hA => ?_) _
             have HBJ := Lib.hid hA
             obtain ⟨wj, hwj⟩ : ∃ y, y = wA := ⟨_, rfl⟩
             rw [<- hwj] at HBJ ⊢
             clear hwj hA hCalm
             go_wp2_with fail
             refine wp_region_grow (S := (fun w' => w'.cell? ⟨b2, o2 + i * 2, none⟩ = some (.int .i64 p0.x) /\ w'.cell? ⟨b2, o2 + i * 2 + 1, none⟩ = some (.int .i64 p0.y) /\ w'.cell? ⟨b2, o2 + j1 * 2, none⟩ = some (.int .i64 p1.x) /\ w'.cell? ⟨b2, o2 + j1 * 2 + 1, none⟩ = some (.int .i64 p1.y) /\ w'.cell? ⟨b1, o1 + q * 2, none⟩ = some (.int .i64 x.x) /\ w'.cell? ⟨b1, o1 + q * 2 + 1, none⟩ = some (.int .i64 x.y))) ((fun w' => Below w9.heap.size w9 w')) (by kernel_rfl) (⟨fun w2 h2 => ⟨(HCE.out _ h2).1.1, (HCE.out _ h2).1.2, (HCE.out _ h2).2.1.1, (HCE.out _ h2).2.1.2, (HCX.out _ h2).1, (HCX.out _ h2).2⟩, fun w2 w3 h2 hb2 => h2.trans (hb2.mono h2.size)⟩) (HBJ.out.drew) (fun hCalm => ?_)
             refine grow_take 0 (some 113) ?_ rfl rfl (by kernel_rfl) (fun _ _ _ h => h) (by kernel_rfl) hCalm ?_ ?_
             rotate_left
             · intro wS hS; (try dsimp only at hS); go_simp <;> with_reducible rfl
             try simp only [Act.put, q8a, q8b, q8c]
             refine grow_take 1 (some 114) ?_ rfl rfl (by kernel_rfl) (fun _ _ _ h => h) (by kernel_rfl) hCalm ?_ ?_
             rotate_left
             · intro wS hS; (try dsimp only at hS); go_simp <;> with_reducible rfl
             try simp only [Act.put, q8a, q8b, q8c]
             refine grow_take 2 (some 115) ?_ rfl rfl (by kernel_rfl) (fun _ _ _ h => h) (by kernel_rfl) hCalm ?_ ?_
             rotate_left
             · intro wS hS; (try dsimp only at hS); go_simp <;> with_reducible rfl
             try simp only [Act.put, q8a, q8b, q8c]
             refine grow_take 3 (some 116) ?_ rfl rfl (by kernel_rfl) (fun _ _ _ h => h) (by kernel_rfl) hCalm ?_ ?_
             rotate_left
             · intro wS hS; (try dsimp only at hS); go_simp <;> with_reducible rfl
             try simp only [Act.put, q8a, q8b, q8c]
             refine grow_take 4 (some 117) ?_ rfl rfl (by kernel_rfl) (fun _ _ _ h => h) (by kernel_rfl) hCalm ?_ ?_
             rotate_left
             · intro wS hS; (try dsimp only at hS); go_simp <;> with_reducible rfl
             try simp only [Act.put, q8a, q8b, q8c]
             refine grow_take 5 (some 118) ?_ rfl rfl (by kernel_rfl) (fun _ _ _ h => h) (by kernel_rfl) hCalm ?_ ?_
             rotate_left
             · intro wS hS; (try dsimp only at hS); go_simp <;> with_reducible rfl
             try simp only [Act.put, q8a, q8b, q8c]
             refine grow_take 6 (some 119) ?_ rfl rfl (by kernel_rfl) (fun _ _ _ h => h) (by kernel_rfl) hCalm ?_ ?_
             rotate_left
             · intro wS hS; (try dsimp only at hS); go_simp <;> with_reducible rfl
             try simp only [Act.put, q8a, q8b, q8c]
             refine grow_take 7 (some 120) ?_ rfl rfl (by kernel_rfl) (fun _ _ _ h => h) (by kernel_rfl) hCalm ?_ ?_
             rotate_left
             · intro wS hS; (try dsimp only at hS); go_simp <;> with_reducible rfl
             try simp only [Act.put, q8a, q8b, q8c]
             refine grow_take 8 (some 121) ?_ rfl rfl (by kernel_rfl) (fun _ _ _ h => h) (by kernel_rfl) hCalm ?_ ?_
             rotate_left
             · intro wS hS; (try dsimp only at hS); go_simp <;> with_reducible rfl
             try simp only [Act.put, q8a, q8b, q8c]
             refine grow_take 9 (some 122) ?_ rfl rfl (by kernel_rfl) (fun _ _ _ h => h) (by kernel_rfl) hCalm ?_ ?_
             rotate_left
             · intro wS hS; (try dsimp only at hS); go_simp <;> with_reducible rfl
             try simp only [Act.put, q8a, q8b, q8c]
             refine grow_take 10 (some 123) ?_ rfl rfl (by kernel_rfl) (fun _ _ _ h => h) (by kernel_rfl) hCalm ?_ ?_
             rotate_left
             · intro wS hS; (try dsimp only at hS); go_simp <;> with_reducible rfl
             try simp only [Act.put, q8a, q8b, q8c]
             refine grow_take 11 (some 124) ?_ rfl rfl (by kernel_rfl) (fun _ _ _ h => h) (by kernel_rfl) hCalm ?_ ?_
             rotate_left
             · intro wS hS; (try dsimp only at hS); go_simp <;> with_reducible rfl
             try simp only [Act.put, q8a, q8b, q8c]
             refine grow_take 12 (some 125) ?_ rfl rfl (by kernel_rfl) (fun _ _ _ h => h) (by kernel_rfl) hCalm ?_ ?_
             rotate_left
             · intro wS hS; (try dsimp only at hS); go_simp <;> with_reducible rfl
             try simp only [Act.put, q8a, q8b, q8c]
             refine grow_take 13 (some 126) ?_ rfl rfl (by kernel_rfl) (fun _ _ _ h => h) (by kernel_rfl) hCalm ?_ ?_
             rotate_left
             · intro wS hS; (try dsimp only at hS); go_simp <;> with_reducible rfl
             try simp only [Act.put, q8a, q8b, q8c]
             refine grow_take 14 (some 127) ?_ rfl rfl (by kernel_rfl) (fun _ _ _ h => h) (by kernel_rfl) hCalm ?_ ?_
             rotate_left
             · intro wS hS; (try dsimp only at hS); go_simp <;> with_reducible rfl
             try simp only [Act.put, q8a, q8b, q8c]
             refine grow_take 15 (some 128) ?_ rfl rfl (by kernel_rfl) (fun _ _ _ h => h) (by kernel_rfl) hCalm ?_ ?_
             rotate_left
             · intro wS hS; (try dsimp only at hS); go_simp <;> with_reducible rfl
             try simp only [Act.put, q8a, q8b, q8c]
             refine grow_call 16 (some 129) (.int .i64 sx) 10 [.tmp 116, .tmp 124, .tmp 128] #[31, 31, 31] rfl rfl (by kernel_rfl) (fun _ _ _ h => h) (by kernel_rfl) hCalm rfl (enters_of Tryz.func10 (by kernel_rfl) rfl) (fun wz _ => HSX.out wz) (by kernel_rfl) ?_
             try simp only [Act.put, q8a, q8b, q8c]
             refine grow_take 17 (some 130) (.bool false) rfl rfl (by kernel_rfl) (fun _ _ _ h => h) (by kernel_rfl) hCalm ?_ ?_
             · intro wS hS; (try dsimp only at hS); go_simp
               all_goals (first | omega | (simp; try omega))
             try simp only [Act.put, q8a, q8b, q8c]
             refine grow_done (by kernel_rfl) (fun wA hA => ?_) _
             have HBJ := Lib.hid hA
             obtain ⟨wj, hwj⟩ : ∃ y, y = wA := ⟨_, rfl⟩
             rw [<- hwj] at HBJ ⊢
             clear hwj hA hCalm
             go_wp2_with fail
             go_roundw
             case rel => exact ⟨q + 1, true, rfl, by go_num, HQT.out, Or.inl rfl, HBJ.out⟩
             case measure => have := HQT.out; simp [intOf]; omega
           case false =>
             have hall : ∀ r (hr : r < l.length), r < q -> l[r] ≠ p0 := by
               rcases HQ.out with h1 | h1
               · cases h1
               · exact h1
             have HAL := Lib.hid hall
             clear hall HQ
             by_cases hxe : x = p0
             case pos =>
               rw [hxe] at HCX HSX
               clear hxe HXE
               go_wp2_with fail
               refine wp_region_grow (S := (fun w' => w'.cell? ⟨b1, o1 + q * 2, none⟩ = some (.int .i64 p0.x) /\ w'.cell? ⟨b1, o1 + q * 2 + 1, none⟩ = some (.int .i64 p0.y) /\ w'.cell? ⟨b2, o2 + i * 2, none⟩ = some (.int .i64 p0.x) /\ w'.cell? ⟨b2, o2 + i * 2 + 1, none⟩ = some (.int .i64 p0.y))) ((fun w' => Below w9.heap.size w9 w')) (by kernel_rfl) (⟨fun w2 h2 => ⟨(HCX.out _ h2).1, (HCX.out _ h2).2, (HCE.out _ h2).1.1, (HCE.out _ h2).1.2⟩, fun w2 w3 h2 hb2 => h2.trans (hb2.mono h2.size)⟩) (HB.out.drew) (fun hCalm => ?_)
               refine grow_take 0 (some 101) ?_ rfl rfl (by kernel_rfl) (fun _ _ _ h => h) (by kernel_rfl) hCalm ?_ ?_
               rotate_left
               · intro wS hS; (try dsimp only at hS); go_simp <;> with_reducible rfl
               try simp only [Act.put, q8a, q8b, q8c]
               refine grow_take 1 (some 102) ?_ rfl rfl (by kernel_rfl) (fun _ _ _ h => h) (by kernel_rfl) hCalm ?_ ?_
               rotate_left
               · intro wS hS; (try dsimp only at hS); go_simp <;> with_reducible rfl
               try simp only [Act.put, q8a, q8b, q8c]
               refine grow_take 2 (some 103) ?_ rfl rfl (by kernel_rfl) (fun _ _ _ h => h) (by kernel_rfl) hCalm ?_ ?_
               rotate_left
               · intro wS hS; (try dsimp only at hS); go_simp <;> with_reducible rfl
               try simp only [Act.put, q8a, q8b, q8c]
               refine grow_take 3 (some 104) ?_ rfl rfl (by kernel_rfl) (fun _ _ _ h => h) (by kernel_rfl) hCalm ?_ ?_
               rotate_left
               · intro wS hS; (try dsimp only at hS); go_simp <;> with_reducible rfl
               try simp only [Act.put, q8a, q8b, q8c]
               refine grow_take 4 (some 105) ?_ rfl rfl (by kernel_rfl) (fun _ _ _ h => h) (by kernel_rfl) hCalm ?_ ?_
               rotate_left
               · intro wS hS; (try dsimp only at hS); go_simp <;> with_reducible rfl
               try simp only [Act.put, q8a, q8b, q8c]
               refine grow_take 5 (some 106) ?_ rfl rfl (by kernel_rfl) (fun _ _ _ h => h) (by kernel_rfl) hCalm ?_ ?_
               rotate_left
               · intro wS hS; (try dsimp only at hS); go_simp <;> with_reducible rfl
               try simp only [Act.put, q8a, q8b, q8c]
               refine grow_take 6 (some 107) ?_ rfl rfl (by kernel_rfl) (fun _ _ _ h => h) (by kernel_rfl) hCalm ?_ ?_
               rotate_left
               · intro wS hS; (try dsimp only at hS); go_simp <;> with_reducible rfl
               try simp only [Act.put, q8a, q8b, q8c]
               refine grow_take 7 (some 108) ?_ rfl rfl (by kernel_rfl) (fun _ _ _ h => h) (by kernel_rfl) hCalm ?_ ?_
               rotate_left
               · intro wS hS; (try dsimp only at hS); go_simp <;> with_reducible rfl
               try simp only [Act.put, q8a, q8b, q8c]
               refine grow_take 8 (some 109) ?_ rfl rfl (by kernel_rfl) (fun _ _ _ h => h) (by kernel_rfl) hCalm ?_ ?_
               rotate_left
               · intro wS hS; (try dsimp only at hS); go_simp <;> with_reducible rfl
               try simp only [Act.put, q8a, q8b, q8c]
               refine grow_take 9 (some 110) ?_ rfl rfl (by kernel_rfl) (fun _ _ _ h => h) (by kernel_rfl) hCalm ?_ ?_
               rotate_left
               · intro wS hS; (try dsimp only at hS); go_simp <;> with_reducible rfl
               try simp only [Act.put, q8a, q8b, q8c]
               refine grow_take 10 (some 111) (.bool true) rfl rfl (by kernel_rfl) (fun _ _ _ h => h) (by kernel_rfl) hCalm ?_ ?_
               · intro wS hS; (try dsimp only at hS); go_simp
                 all_goals (first | omega | (simp; try omega))
               try simp only [Act.put, q8a, q8b, q8c]
               refine grow_take 11 (some 112) ?_ rfl rfl (by kernel_rfl) (fun _ _ _ h => h) (by kernel_rfl) hCalm ?_ ?_
               rotate_left
               · intro wS hS; (try dsimp only at hS); go_simp <;> with_reducible rfl
               try simp only [Act.put, q8a, q8b, q8c]
               refine grow_take 12 (some 15) ?_ rfl rfl (by kernel_rfl) (fun _ _ _ h => h) (by kernel_rfl) hCalm ?_ ?_
               rotate_left
               · intro wS hS; (try dsimp only at hS); go_simp <;> with_reducible rfl
               try simp only [Act.put, q8a, q8b, q8c]
               refine grow_done (by kernel_rfl) (fun wA hA => ?_) _
               have HBJ := Lib.hid hA
               obtain ⟨wj, hwj⟩ : ∃ y, y = wA := ⟨_, rfl⟩
               rw [<- hwj] at HBJ ⊢
               clear hwj hA hCalm
               go_wp2_with fail
               refine wp_region_grow (S := (fun w' => w'.cell? ⟨b2, o2 + i * 2, none⟩ = some (.int .i64 p0.x) /\ w'.cell? ⟨b2, o2 + i * 2 + 1, none⟩ = some (.int .i64 p0.y) /\ w'.cell? ⟨b2, o2 + j1 * 2, none⟩ = some (.int .i64 p1.x) /\ w'.cell? ⟨b2, o2 + j1 * 2 + 1, none⟩ = some (.int .i64 p1.y) /\ w'.cell? ⟨b1, o1 + q * 2, none⟩ = some (.int .i64 p0.x) /\ w'.cell? ⟨b1, o1 + q * 2 + 1, none⟩ = some (.int .i64 p0.y))) ((fun w' => Below w9.heap.size w9 w')) (by kernel_rfl) (⟨fun w2 h2 => ⟨(HCE.out _ h2).1.1, (HCE.out _ h2).1.2, (HCE.out _ h2).2.1.1, (HCE.out _ h2).2.1.2, (HCX.out _ h2).1, (HCX.out _ h2).2⟩, fun w2 w3 h2 hb2 => h2.trans (hb2.mono h2.size)⟩) (HBJ.out.drew) (fun hCalm => ?_)
               refine grow_take 0 (some 113) ?_ rfl rfl (by kernel_rfl) (fun _ _ _ h => h) (by kernel_rfl) hCalm ?_ ?_
               rotate_left
               · intro wS hS; (try dsimp only at hS); go_simp <;> with_reducible rfl
               try simp only [Act.put, q8a, q8b, q8c]
               refine grow_take 1 (some 114) ?_ rfl rfl (by kernel_rfl) (fun _ _ _ h => h) (by kernel_rfl) hCalm ?_ ?_
               rotate_left
               · intro wS hS; (try dsimp only at hS); go_simp <;> with_reducible rfl
               try simp only [Act.put, q8a, q8b, q8c]
               refine grow_take 2 (some 115) ?_ rfl rfl (by kernel_rfl) (fun _ _ _ h => h) (by kernel_rfl) hCalm ?_ ?_
               rotate_left
               · intro wS hS; (try dsimp only at hS); go_simp <;> with_reducible rfl
               try simp only [Act.put, q8a, q8b, q8c]
               refine grow_take 3 (some 116) ?_ rfl rfl (by kernel_rfl) (fun _ _ _ h => h) (by kernel_rfl) hCalm ?_ ?_
               rotate_left
               · intro wS hS; (try dsimp only at hS); go_simp <;> with_reducible rfl
               try simp only [Act.put, q8a, q8b, q8c]
               refine grow_take 4 (some 117) ?_ rfl rfl (by kernel_rfl) (fun _ _ _ h => h) (by kernel_rfl) hCalm ?_ ?_
               rotate_left
               · intro wS hS; (try dsimp only at hS); go_simp <;> with_reducible rfl
               try simp only [Act.put, q8a, q8b, q8c]
               refine grow_take 5 (some 118) ?_ rfl rfl (by kernel_rfl) (fun _ _ _ h => h) (by kernel_rfl) hCalm ?_ ?_
               rotate_left
               · intro wS hS; (try dsimp only at hS); go_simp <;> with_reducible rfl
               try simp only [Act.put, q8a, q8b, q8c]
               refine grow_take 6 (some 119) ?_ rfl rfl (by kernel_rfl) (fun _ _ _ h => h) (by kernel_rfl) hCalm ?_ ?_
               rotate_left
               · intro wS hS; (try dsimp only at hS); go_simp <;> with_reducible rfl
               try simp only [Act.put, q8a, q8b, q8c]
               refine grow_take 7 (some 120) ?_ rfl rfl (by kernel_rfl) (fun _ _ _ h => h) (by kernel_rfl) hCalm ?_ ?_
               rotate_left
               · intro wS hS; (try dsimp only at hS); go_simp <;> with_reducible rfl
               try simp only [Act.put, q8a, q8b, q8c]
               refine grow_take 8 (some 121) ?_ rfl rfl (by kernel_rfl) (fun _ _ _ h => h) (by kernel_rfl) hCalm ?_ ?_
               rotate_left
               · intro wS hS; (try dsimp only at hS); go_simp <;> with_reducible rfl
               try simp only [Act.put, q8a, q8b, q8c]
               refine grow_take 9 (some 122) ?_ rfl rfl (by kernel_rfl) (fun _ _ _ h => h) (by kernel_rfl) hCalm ?_ ?_
               rotate_left
               · intro wS hS; (try dsimp only at hS); go_simp <;> with_reducible rfl
               try simp only [Act.put, q8a, q8b, q8c]
               refine grow_take 10 (some 123) ?_ rfl rfl (by kernel_rfl) (fun _ _ _ h => h) (by kernel_rfl) hCalm ?_ ?_
               rotate_left
               · intro wS hS; (try dsimp only at hS); go_simp <;> with_reducible rfl
               try simp only [Act.put, q8a, q8b, q8c]
               refine grow_take 11 (some 124) ?_ rfl rfl (by kernel_rfl) (fun _ _ _ h => h) (by kernel_rfl) hCalm ?_ ?_
               rotate_left
               · intro wS hS; (try dsimp only at hS); go_simp <;> with_reducible rfl
               try simp only [Act.put, q8a, q8b, q8c]
               refine grow_take 12 (some 125) ?_ rfl rfl (by kernel_rfl) (fun _ _ _ h => h) (by kernel_rfl) hCalm ?_ ?_
               rotate_left
               · intro wS hS; (try dsimp only at hS); go_simp <;> with_reducible rfl
               try simp only [Act.put, q8a, q8b, q8c]
               refine grow_take 13 (some 126) ?_ rfl rfl (by kernel_rfl) (fun _ _ _ h => h) (by kernel_rfl) hCalm ?_ ?_
               rotate_left
               · intro wS hS; (try dsimp only at hS); go_simp <;> with_reducible rfl
               try simp only [Act.put, q8a, q8b, q8c]
               refine grow_take 14 (some 127) ?_ rfl rfl (by kernel_rfl) (fun _ _ _ h => h) (by kernel_rfl) hCalm ?_ ?_
               rotate_left
               · intro wS hS; (try dsimp only at hS); go_simp <;> with_reducible rfl
               try simp only [Act.put, q8a, q8b, q8c]
               refine grow_take 15 (some 128) ?_ rfl rfl (by kernel_rfl) (fun _ _ _ h => h) (by kernel_rfl) hCalm ?_ ?_
               rotate_left
               · intro wS hS; (try dsimp only at hS); go_simp <;> with_reducible rfl
               try simp only [Act.put, q8a, q8b, q8c]
               refine grow_call 16 (some 129) (.int .i64 sx) 10 [.tmp 116, .tmp 124, .tmp 128] #[31, 31, 31] rfl rfl (by kernel_rfl) (fun _ _ _ h => h) (by kernel_rfl) hCalm rfl (enters_of Tryz.func10 (by kernel_rfl) rfl) (fun wz _ => HSX.out wz) (by kernel_rfl) ?_
               try simp only [Act.put, q8a, q8b, q8c]
               refine grow_take 17 (some 130) (.bool false) rfl rfl (by kernel_rfl) (fun _ _ _ h => h) (by kernel_rfl) hCalm ?_ ?_
               · intro wS hS; (try dsimp only at hS); go_simp
                 all_goals (first | omega | (simp; try omega))
               try simp only [Act.put, q8a, q8b, q8c]
               refine grow_done (by kernel_rfl) (fun wA hA => ?_) _
               have HBJ := Lib.hid hA
               obtain ⟨wj, hwj⟩ : ∃ y, y = wA := ⟨_, rfl⟩
               rw [<- hwj] at HBJ ⊢
               clear hwj hA hCalm
               go_wp2_with fail
               go_roundw
               case rel => exact ⟨q + 1, true, rfl, by go_num, HQT.out, Or.inl rfl, HBJ.out⟩
               case measure => have := HQT.out; simp [intOf]; omega
             case neg =>
               have hne : x.x = p0.x -> ¬ x.y = p0.y := fun h1 h2 => hxe (by cases x; cases p0; simp only at h1 h2; rw [h1, h2])
               have HXN := Lib.hid hxe
               clear hxe
               go_wp2_with fail
               refine wp_region_grow (S := (fun w' => w'.cell? ⟨b1, o1 + q * 2, none⟩ = some (.int .i64 x.x) /\ w'.cell? ⟨b1, o1 + q * 2 + 1, none⟩ = some (.int .i64 x.y) /\ w'.cell? ⟨b2, o2 + i * 2, none⟩ = some (.int .i64 p0.x) /\ w'.cell? ⟨b2, o2 + i * 2 + 1, none⟩ = some (.int .i64 p0.y))) ((fun w' => Below w9.heap.size w9 w')) (by kernel_rfl) (⟨fun w2 h2 => ⟨(HCX.out _ h2).1, (HCX.out _ h2).2, (HCE.out _ h2).1.1, (HCE.out _ h2).1.2⟩, fun w2 w3 h2 hb2 => h2.trans (hb2.mono h2.size)⟩) (HB.out.drew) (fun hCalm => ?_)
               refine grow_take 0 (some 101) ?_ rfl rfl (by kernel_rfl) (fun _ _ _ h => h) (by kernel_rfl) hCalm ?_ ?_
               rotate_left
               · intro wS hS; (try dsimp only at hS); go_simp <;> with_reducible rfl
               try simp only [Act.put, q8a, q8b, q8c]
               refine grow_take 1 (some 102) ?_ rfl rfl (by kernel_rfl) (fun _ _ _ h => h) (by kernel_rfl) hCalm ?_ ?_
               rotate_left
               · intro wS hS; (try dsimp only at hS); go_simp <;> with_reducible rfl
               try simp only [Act.put, q8a, q8b, q8c]
               refine grow_take 2 (some 103) ?_ rfl rfl (by kernel_rfl) (fun _ _ _ h => h) (by kernel_rfl) hCalm ?_ ?_
               rotate_left
               · intro wS hS; (try dsimp only at hS); go_simp <;> with_reducible rfl
               try simp only [Act.put, q8a, q8b, q8c]
               refine grow_take 3 (some 104) ?_ rfl rfl (by kernel_rfl) (fun _ _ _ h => h) (by kernel_rfl) hCalm ?_ ?_
               rotate_left
               · intro wS hS; (try dsimp only at hS); go_simp <;> with_reducible rfl
               try simp only [Act.put, q8a, q8b, q8c]
               refine grow_take 4 (some 105) ?_ rfl rfl (by kernel_rfl) (fun _ _ _ h => h) (by kernel_rfl) hCalm ?_ ?_
               rotate_left
               · intro wS hS; (try dsimp only at hS); go_simp <;> with_reducible rfl
               try simp only [Act.put, q8a, q8b, q8c]
               refine grow_take 5 (some 106) ?_ rfl rfl (by kernel_rfl) (fun _ _ _ h => h) (by kernel_rfl) hCalm ?_ ?_
               rotate_left
               · intro wS hS; (try dsimp only at hS); go_simp <;> with_reducible rfl
               try simp only [Act.put, q8a, q8b, q8c]
               refine grow_take 6 (some 107) ?_ rfl rfl (by kernel_rfl) (fun _ _ _ h => h) (by kernel_rfl) hCalm ?_ ?_
               rotate_left
               · intro wS hS; (try dsimp only at hS); go_simp <;> with_reducible rfl
               try simp only [Act.put, q8a, q8b, q8c]
               refine grow_take 7 (some 108) ?_ rfl rfl (by kernel_rfl) (fun _ _ _ h => h) (by kernel_rfl) hCalm ?_ ?_
               rotate_left
               · intro wS hS; (try dsimp only at hS); go_simp <;> with_reducible rfl
               try simp only [Act.put, q8a, q8b, q8c]
               refine grow_take 8 (some 109) ?_ rfl rfl (by kernel_rfl) (fun _ _ _ h => h) (by kernel_rfl) hCalm ?_ ?_
               rotate_left
               · intro wS hS; (try dsimp only at hS); go_simp <;> with_reducible rfl
               try simp only [Act.put, q8a, q8b, q8c]
               refine grow_take 9 (some 110) ?_ rfl rfl (by kernel_rfl) (fun _ _ _ h => h) (by kernel_rfl) hCalm ?_ ?_
               rotate_left
               · intro wS hS; (try dsimp only at hS); go_simp <;> with_reducible rfl
               try simp only [Act.put, q8a, q8b, q8c]
               refine grow_take 10 (some 111) (.bool false) rfl rfl (by kernel_rfl) (fun _ _ _ h => h) (by kernel_rfl) hCalm ?_ ?_
               · intro wS hS; (try dsimp only at hS); go_simp
                 all_goals (first | omega | (simp; try omega))
               try simp only [Act.put, q8a, q8b, q8c]
               refine grow_take 11 (some 112) ?_ rfl rfl (by kernel_rfl) (fun _ _ _ h => h) (by kernel_rfl) hCalm ?_ ?_
               rotate_left
               · intro wS hS; (try dsimp only at hS); go_simp <;> with_reducible rfl
               try simp only [Act.put, q8a, q8b, q8c]
               refine grow_take 12 (some 15) ?_ rfl rfl (by kernel_rfl) (fun _ _ _ h => h) (by kernel_rfl) hCalm ?_ ?_
               rotate_left
               · intro wS hS; (try dsimp only at hS); go_simp <;> with_reducible rfl
               try simp only [Act.put, q8a, q8b, q8c]
               refine grow_done (by kernel_rfl) (fun wA hA => ?_) _
               have HBJ := Lib.hid hA
               obtain ⟨wj, hwj⟩ : ∃ y, y = wA := ⟨_, rfl⟩
               rw [<- hwj] at HBJ ⊢
               clear hwj hA hCalm
               go_wp2_with fail
               refine wp_region_grow (S := (fun w' => w'.cell? ⟨b2, o2 + i * 2, none⟩ = some (.int .i64 p0.x) /\ w'.cell? ⟨b2, o2 + i * 2 + 1, none⟩ = some (.int .i64 p0.y) /\ w'.cell? ⟨b2, o2 + j1 * 2, none⟩ = some (.int .i64 p1.x) /\ w'.cell? ⟨b2, o2 + j1 * 2 + 1, none⟩ = some (.int .i64 p1.y) /\ w'.cell? ⟨b1, o1 + q * 2, none⟩ = some (.int .i64 x.x) /\ w'.cell? ⟨b1, o1 + q * 2 + 1, none⟩ = some (.int .i64 x.y))) ((fun w' => Below w9.heap.size w9 w')) (by kernel_rfl) (⟨fun w2 h2 => ⟨(HCE.out _ h2).1.1, (HCE.out _ h2).1.2, (HCE.out _ h2).2.1.1, (HCE.out _ h2).2.1.2, (HCX.out _ h2).1, (HCX.out _ h2).2⟩, fun w2 w3 h2 hb2 => h2.trans (hb2.mono h2.size)⟩) (HBJ.out.drew) (fun hCalm => ?_)
               refine grow_take 0 (some 113) ?_ rfl rfl (by kernel_rfl) (fun _ _ _ h => h) (by kernel_rfl) hCalm ?_ ?_
               rotate_left
               · intro wS hS; (try dsimp only at hS); go_simp <;> with_reducible rfl
               try simp only [Act.put, q8a, q8b, q8c]
               refine grow_take 1 (some 114) ?_ rfl rfl (by kernel_rfl) (fun _ _ _ h => h) (by kernel_rfl) hCalm ?_ ?_
               rotate_left
               · intro wS hS; (try dsimp only at hS); go_simp <;> with_reducible rfl
               try simp only [Act.put, q8a, q8b, q8c]
               refine grow_take 2 (some 115) ?_ rfl rfl (by kernel_rfl) (fun _ _ _ h => h) (by kernel_rfl) hCalm ?_ ?_
               rotate_left
               · intro wS hS; (try dsimp only at hS); go_simp <;> with_reducible rfl
               try simp only [Act.put, q8a, q8b, q8c]
               refine grow_take 3 (some 116) ?_ rfl rfl (by kernel_rfl) (fun _ _ _ h => h) (by kernel_rfl) hCalm ?_ ?_
               rotate_left
               · intro wS hS; (try dsimp only at hS); go_simp <;> with_reducible rfl
               try simp only [Act.put, q8a, q8b, q8c]
               refine grow_take 4 (some 117) ?_ rfl rfl (by kernel_rfl) (fun _ _ _ h => h) (by kernel_rfl) hCalm ?_ ?_
               rotate_left
               · intro wS hS; (try dsimp only at hS); go_simp <;> with_reducible rfl
               try simp only [Act.put, q8a, q8b, q8c]
               refine grow_take 5 (some 118) ?_ rfl rfl (by kernel_rfl) (fun _ _ _ h => h) (by kernel_rfl) hCalm ?_ ?_
               rotate_left
               · intro wS hS; (try dsimp only at hS); go_simp <;> with_reducible rfl
               try simp only [Act.put, q8a, q8b, q8c]
               refine grow_take 6 (some 119) ?_ rfl rfl (by kernel_rfl) (fun _ _ _ h => h) (by kernel_rfl) hCalm ?_ ?_
               rotate_left
               · intro wS hS; (try dsimp only at hS); go_simp <;> with_reducible rfl
               try simp only [Act.put, q8a, q8b, q8c]
               refine grow_take 7 (some 120) ?_ rfl rfl (by kernel_rfl) (fun _ _ _ h => h) (by kernel_rfl) hCalm ?_ ?_
               rotate_left
               · intro wS hS; (try dsimp only at hS); go_simp <;> with_reducible rfl
               try simp only [Act.put, q8a, q8b, q8c]
               refine grow_take 8 (some 121) ?_ rfl rfl (by kernel_rfl) (fun _ _ _ h => h) (by kernel_rfl) hCalm ?_ ?_
               rotate_left
               · intro wS hS; (try dsimp only at hS); go_simp <;> with_reducible rfl
               try simp only [Act.put, q8a, q8b, q8c]
               refine grow_take 9 (some 122) ?_ rfl rfl (by kernel_rfl) (fun _ _ _ h => h) (by kernel_rfl) hCalm ?_ ?_
               rotate_left
               · intro wS hS; (try dsimp only at hS); go_simp <;> with_reducible rfl
               try simp only [Act.put, q8a, q8b, q8c]
               refine grow_take 10 (some 123) ?_ rfl rfl (by kernel_rfl) (fun _ _ _ h => h) (by kernel_rfl) hCalm ?_ ?_
               rotate_left
               · intro wS hS; (try dsimp only at hS); go_simp <;> with_reducible rfl
               try simp only [Act.put, q8a, q8b, q8c]
               refine grow_take 11 (some 124) ?_ rfl rfl (by kernel_rfl) (fun _ _ _ h => h) (by kernel_rfl) hCalm ?_ ?_
               rotate_left
               · intro wS hS; (try dsimp only at hS); go_simp <;> with_reducible rfl
               try simp only [Act.put, q8a, q8b, q8c]
               refine grow_take 12 (some 125) ?_ rfl rfl (by kernel_rfl) (fun _ _ _ h => h) (by kernel_rfl) hCalm ?_ ?_
               rotate_left
               · intro wS hS; (try dsimp only at hS); go_simp <;> with_reducible rfl
               try simp only [Act.put, q8a, q8b, q8c]
               refine grow_take 13 (some 126) ?_ rfl rfl (by kernel_rfl) (fun _ _ _ h => h) (by kernel_rfl) hCalm ?_ ?_
               rotate_left
               · intro wS hS; (try dsimp only at hS); go_simp <;> with_reducible rfl
               try simp only [Act.put, q8a, q8b, q8c]
               refine grow_take 14 (some 127) ?_ rfl rfl (by kernel_rfl) (fun _ _ _ h => h) (by kernel_rfl) hCalm ?_ ?_
               rotate_left
               · intro wS hS; (try dsimp only at hS); go_simp <;> with_reducible rfl
               try simp only [Act.put, q8a, q8b, q8c]
               refine grow_take 15 (some 128) ?_ rfl rfl (by kernel_rfl) (fun _ _ _ h => h) (by kernel_rfl) hCalm ?_ ?_
               rotate_left
               · intro wS hS; (try dsimp only at hS); go_simp <;> with_reducible rfl
               try simp only [Act.put, q8a, q8b, q8c]
               refine grow_call 16 (some 129) (.int .i64 sx) 10 [.tmp 116, .tmp 124, .tmp 128] #[31, 31, 31] rfl rfl (by kernel_rfl) (fun _ _ _ h => h) (by kernel_rfl) hCalm rfl (enters_of Tryz.func10 (by kernel_rfl) rfl) (fun wz _ => HSX.out wz) (by kernel_rfl) ?_
               try simp only [Act.put, q8a, q8b, q8c]
               refine grow_take 17 (some 130) (.bool false) rfl rfl (by kernel_rfl) (fun _ _ _ h => h) (by kernel_rfl) hCalm ?_ ?_
               · intro wS hS; (try dsimp only at hS); go_simp
                 all_goals (first | omega | (simp; try omega))
               try simp only [Act.put, q8a, q8b, q8c]
               refine grow_done (by kernel_rfl) (fun wA hA => ?_) _
               have HBJ := Lib.hid hA
               obtain ⟨wj, hwj⟩ : ∃ y, y = wA := ⟨_, rfl⟩
               rw [<- hwj] at HBJ ⊢
               clear hwj hA hCalm
               go_wp2_with fail
               go_roundw
               case rel =>
                 refine ⟨q + 1, false, rfl, by go_num, HQT.out, Or.inr (fun r hr h1 => ?_), HBJ.out⟩
                 rcases Nat.lt_or_ge r q with h2 | h2
                 · exact HAL.out r hr h2
                 · obtain rfl : r = q := by omega
                   have h3 := HXE.out
                   rw [List.getElem?_eq_getElem hr] at h3
                   rw [Option.some.inj h3]; exact HXN.out
               case measure => have := HQT.out; simp [intOf]; omega
         case neg =>
           have s1 : ¬ (q : Int) < (l.length : Int) := by omega
           have hbt : b = true := by
             rcases HQ.out with h1 | h1
             · exact h1
             · obtain ⟨r, hr, e⟩ := List.getElem_of_mem HIN.out
               exact absurd e (h1 r hr (by omega))
           subst hbt
           clear HQ hqt hq
           by_cases h2 : 2 < h.length
           case pos =>
             have ht1 := HTU.out h2
             rw [ht1] at HS3
             have h2b : (2 : Int) < (h.length : Int) := by omega
             clear ht1
             go_wp2_with fail
             refine wp_region_grow (S := (fun w' => w'.cell? ⟨b2, o2 + i * 2, none⟩ = some (.int .i64 p0.x) /\ w'.cell? ⟨b2, o2 + i * 2 + 1, none⟩ = some (.int .i64 p0.y) /\ w'.cell? ⟨b2, o2 + j1 * 2, none⟩ = some (.int .i64 p1.x) /\ w'.cell? ⟨b2, o2 + j1 * 2 + 1, none⟩ = some (.int .i64 p1.y) /\ w'.cell? ⟨b2, o2 + j2 * 2, none⟩ = some (.int .i64 p2.x) /\ w'.cell? ⟨b2, o2 + j2 * 2 + 1, none⟩ = some (.int .i64 p2.y))) ((fun w' => Below w9.heap.size w9 w')) (by kernel_rfl) (⟨fun w2 h2 => ⟨(HCE.out _ h2).1.1, (HCE.out _ h2).1.2, (HCE.out _ h2).2.1.1, (HCE.out _ h2).2.1.2, (HCE.out _ h2).2.2.1.1, (HCE.out _ h2).2.2.1.2⟩, fun w2 w3 h2 hb2 => h2.trans (hb2.mono h2.size)⟩) (HB.out.drew) (fun hCalm => ?_)
             refine grow_take 0 (some 131) ?_ rfl rfl (by kernel_rfl) (fun _ _ _ h => h) (by kernel_rfl) hCalm ?_ ?_
             rotate_left
             · intro wS hS; (try dsimp only at hS); go_simp <;> with_reducible rfl
             try simp only [Act.put, q8a, q8b, q8c]
             refine grow_take 1 (some 132) ?_ rfl rfl (by kernel_rfl) (fun _ _ _ h => h) (by kernel_rfl) hCalm ?_ ?_
             rotate_left
             · intro wS hS; (try dsimp only at hS); go_simp <;> with_reducible rfl
             try simp only [Act.put, q8a, q8b, q8c]
             refine grow_take 2 (some 133) ?_ rfl rfl (by kernel_rfl) (fun _ _ _ h => h) (by kernel_rfl) hCalm ?_ ?_
             rotate_left
             · intro wS hS; (try dsimp only at hS); go_simp <;> with_reducible rfl
             try simp only [Act.put, q8a, q8b, q8c]
             refine grow_take 3 (some 134) ?_ rfl rfl (by kernel_rfl) (fun _ _ _ h => h) (by kernel_rfl) hCalm ?_ ?_
             rotate_left
             · intro wS hS; (try dsimp only at hS); go_simp <;> with_reducible rfl
             try simp only [Act.put, q8a, q8b, q8c]
             refine grow_take 4 (some 135) ?_ rfl rfl (by kernel_rfl) (fun _ _ _ h => h) (by kernel_rfl) hCalm ?_ ?_
             rotate_left
             · intro wS hS; (try dsimp only at hS); go_simp <;> with_reducible rfl
             try simp only [Act.put, q8a, q8b, q8c]
             refine grow_take 5 (some 136) (.bool true) rfl rfl (by kernel_rfl) (fun _ _ _ h => h) (by kernel_rfl) hCalm ?_ ?_
             · intro wS hS; (try dsimp only at hS); go_simp
               all_goals (first | omega | (simp; try omega))
             try simp only [Act.put, q8a, q8b, q8c]
             refine grow_take 6 (some 137) ?_ rfl rfl (by kernel_rfl) (fun _ _ _ h => h) (by kernel_rfl) hCalm ?_ ?_
             rotate_left
             · intro wS hS; (try dsimp only at hS); go_simp <;> with_reducible rfl
             try simp only [Act.put, q8a, q8b, q8c]
             refine grow_take 7 (some 138) ?_ rfl rfl (by kernel_rfl) (fun _ _ _ h => h) (by kernel_rfl) hCalm ?_ ?_
             rotate_left
             · intro wS hS; (try dsimp only at hS); go_simp <;> with_reducible rfl
             try simp only [Act.put, q8a, q8b, q8c]
             refine grow_take 8 (some 139) ?_ rfl rfl (by kernel_rfl) (fun _ _ _ h => h) (by kernel_rfl) hCalm ?_ ?_
             rotate_left
             · intro wS hS; (try dsimp only at hS); go_simp <;> with_reducible rfl
             try simp only [Act.put, q8a, q8b, q8c]
             refine grow_take 9 (some 140) ?_ rfl rfl (by kernel_rfl) (fun _ _ _ h => h) (by kernel_rfl) hCalm ?_ ?_
             rotate_left
             · intro wS hS; (try dsimp only at hS); go_simp <;> with_reducible rfl
             try simp only [Act.put, q8a, q8b, q8c]
             refine grow_take 10 (some 141) ?_ rfl rfl (by kernel_rfl) (fun _ _ _ h => h) (by kernel_rfl) hCalm ?_ ?_
             rotate_left
             · intro wS hS; (try dsimp only at hS); go_simp <;> with_reducible rfl
             try simp only [Act.put, q8a, q8b, q8c]
             refine grow_take 11 (some 142) ?_ rfl rfl (by kernel_rfl) (fun _ _ _ h => h) (by kernel_rfl) hCalm ?_ ?_
             rotate_left
             · intro wS hS; (try dsimp only at hS); go_simp <;> with_reducible rfl
             try simp only [Act.put, q8a, q8b, q8c]
             refine grow_take 12 (some 143) ?_ rfl rfl (by kernel_rfl) (fun _ _ _ h => h) (by kernel_rfl) hCalm ?_ ?_
             rotate_left
             · intro wS hS; (try dsimp only at hS); go_simp <;> with_reducible rfl
             try simp only [Act.put, q8a, q8b, q8c]
             refine grow_take 13 (some 144) ?_ rfl rfl (by kernel_rfl) (fun _ _ _ h => h) (by kernel_rfl) hCalm ?_ ?_
             rotate_left
             · intro wS hS; (try dsimp only at hS); go_simp <;> with_reducible rfl
             try simp only [Act.put, q8a, q8b, q8c]
             refine grow_take 14 (some 145) ?_ rfl rfl (by kernel_rfl) (fun _ _ _ h => h) (by kernel_rfl) hCalm ?_ ?_
             rotate_left
             · intro wS hS; (try dsimp only at hS); go_simp <;> with_reducible rfl
             try simp only [Act.put, q8a, q8b, q8c]
             refine grow_take 15 (some 146) ?_ rfl rfl (by kernel_rfl) (fun _ _ _ h => h) (by kernel_rfl) hCalm ?_ ?_
             rotate_left
             · intro wS hS; (try dsimp only at hS); go_simp <;> with_reducible rfl
             try simp only [Act.put, q8a, q8b, q8c]
             refine grow_take 16 (some 147) ?_ rfl rfl (by kernel_rfl) (fun _ _ _ h => h) (by kernel_rfl) hCalm ?_ ?_
             rotate_left
             · intro wS hS; (try dsimp only at hS); go_simp <;> with_reducible rfl
             try simp only [Act.put, q8a, q8b, q8c]
             refine grow_take 17 (some 148) ?_ rfl rfl (by kernel_rfl) (fun _ _ _ h => h) (by kernel_rfl) hCalm ?_ ?_
             rotate_left
             · intro wS hS; (try dsimp only at hS); go_simp <;> with_reducible rfl
             try simp only [Act.put, q8a, q8b, q8c]
             refine grow_take 18 (some 149) ?_ rfl rfl (by kernel_rfl) (fun _ _ _ h => h) (by kernel_rfl) hCalm ?_ ?_
             rotate_left
             · intro wS hS; (try dsimp only at hS); go_simp <;> with_reducible rfl
             try simp only [Act.put, q8a, q8b, q8c]
             refine grow_take 19 (some 150) ?_ rfl rfl (by kernel_rfl) (fun _ _ _ h => h) (by kernel_rfl) hCalm ?_ ?_
             rotate_left
             · intro wS hS; (try dsimp only at hS); go_simp <;> with_reducible rfl
             try simp only [Act.put, q8a, q8b, q8c]
             refine grow_take 20 (some 151) ?_ rfl rfl (by kernel_rfl) (fun _ _ _ h => h) (by kernel_rfl) hCalm ?_ ?_
             rotate_left
             · intro wS hS; (try dsimp only at hS); go_simp <;> with_reducible rfl
             try simp only [Act.put, q8a, q8b, q8c]
             refine grow_take 21 (some 152) ?_ rfl rfl (by kernel_rfl) (fun _ _ _ h => h) (by kernel_rfl) hCalm ?_ ?_
             rotate_left
             · intro wS hS; (try dsimp only at hS); go_simp <;> with_reducible rfl
             try simp only [Act.put, q8a, q8b, q8c]
             refine grow_take 22 (some 153) ?_ rfl rfl (by kernel_rfl) (fun _ _ _ h => h) (by kernel_rfl) hCalm ?_ ?_
             rotate_left
             · intro wS hS; (try dsimp only at hS); go_simp <;> with_reducible rfl
             try simp only [Act.put, q8a, q8b, q8c]
             refine grow_take 23 (some 154) ?_ rfl rfl (by kernel_rfl) (fun _ _ _ h => h) (by kernel_rfl) hCalm ?_ ?_
             rotate_left
             · intro wS hS; (try dsimp only at hS); go_simp <;> with_reducible rfl
             try simp only [Act.put, q8a, q8b, q8c]
             refine grow_take 24 (some 155) ?_ rfl rfl (by kernel_rfl) (fun _ _ _ h => h) (by kernel_rfl) hCalm ?_ ?_
             rotate_left
             · intro wS hS; (try dsimp only at hS); go_simp <;> with_reducible rfl
             try simp only [Act.put, q8a, q8b, q8c]
             refine grow_take 25 (some 156) ?_ rfl rfl (by kernel_rfl) (fun _ _ _ h => h) (by kernel_rfl) hCalm ?_ ?_
             rotate_left
             · intro wS hS; (try dsimp only at hS); go_simp <;> with_reducible rfl
             try simp only [Act.put, q8a, q8b, q8c]
             refine grow_take 26 (some 157) ?_ rfl rfl (by kernel_rfl) (fun _ _ _ h => h) (by kernel_rfl) hCalm ?_ ?_
             rotate_left
             · intro wS hS; (try dsimp only at hS); go_simp <;> with_reducible rfl
             try simp only [Act.put, q8a, q8b, q8c]
             refine grow_call 27 (some 158) (.int .i64 1) 10 [.tmp 141, .tmp 149, .tmp 157] #[31, 31, 31] rfl rfl (by kernel_rfl) (fun _ _ _ h => h) (by kernel_rfl) hCalm rfl (enters_of Tryz.func10 (by kernel_rfl) rfl) (fun wz _ => HS3.out wz) (by kernel_rfl) ?_
             try simp only [Act.put, q8a, q8b, q8c]
             refine grow_take 28 (some 159) (.bool false) rfl rfl (by kernel_rfl) (fun _ _ _ h => h) (by kernel_rfl) hCalm ?_ ?_
             · intro wS hS; (try dsimp only at hS); go_simp
               all_goals (first | omega | (simp; try omega))
             try simp only [Act.put, q8a, q8b, q8c]
             refine grow_take 29 (some 160) ?_ rfl rfl (by kernel_rfl) (fun _ _ _ h => h) (by kernel_rfl) hCalm ?_ ?_
             rotate_left
             · intro wS hS; (try dsimp only at hS); go_simp <;> with_reducible rfl
             try simp only [Act.put, q8a, q8b, q8c]
             refine grow_take 30 (some 161) ?_ rfl rfl (by kernel_rfl) (fun _ _ _ h => h) (by kernel_rfl) hCalm ?_ ?_
             rotate_left
             · intro wS hS; (try dsimp only at hS); go_simp <;> with_reducible rfl
             try simp only [Act.put, q8a, q8b, q8c]
             refine grow_done (by kernel_rfl) (fun wA hA => ?_) _
             have HBJ := Lib.hid hA
             obtain ⟨wj, hwj⟩ : ∃ y, y = wA := ⟨_, rfl⟩
             rw [<- hwj] at HBJ ⊢
             clear hwj hA hCalm
             go_wp2_with fail
             by_cases hi0 : 0 < i
             case pos =>
               have hi0b : (0 : Int) < (i : Int) := by omega
               have hlt := HFI.out hi0
               have y1 : ¬ p0.y < pz.y := by unfold lt7 at hlt; omega
               by_cases hyy : p0.y = pz.y
               case pos =>
                 have x1 : ¬ p0.x <= pz.x := by unfold lt7 at hlt; omega
                 refine wp_region_grow (S := (fun w' => w'.cell? ⟨b2, o2 + i * 2, none⟩ = some (.int .i64 p0.x) /\ w'.cell? ⟨b2, o2 + i * 2 + 1, none⟩ = some (.int .i64 p0.y) /\ w'.cell? ⟨b2, o2, none⟩ = some (.int .i64 pz.x) /\ w'.cell? ⟨b2, o2 + 1, none⟩ = some (.int .i64 pz.y))) ((fun w' => Below w9.heap.size w9 w')) (by kernel_rfl) (⟨fun w2 h2 => ⟨(HCE.out _ h2).1.1, (HCE.out _ h2).1.2, (HCE.out _ h2).2.2.2.1, (HCE.out _ h2).2.2.2.2⟩, fun w2 w3 h2 hb2 => h2.trans (hb2.mono h2.size)⟩) (HBJ.out.drew) (fun hCalm => ?_)
                 refine grow_take 0 (some 162) ?_ rfl rfl (by kernel_rfl) (fun _ _ _ h => h) (by kernel_rfl) hCalm ?_ ?_
                 rotate_left
                 · intro wS hS; (try dsimp only at hS); go_simp <;> with_reducible rfl
                 try simp only [Act.put, q8a, q8b, q8c]
                 refine grow_take 1 (some 163) (.bool true) rfl rfl (by kernel_rfl) (fun _ _ _ h => h) (by kernel_rfl) hCalm ?_ ?_
                 · intro wS hS; (try dsimp only at hS); go_simp
                   all_goals (first | omega | (simp; try omega))
                 try simp only [Act.put, q8a, q8b, q8c]
                 refine grow_take 2 (some 164) ?_ rfl rfl (by kernel_rfl) (fun _ _ _ h => h) (by kernel_rfl) hCalm ?_ ?_
                 rotate_left
                 · intro wS hS; (try dsimp only at hS); go_simp <;> with_reducible rfl
                 try simp only [Act.put, q8a, q8b, q8c]
                 refine grow_take 3 (some 165) ?_ rfl rfl (by kernel_rfl) (fun _ _ _ h => h) (by kernel_rfl) hCalm ?_ ?_
                 rotate_left
                 · intro wS hS; (try dsimp only at hS); go_simp <;> with_reducible rfl
                 try simp only [Act.put, q8a, q8b, q8c]
                 refine grow_take 4 (some 166) ?_ rfl rfl (by kernel_rfl) (fun _ _ _ h => h) (by kernel_rfl) hCalm ?_ ?_
                 rotate_left
                 · intro wS hS; (try dsimp only at hS); go_simp <;> with_reducible rfl
                 try simp only [Act.put, q8a, q8b, q8c]
                 refine grow_take 5 (some 167) ?_ rfl rfl (by kernel_rfl) (fun _ _ _ h => h) (by kernel_rfl) hCalm ?_ ?_
                 rotate_left
                 · intro wS hS; (try dsimp only at hS); go_simp <;> with_reducible rfl
                 try simp only [Act.put, q8a, q8b, q8c]
                 refine grow_take 6 (some 168) ?_ rfl rfl (by kernel_rfl) (fun _ _ _ h => h) (by kernel_rfl) hCalm ?_ ?_
                 rotate_left
                 · intro wS hS; (try dsimp only at hS); go_simp <;> with_reducible rfl
                 try simp only [Act.put, q8a, q8b, q8c]
                 refine grow_take 7 (some 169) ?_ rfl rfl (by kernel_rfl) (fun _ _ _ h => h) (by kernel_rfl) hCalm ?_ ?_
                 rotate_left
                 · intro wS hS; (try dsimp only at hS); go_simp <;> with_reducible rfl
                 try simp only [Act.put, q8a, q8b, q8c]
                 refine grow_take 8 (some 170) ?_ rfl rfl (by kernel_rfl) (fun _ _ _ h => h) (by kernel_rfl) hCalm ?_ ?_
                 rotate_left
                 · intro wS hS; (try dsimp only at hS); go_simp <;> with_reducible rfl
                 try simp only [Act.put, q8a, q8b, q8c]
                 refine grow_take 9 (some 171) ?_ rfl rfl (by kernel_rfl) (fun _ _ _ h => h) (by kernel_rfl) hCalm ?_ ?_
                 rotate_left
                 · intro wS hS; (try dsimp only at hS); go_simp <;> with_reducible rfl
                 try simp only [Act.put, q8a, q8b, q8c]
                 refine grow_take 10 (some 172) ?_ rfl rfl (by kernel_rfl) (fun _ _ _ h => h) (by kernel_rfl) hCalm ?_ ?_
                 rotate_left
                 · intro wS hS; (try dsimp only at hS); go_simp <;> with_reducible rfl
                 try simp only [Act.put, q8a, q8b, q8c]
                 refine grow_take 11 (some 173) ?_ rfl rfl (by kernel_rfl) (fun _ _ _ h => h) (by kernel_rfl) hCalm ?_ ?_
                 rotate_left
                 · intro wS hS; (try dsimp only at hS); go_simp <;> with_reducible rfl
                 try simp only [Act.put, q8a, q8b, q8c]
                 refine grow_take 12 (some 174) (.bool false) rfl rfl (by kernel_rfl) (fun _ _ _ h => h) (by kernel_rfl) hCalm ?_ ?_
                 · intro wS hS; (try dsimp only at hS); go_simp
                   all_goals (first | omega | (simp; try omega))
                 try simp only [Act.put, q8a, q8b, q8c]
                 refine grow_take 13 (some 175) ?_ rfl rfl (by kernel_rfl) (fun _ _ _ h => h) (by kernel_rfl) hCalm ?_ ?_
                 rotate_left
                 · intro wS hS; (try dsimp only at hS); go_simp <;> with_reducible rfl
                 try simp only [Act.put, q8a, q8b, q8c]
                 refine grow_take 14 (some 176) ?_ rfl rfl (by kernel_rfl) (fun _ _ _ h => h) (by kernel_rfl) hCalm ?_ ?_
                 rotate_left
                 · intro wS hS; (try dsimp only at hS); go_simp <;> with_reducible rfl
                 try simp only [Act.put, q8a, q8b, q8c]
                 refine grow_take 15 (some 177) ?_ rfl rfl (by kernel_rfl) (fun _ _ _ h => h) (by kernel_rfl) hCalm ?_ ?_
                 rotate_left
                 · intro wS hS; (try dsimp only at hS); go_simp <;> with_reducible rfl
                 try simp only [Act.put, q8a, q8b, q8c]
                 refine grow_take 16 (some 178) ?_ rfl rfl (by kernel_rfl) (fun _ _ _ h => h) (by kernel_rfl) hCalm ?_ ?_
                 rotate_left
                 · intro wS hS; (try dsimp only at hS); go_simp <;> with_reducible rfl
                 try simp only [Act.put, q8a, q8b, q8c]
                 refine grow_take 17 (some 179) ?_ rfl rfl (by kernel_rfl) (fun _ _ _ h => h) (by kernel_rfl) hCalm ?_ ?_
                 rotate_left
                 · intro wS hS; (try dsimp only at hS); go_simp <;> with_reducible rfl
                 try simp only [Act.put, q8a, q8b, q8c]
                 refine grow_take 18 (some 180) ?_ rfl rfl (by kernel_rfl) (fun _ _ _ h => h) (by kernel_rfl) hCalm ?_ ?_
                 rotate_left
                 · intro wS hS; (try dsimp only at hS); go_simp <;> with_reducible rfl
                 try simp only [Act.put, q8a, q8b, q8c]
                 refine grow_take 19 (some 181) ?_ rfl rfl (by kernel_rfl) (fun _ _ _ h => h) (by kernel_rfl) hCalm ?_ ?_
                 rotate_left
                 · intro wS hS; (try dsimp only at hS); go_simp <;> with_reducible rfl
                 try simp only [Act.put, q8a, q8b, q8c]
                 refine grow_take 20 (some 182) ?_ rfl rfl (by kernel_rfl) (fun _ _ _ h => h) (by kernel_rfl) hCalm ?_ ?_
                 rotate_left
                 · intro wS hS; (try dsimp only at hS); go_simp <;> with_reducible rfl
                 try simp only [Act.put, q8a, q8b, q8c]
                 refine grow_take 21 (some 183) ?_ rfl rfl (by kernel_rfl) (fun _ _ _ h => h) (by kernel_rfl) hCalm ?_ ?_
                 rotate_left
                 · intro wS hS; (try dsimp only at hS); go_simp <;> with_reducible rfl
                 try simp only [Act.put, q8a, q8b, q8c]
                 refine grow_take 22 (some 184) ?_ rfl rfl (by kernel_rfl) (fun _ _ _ h => h) (by kernel_rfl) hCalm ?_ ?_
                 rotate_left
                 · intro wS hS; (try dsimp only at hS); go_simp <;> with_reducible rfl
                 try simp only [Act.put, q8a, q8b, q8c]
                 refine grow_take 23 (some 185) (.bool true) rfl rfl (by kernel_rfl) (fun _ _ _ h => h) (by kernel_rfl) hCalm ?_ ?_
                 · intro wS hS; (try dsimp only at hS); go_simp
                   all_goals (first | omega | (simp; try omega))
                 try simp only [Act.put, q8a, q8b, q8c]
                 refine grow_take 24 (some 186) ?_ rfl rfl (by kernel_rfl) (fun _ _ _ h => h) (by kernel_rfl) hCalm ?_ ?_
                 rotate_left
                 · intro wS hS; (try dsimp only at hS); go_simp <;> with_reducible rfl
                 try simp only [Act.put, q8a, q8b, q8c]
                 refine grow_take 25 (some 187) ?_ rfl rfl (by kernel_rfl) (fun _ _ _ h => h) (by kernel_rfl) hCalm ?_ ?_
                 rotate_left
                 · intro wS hS; (try dsimp only at hS); go_simp <;> with_reducible rfl
                 try simp only [Act.put, q8a, q8b, q8c]
                 refine grow_take 26 (some 188) ?_ rfl rfl (by kernel_rfl) (fun _ _ _ h => h) (by kernel_rfl) hCalm ?_ ?_
                 rotate_left
                 · intro wS hS; (try dsimp only at hS); go_simp <;> with_reducible rfl
                 try simp only [Act.put, q8a, q8b, q8c]
                 refine grow_take 27 (some 189) ?_ rfl rfl (by kernel_rfl) (fun _ _ _ h => h) (by kernel_rfl) hCalm ?_ ?_
                 rotate_left
                 · intro wS hS; (try dsimp only at hS); go_simp <;> with_reducible rfl
                 try simp only [Act.put, q8a, q8b, q8c]
                 refine grow_take 28 (some 190) ?_ rfl rfl (by kernel_rfl) (fun _ _ _ h => h) (by kernel_rfl) hCalm ?_ ?_
                 rotate_left
                 · intro wS hS; (try dsimp only at hS); go_simp <;> with_reducible rfl
                 try simp only [Act.put, q8a, q8b, q8c]
                 refine grow_take 29 (some 191) ?_ rfl rfl (by kernel_rfl) (fun _ _ _ h => h) (by kernel_rfl) hCalm ?_ ?_
                 rotate_left
                 · intro wS hS; (try dsimp only at hS); go_simp <;> with_reducible rfl
                 try simp only [Act.put, q8a, q8b, q8c]
                 refine grow_take 30 (some 192) ?_ rfl rfl (by kernel_rfl) (fun _ _ _ h => h) (by kernel_rfl) hCalm ?_ ?_
                 rotate_left
                 · intro wS hS; (try dsimp only at hS); go_simp <;> with_reducible rfl
                 try simp only [Act.put, q8a, q8b, q8c]
                 refine grow_take 31 (some 193) ?_ rfl rfl (by kernel_rfl) (fun _ _ _ h => h) (by kernel_rfl) hCalm ?_ ?_
                 rotate_left
                 · intro wS hS; (try dsimp only at hS); go_simp <;> with_reducible rfl
                 try simp only [Act.put, q8a, q8b, q8c]
                 refine grow_take 32 (some 194) ?_ rfl rfl (by kernel_rfl) (fun _ _ _ h => h) (by kernel_rfl) hCalm ?_ ?_
                 rotate_left
                 · intro wS hS; (try dsimp only at hS); go_simp <;> with_reducible rfl
                 try simp only [Act.put, q8a, q8b, q8c]
                 refine grow_take 33 (some 195) ?_ rfl rfl (by kernel_rfl) (fun _ _ _ h => h) (by kernel_rfl) hCalm ?_ ?_
                 rotate_left
                 · intro wS hS; (try dsimp only at hS); go_simp <;> with_reducible rfl
                 try simp only [Act.put, q8a, q8b, q8c]
                 refine grow_take 34 (some 196) (.bool false) rfl rfl (by kernel_rfl) (fun _ _ _ h => h) (by kernel_rfl) hCalm ?_ ?_
                 · intro wS hS; (try dsimp only at hS); go_simp
                   all_goals (first | omega | (simp; try omega))
                 try simp only [Act.put, q8a, q8b, q8c]
                 refine grow_take 35 (some 197) ?_ rfl rfl (by kernel_rfl) (fun _ _ _ h => h) (by kernel_rfl) hCalm ?_ ?_
                 rotate_left
                 · intro wS hS; (try dsimp only at hS); go_simp <;> with_reducible rfl
                 try simp only [Act.put, q8a, q8b, q8c]
                 refine grow_take 36 (some 198) ?_ rfl rfl (by kernel_rfl) (fun _ _ _ h => h) (by kernel_rfl) hCalm ?_ ?_
                 rotate_left
                 · intro wS hS; (try dsimp only at hS); go_simp <;> with_reducible rfl
                 try simp only [Act.put, q8a, q8b, q8c]
                 refine grow_take 37 (some 199) ?_ rfl rfl (by kernel_rfl) (fun _ _ _ h => h) (by kernel_rfl) hCalm ?_ ?_
                 rotate_left
                 · intro wS hS; (try dsimp only at hS); go_simp <;> with_reducible rfl
                 try simp only [Act.put, q8a, q8b, q8c]
                 refine grow_done (by kernel_rfl) (fun wA hA => ?_) _
                 have HBJ := Lib.hid hA
                 obtain ⟨wj, hwj⟩ : ∃ y, y = wA := ⟨_, rfl⟩
                 rw [<- hwj] at HBJ ⊢
                 clear hwj hA hCalm
                 go_wp2_with fail
                 go_roundw
                 case rel => exact ⟨i1, by go_num, HII.out.2, HBJ.out⟩
                 case measure => have := HII.out; simp [intOf]; omega
               case neg =>
                 refine wp_region_grow (S := (fun w' => w'.cell? ⟨b2, o2 + i * 2, none⟩ = some (.int .i64 p0.x) /\ w'.cell? ⟨b2, o2 + i * 2 + 1, none⟩ = some (.int .i64 p0.y) /\ w'.cell? ⟨b2, o2, none⟩ = some (.int .i64 pz.x) /\ w'.cell? ⟨b2, o2 + 1, none⟩ = some (.int .i64 pz.y))) ((fun w' => Below w9.heap.size w9 w')) (by kernel_rfl) (⟨fun w2 h2 => ⟨(HCE.out _ h2).1.1, (HCE.out _ h2).1.2, (HCE.out _ h2).2.2.2.1, (HCE.out _ h2).2.2.2.2⟩, fun w2 w3 h2 hb2 => h2.trans (hb2.mono h2.size)⟩) (HBJ.out.drew) (fun hCalm => ?_)
                 refine grow_take 0 (some 162) ?_ rfl rfl (by kernel_rfl) (fun _ _ _ h => h) (by kernel_rfl) hCalm ?_ ?_
                 rotate_left
                 · intro wS hS; (try dsimp only at hS); go_simp <;> with_reducible rfl
                 try simp only [Act.put, q8a, q8b, q8c]
                 refine grow_take 1 (some 163) (.bool true) rfl rfl (by kernel_rfl) (fun _ _ _ h => h) (by kernel_rfl) hCalm ?_ ?_
                 · intro wS hS; (try dsimp only at hS); go_simp
                   all_goals (first | omega | (simp; try omega))
                 try simp only [Act.put, q8a, q8b, q8c]
                 refine grow_take 2 (some 164) ?_ rfl rfl (by kernel_rfl) (fun _ _ _ h => h) (by kernel_rfl) hCalm ?_ ?_
                 rotate_left
                 · intro wS hS; (try dsimp only at hS); go_simp <;> with_reducible rfl
                 try simp only [Act.put, q8a, q8b, q8c]
                 refine grow_take 3 (some 165) ?_ rfl rfl (by kernel_rfl) (fun _ _ _ h => h) (by kernel_rfl) hCalm ?_ ?_
                 rotate_left
                 · intro wS hS; (try dsimp only at hS); go_simp <;> with_reducible rfl
                 try simp only [Act.put, q8a, q8b, q8c]
                 refine grow_take 4 (some 166) ?_ rfl rfl (by kernel_rfl) (fun _ _ _ h => h) (by kernel_rfl) hCalm ?_ ?_
                 rotate_left
                 · intro wS hS; (try dsimp only at hS); go_simp <;> with_reducible rfl
                 try simp only [Act.put, q8a, q8b, q8c]
                 refine grow_take 5 (some 167) ?_ rfl rfl (by kernel_rfl) (fun _ _ _ h => h) (by kernel_rfl) hCalm ?_ ?_
                 rotate_left
                 · intro wS hS; (try dsimp only at hS); go_simp <;> with_reducible rfl
                 try simp only [Act.put, q8a, q8b, q8c]
                 refine grow_take 6 (some 168) ?_ rfl rfl (by kernel_rfl) (fun _ _ _ h => h) (by kernel_rfl) hCalm ?_ ?_
                 rotate_left
                 · intro wS hS; (try dsimp only at hS); go_simp <;> with_reducible rfl
                 try simp only [Act.put, q8a, q8b, q8c]
                 refine grow_take 7 (some 169) ?_ rfl rfl (by kernel_rfl) (fun _ _ _ h => h) (by kernel_rfl) hCalm ?_ ?_
                 rotate_left
                 · intro wS hS; (try dsimp only at hS); go_simp <;> with_reducible rfl
                 try simp only [Act.put, q8a, q8b, q8c]
                 refine grow_take 8 (some 170) ?_ rfl rfl (by kernel_rfl) (fun _ _ _ h => h) (by kernel_rfl) hCalm ?_ ?_
                 rotate_left
                 · intro wS hS; (try dsimp only at hS); go_simp <;> with_reducible rfl
                 try simp only [Act.put, q8a, q8b, q8c]
                 refine grow_take 9 (some 171) ?_ rfl rfl (by kernel_rfl) (fun _ _ _ h => h) (by kernel_rfl) hCalm ?_ ?_
                 rotate_left
                 · intro wS hS; (try dsimp only at hS); go_simp <;> with_reducible rfl
                 try simp only [Act.put, q8a, q8b, q8c]
                 refine grow_take 10 (some 172) ?_ rfl rfl (by kernel_rfl) (fun _ _ _ h => h) (by kernel_rfl) hCalm ?_ ?_
                 rotate_left
                 · intro wS hS; (try dsimp only at hS); go_simp <;> with_reducible rfl
                 try simp only [Act.put, q8a, q8b, q8c]
                 refine grow_take 11 (some 173) ?_ rfl rfl (by kernel_rfl) (fun _ _ _ h => h) (by kernel_rfl) hCalm ?_ ?_
                 rotate_left
                 · intro wS hS; (try dsimp only at hS); go_simp <;> with_reducible rfl
                 try simp only [Act.put, q8a, q8b, q8c]
                 refine grow_take 12 (some 174) (.bool false) rfl rfl (by kernel_rfl) (fun _ _ _ h => h) (by kernel_rfl) hCalm ?_ ?_
                 · intro wS hS; (try dsimp only at hS); go_simp
                   all_goals (first | omega | (simp; try omega))
                 try simp only [Act.put, q8a, q8b, q8c]
                 refine grow_take 13 (some 175) ?_ rfl rfl (by kernel_rfl) (fun _ _ _ h => h) (by kernel_rfl) hCalm ?_ ?_
                 rotate_left
                 · intro wS hS; (try dsimp only at hS); go_simp <;> with_reducible rfl
                 try simp only [Act.put, q8a, q8b, q8c]
                 refine grow_take 14 (some 176) ?_ rfl rfl (by kernel_rfl) (fun _ _ _ h => h) (by kernel_rfl) hCalm ?_ ?_
                 rotate_left
                 · intro wS hS; (try dsimp only at hS); go_simp <;> with_reducible rfl
                 try simp only [Act.put, q8a, q8b, q8c]
                 refine grow_take 15 (some 177) ?_ rfl rfl (by kernel_rfl) (fun _ _ _ h => h) (by kernel_rfl) hCalm ?_ ?_
                 rotate_left
                 · intro wS hS; (try dsimp only at hS); go_simp <;> with_reducible rfl
                 try simp only [Act.put, q8a, q8b, q8c]
                 refine grow_take 16 (some 178) ?_ rfl rfl (by kernel_rfl) (fun _ _ _ h => h) (by kernel_rfl) hCalm ?_ ?_
                 rotate_left
                 · intro wS hS; (try dsimp only at hS); go_simp <;> with_reducible rfl
                 try simp only [Act.put, q8a, q8b, q8c]
                 refine grow_take 17 (some 179) ?_ rfl rfl (by kernel_rfl) (fun _ _ _ h => h) (by kernel_rfl) hCalm ?_ ?_
                 rotate_left
                 · intro wS hS; (try dsimp only at hS); go_simp <;> with_reducible rfl
                 try simp only [Act.put, q8a, q8b, q8c]
                 refine grow_take 18 (some 180) ?_ rfl rfl (by kernel_rfl) (fun _ _ _ h => h) (by kernel_rfl) hCalm ?_ ?_
                 rotate_left
                 · intro wS hS; (try dsimp only at hS); go_simp <;> with_reducible rfl
                 try simp only [Act.put, q8a, q8b, q8c]
                 refine grow_take 19 (some 181) ?_ rfl rfl (by kernel_rfl) (fun _ _ _ h => h) (by kernel_rfl) hCalm ?_ ?_
                 rotate_left
                 · intro wS hS; (try dsimp only at hS); go_simp <;> with_reducible rfl
                 try simp only [Act.put, q8a, q8b, q8c]
                 refine grow_take 20 (some 182) ?_ rfl rfl (by kernel_rfl) (fun _ _ _ h => h) (by kernel_rfl) hCalm ?_ ?_
                 rotate_left
                 · intro wS hS; (try dsimp only at hS); go_simp <;> with_reducible rfl
                 try simp only [Act.put, q8a, q8b, q8c]
                 refine grow_take 21 (some 183) ?_ rfl rfl (by kernel_rfl) (fun _ _ _ h => h) (by kernel_rfl) hCalm ?_ ?_
                 rotate_left
                 · intro wS hS; (try dsimp only at hS); go_simp <;> with_reducible rfl
                 try simp only [Act.put, q8a, q8b, q8c]
                 refine grow_take 22 (some 184) ?_ rfl rfl (by kernel_rfl) (fun _ _ _ h => h) (by kernel_rfl) hCalm ?_ ?_
                 rotate_left
                 · intro wS hS; (try dsimp only at hS); go_simp <;> with_reducible rfl
                 try simp only [Act.put, q8a, q8b, q8c]
                 refine grow_take 23 (some 185) (.bool false) rfl rfl (by kernel_rfl) (fun _ _ _ h => h) (by kernel_rfl) hCalm ?_ ?_
                 · intro wS hS; (try dsimp only at hS); go_simp
                   all_goals (first | omega | (simp; try omega))
                 try simp only [Act.put, q8a, q8b, q8c]
                 refine grow_take 24 (some 186) ?_ rfl rfl (by kernel_rfl) (fun _ _ _ h => h) (by kernel_rfl) hCalm ?_ ?_
                 rotate_left
                 · intro wS hS; (try dsimp only at hS); go_simp <;> with_reducible rfl
                 try simp only [Act.put, q8a, q8b, q8c]
                 refine grow_skip 25 (some 187) rfl rfl (by kernel_rfl) (fun _ _ _ h => h) (by kernel_rfl) hCalm ?_
                 try simp only [Act.put, q8a, q8b, q8c]
                 refine grow_skip 26 (some 188) rfl rfl (by kernel_rfl) (fun _ _ _ h => h) (by kernel_rfl) hCalm ?_
                 try simp only [Act.put, q8a, q8b, q8c]
                 refine grow_skip 27 (some 189) rfl rfl (by kernel_rfl) (fun _ _ _ h => h) (by kernel_rfl) hCalm ?_
                 try simp only [Act.put, q8a, q8b, q8c]
                 refine grow_skip 28 (some 190) rfl rfl (by kernel_rfl) (fun _ _ _ h => h) (by kernel_rfl) hCalm ?_
                 try simp only [Act.put, q8a, q8b, q8c]
                 refine grow_skip 29 (some 191) rfl rfl (by kernel_rfl) (fun _ _ _ h => h) (by kernel_rfl) hCalm ?_
                 try simp only [Act.put, q8a, q8b, q8c]
                 refine grow_skip 30 (some 192) rfl rfl (by kernel_rfl) (fun _ _ _ h => h) (by kernel_rfl) hCalm ?_
                 try simp only [Act.put, q8a, q8b, q8c]
                 refine grow_skip 31 (some 193) rfl rfl (by kernel_rfl) (fun _ _ _ h => h) (by kernel_rfl) hCalm ?_
                 try simp only [Act.put, q8a, q8b, q8c]
                 refine grow_skip 32 (some 194) rfl rfl (by kernel_rfl) (fun _ _ _ h => h) (by kernel_rfl) hCalm ?_
                 try simp only [Act.put, q8a, q8b, q8c]
                 refine grow_skip 33 (some 195) rfl rfl (by kernel_rfl) (fun _ _ _ h => h) (by kernel_rfl) hCalm ?_
                 try simp only [Act.put, q8a, q8b, q8c]
                 refine grow_skip 34 (some 196) rfl rfl (by kernel_rfl) (fun _ _ _ h => h) (by kernel_rfl) hCalm ?_
                 try simp only [Act.put, q8a, q8b, q8c]
                 refine grow_take 35 (some 197) ?_ rfl rfl (by kernel_rfl) (fun _ _ _ h => h) (by kernel_rfl) hCalm ?_ ?_
                 rotate_left
                 · intro wS hS; (try dsimp only at hS); go_simp <;> with_reducible rfl
                 try simp only [Act.put, q8a, q8b, q8c]
                 refine grow_take 36 (some 198) ?_ rfl rfl (by kernel_rfl) (fun _ _ _ h => h) (by kernel_rfl) hCalm ?_ ?_
                 rotate_left
                 · intro wS hS; (try dsimp only at hS); go_simp <;> with_reducible rfl
                 try simp only [Act.put, q8a, q8b, q8c]
                 refine grow_take 37 (some 199) ?_ rfl rfl (by kernel_rfl) (fun _ _ _ h => h) (by kernel_rfl) hCalm ?_ ?_
                 rotate_left
                 · intro wS hS; (try dsimp only at hS); go_simp <;> with_reducible rfl
                 try simp only [Act.put, q8a, q8b, q8c]
                 refine grow_done (by kernel_rfl) (fun wA hA => ?_) _
                 have HBJ := Lib.hid hA
                 obtain ⟨wj, hwj⟩ : ∃ y, y = wA := ⟨_, rfl⟩
                 rw [<- hwj] at HBJ ⊢
                 clear hwj hA hCalm
                 go_wp2_with fail
                 go_roundw
                 case rel => exact ⟨i1, by go_num, HII.out.2, HBJ.out⟩
                 case measure => have := HII.out; simp [intOf]; omega
             case neg =>
               have hi0b : ¬ (0 : Int) < (i : Int) := by omega
               refine wp_region_grow (S := (fun w' => w'.cell? ⟨b2, o2 + i * 2, none⟩ = some (.int .i64 p0.x) /\ w'.cell? ⟨b2, o2 + i * 2 + 1, none⟩ = some (.int .i64 p0.y) /\ w'.cell? ⟨b2, o2, none⟩ = some (.int .i64 pz.x) /\ w'.cell? ⟨b2, o2 + 1, none⟩ = some (.int .i64 pz.y))) ((fun w' => Below w9.heap.size w9 w')) (by kernel_rfl) (⟨fun w2 h2 => ⟨(HCE.out _ h2).1.1, (HCE.out _ h2).1.2, (HCE.out _ h2).2.2.2.1, (HCE.out _ h2).2.2.2.2⟩, fun w2 w3 h2 hb2 => h2.trans (hb2.mono h2.size)⟩) (HBJ.out.drew) (fun hCalm => ?_)
               refine grow_take 0 (some 162) ?_ rfl rfl (by kernel_rfl) (fun _ _ _ h => h) (by kernel_rfl) hCalm ?_ ?_
               rotate_left
               · intro wS hS; (try dsimp only at hS); go_simp <;> with_reducible rfl
               try simp only [Act.put, q8a, q8b, q8c]
               refine grow_take 1 (some 163) (.bool false) rfl rfl (by kernel_rfl) (fun _ _ _ h => h) (by kernel_rfl) hCalm ?_ ?_
               · intro wS hS; (try dsimp only at hS); go_simp
                 all_goals (first | omega | (simp; try omega))
               try simp only [Act.put, q8a, q8b, q8c]
               refine grow_take 2 (some 164) ?_ rfl rfl (by kernel_rfl) (fun _ _ _ h => h) (by kernel_rfl) hCalm ?_ ?_
               rotate_left
               · intro wS hS; (try dsimp only at hS); go_simp <;> with_reducible rfl
               try simp only [Act.put, q8a, q8b, q8c]
               refine grow_skip 3 (some 165) rfl rfl (by kernel_rfl) (fun _ _ _ h => h) (by kernel_rfl) hCalm ?_
               try simp only [Act.put, q8a, q8b, q8c]
               refine grow_skip 4 (some 166) rfl rfl (by kernel_rfl) (fun _ _ _ h => h) (by kernel_rfl) hCalm ?_
               try simp only [Act.put, q8a, q8b, q8c]
               refine grow_skip 5 (some 167) rfl rfl (by kernel_rfl) (fun _ _ _ h => h) (by kernel_rfl) hCalm ?_
               try simp only [Act.put, q8a, q8b, q8c]
               refine grow_skip 6 (some 168) rfl rfl (by kernel_rfl) (fun _ _ _ h => h) (by kernel_rfl) hCalm ?_
               try simp only [Act.put, q8a, q8b, q8c]
               refine grow_skip 7 (some 169) rfl rfl (by kernel_rfl) (fun _ _ _ h => h) (by kernel_rfl) hCalm ?_
               try simp only [Act.put, q8a, q8b, q8c]
               refine grow_skip 8 (some 170) rfl rfl (by kernel_rfl) (fun _ _ _ h => h) (by kernel_rfl) hCalm ?_
               try simp only [Act.put, q8a, q8b, q8c]
               refine grow_skip 9 (some 171) rfl rfl (by kernel_rfl) (fun _ _ _ h => h) (by kernel_rfl) hCalm ?_
               try simp only [Act.put, q8a, q8b, q8c]
               refine grow_skip 10 (some 172) rfl rfl (by kernel_rfl) (fun _ _ _ h => h) (by kernel_rfl) hCalm ?_
               try simp only [Act.put, q8a, q8b, q8c]
               refine grow_skip 11 (some 173) rfl rfl (by kernel_rfl) (fun _ _ _ h => h) (by kernel_rfl) hCalm ?_
               try simp only [Act.put, q8a, q8b, q8c]
               refine grow_skip 12 (some 174) rfl rfl (by kernel_rfl) (fun _ _ _ h => h) (by kernel_rfl) hCalm ?_
               try simp only [Act.put, q8a, q8b, q8c]
               refine grow_skip 13 (some 175) rfl rfl (by kernel_rfl) (fun _ _ _ h => h) (by kernel_rfl) hCalm ?_
               try simp only [Act.put, q8a, q8b, q8c]
               refine grow_skip 14 (some 176) rfl rfl (by kernel_rfl) (fun _ _ _ h => h) (by kernel_rfl) hCalm ?_
               try simp only [Act.put, q8a, q8b, q8c]
               refine grow_skip 15 (some 177) rfl rfl (by kernel_rfl) (fun _ _ _ h => h) (by kernel_rfl) hCalm ?_
               try simp only [Act.put, q8a, q8b, q8c]
               refine grow_skip 16 (some 178) rfl rfl (by kernel_rfl) (fun _ _ _ h => h) (by kernel_rfl) hCalm ?_
               try simp only [Act.put, q8a, q8b, q8c]
               refine grow_skip 17 (some 179) rfl rfl (by kernel_rfl) (fun _ _ _ h => h) (by kernel_rfl) hCalm ?_
               try simp only [Act.put, q8a, q8b, q8c]
               refine grow_skip 18 (some 180) rfl rfl (by kernel_rfl) (fun _ _ _ h => h) (by kernel_rfl) hCalm ?_
               try simp only [Act.put, q8a, q8b, q8c]
               refine grow_skip 19 (some 181) rfl rfl (by kernel_rfl) (fun _ _ _ h => h) (by kernel_rfl) hCalm ?_
               try simp only [Act.put, q8a, q8b, q8c]
               refine grow_skip 20 (some 182) rfl rfl (by kernel_rfl) (fun _ _ _ h => h) (by kernel_rfl) hCalm ?_
               try simp only [Act.put, q8a, q8b, q8c]
               refine grow_skip 21 (some 183) rfl rfl (by kernel_rfl) (fun _ _ _ h => h) (by kernel_rfl) hCalm ?_
               try simp only [Act.put, q8a, q8b, q8c]
               refine grow_skip 22 (some 184) rfl rfl (by kernel_rfl) (fun _ _ _ h => h) (by kernel_rfl) hCalm ?_
               try simp only [Act.put, q8a, q8b, q8c]
               refine grow_skip 23 (some 185) rfl rfl (by kernel_rfl) (fun _ _ _ h => h) (by kernel_rfl) hCalm ?_
               try simp only [Act.put, q8a, q8b, q8c]
               refine grow_skip 24 (some 186) rfl rfl (by kernel_rfl) (fun _ _ _ h => h) (by kernel_rfl) hCalm ?_
               try simp only [Act.put, q8a, q8b, q8c]
               refine grow_skip 25 (some 187) rfl rfl (by kernel_rfl) (fun _ _ _ h => h) (by kernel_rfl) hCalm ?_
               try simp only [Act.put, q8a, q8b, q8c]
               refine grow_skip 26 (some 188) rfl rfl (by kernel_rfl) (fun _ _ _ h => h) (by kernel_rfl) hCalm ?_
               try simp only [Act.put, q8a, q8b, q8c]
               refine grow_skip 27 (some 189) rfl rfl (by kernel_rfl) (fun _ _ _ h => h) (by kernel_rfl) hCalm ?_
               try simp only [Act.put, q8a, q8b, q8c]
               refine grow_skip 28 (some 190) rfl rfl (by kernel_rfl) (fun _ _ _ h => h) (by kernel_rfl) hCalm ?_
               try simp only [Act.put, q8a, q8b, q8c]
               refine grow_skip 29 (some 191) rfl rfl (by kernel_rfl) (fun _ _ _ h => h) (by kernel_rfl) hCalm ?_
               try simp only [Act.put, q8a, q8b, q8c]
               refine grow_skip 30 (some 192) rfl rfl (by kernel_rfl) (fun _ _ _ h => h) (by kernel_rfl) hCalm ?_
               try simp only [Act.put, q8a, q8b, q8c]
               refine grow_skip 31 (some 193) rfl rfl (by kernel_rfl) (fun _ _ _ h => h) (by kernel_rfl) hCalm ?_
               try simp only [Act.put, q8a, q8b, q8c]
               refine grow_skip 32 (some 194) rfl rfl (by kernel_rfl) (fun _ _ _ h => h) (by kernel_rfl) hCalm ?_
               try simp only [Act.put, q8a, q8b, q8c]
               refine grow_skip 33 (some 195) rfl rfl (by kernel_rfl) (fun _ _ _ h => h) (by kernel_rfl) hCalm ?_
               try simp only [Act.put, q8a, q8b, q8c]
               refine grow_skip 34 (some 196) rfl rfl (by kernel_rfl) (fun _ _ _ h => h) (by kernel_rfl) hCalm ?_
               try simp only [Act.put, q8a, q8b, q8c]
               refine grow_skip 35 (some 197) rfl rfl (by kernel_rfl) (fun _ _ _ h => h) (by kernel_rfl) hCalm ?_
               try simp only [Act.put, q8a, q8b, q8c]
               refine grow_skip 36 (some 198) rfl rfl (by kernel_rfl) (fun _ _ _ h => h) (by kernel_rfl) hCalm ?_
               try simp only [Act.put, q8a, q8b, q8c]
               refine grow_take 37 (some 199) ?_ rfl rfl (by kernel_rfl) (fun _ _ _ h => h) (by kernel_rfl) hCalm ?_ ?_
               rotate_left
               · intro wS hS; (try dsimp only at hS); go_simp <;> with_reducible rfl
               try simp only [Act.put, q8a, q8b, q8c]
               refine grow_done (by kernel_rfl) (fun wA hA => ?_) _
               have HBJ := Lib.hid hA
               obtain ⟨wj, hwj⟩ : ∃ y, y = wA := ⟨_, rfl⟩
               rw [<- hwj] at HBJ ⊢
               clear hwj hA hCalm
               go_wp2_with fail
               go_roundw
               case rel => exact ⟨i1, by go_num, HII.out.2, HBJ.out⟩
               case measure => have := HII.out; simp [intOf]; omega
           case neg =>
             have h2b : ¬ (2 : Int) < (h.length : Int) := by omega
             go_wp2_with fail
             refine wp_region_grow (S := (fun w' => w'.cell? ⟨b2, o2 + i * 2, none⟩ = some (.int .i64 p0.x) /\ w'.cell? ⟨b2, o2 + i * 2 + 1, none⟩ = some (.int .i64 p0.y))) ((fun w' => Below w9.heap.size w9 w')) (by kernel_rfl) (⟨fun w2 h2 => ⟨(HCE.out _ h2).1.1, (HCE.out _ h2).1.2⟩, fun w2 w3 h2 hb2 => h2.trans (hb2.mono h2.size)⟩) (HB.out.drew) (fun hCalm => ?_)
             refine grow_take 0 (some 131) ?_ rfl rfl (by kernel_rfl) (fun _ _ _ h => h) (by kernel_rfl) hCalm ?_ ?_
             rotate_left
             · intro wS hS; (try dsimp only at hS); go_simp <;> with_reducible rfl
             try simp only [Act.put, q8a, q8b, q8c]
             refine grow_take 1 (some 132) ?_ rfl rfl (by kernel_rfl) (fun _ _ _ h => h) (by kernel_rfl) hCalm ?_ ?_
             rotate_left
             · intro wS hS; (try dsimp only at hS); go_simp <;> with_reducible rfl
             try simp only [Act.put, q8a, q8b, q8c]
             refine grow_take 2 (some 133) ?_ rfl rfl (by kernel_rfl) (fun _ _ _ h => h) (by kernel_rfl) hCalm ?_ ?_
             rotate_left
             · intro wS hS; (try dsimp only at hS); go_simp <;> with_reducible rfl
             try simp only [Act.put, q8a, q8b, q8c]
             refine grow_take 3 (some 134) ?_ rfl rfl (by kernel_rfl) (fun _ _ _ h => h) (by kernel_rfl) hCalm ?_ ?_
             rotate_left
             · intro wS hS; (try dsimp only at hS); go_simp <;> with_reducible rfl
             try simp only [Act.put, q8a, q8b, q8c]
             refine grow_take 4 (some 135) ?_ rfl rfl (by kernel_rfl) (fun _ _ _ h => h) (by kernel_rfl) hCalm ?_ ?_
             rotate_left
             · intro wS hS; (try dsimp only at hS); go_simp <;> with_reducible rfl
             try simp only [Act.put, q8a, q8b, q8c]
             refine grow_take 5 (some 136) (.bool false) rfl rfl (by kernel_rfl) (fun _ _ _ h => h) (by kernel_rfl) hCalm ?_ ?_
             · intro wS hS; (try dsimp only at hS); go_simp
               all_goals (first | omega | (simp; try omega))
             try simp only [Act.put, q8a, q8b, q8c]
             refine grow_take 6 (some 137) ?_ rfl rfl (by kernel_rfl) (fun _ _ _ h => h) (by kernel_rfl) hCalm ?_ ?_
             rotate_left
             · intro wS hS; (try dsimp only at hS); go_simp <;> with_reducible rfl
             try simp only [Act.put, q8a, q8b, q8c]
             refine grow_skip 7 (some 138) rfl rfl (by kernel_rfl) (fun _ _ _ h => h) (by kernel_rfl) hCalm ?_
             try simp only [Act.put, q8a, q8b, q8c]
             refine grow_skip 8 (some 139) rfl rfl (by kernel_rfl) (fun _ _ _ h => h) (by kernel_rfl) hCalm ?_
             try simp only [Act.put, q8a, q8b, q8c]
             refine grow_skip 9 (some 140) rfl rfl (by kernel_rfl) (fun _ _ _ h => h) (by kernel_rfl) hCalm ?_
             try simp only [Act.put, q8a, q8b, q8c]
             refine grow_skip 10 (some 141) rfl rfl (by kernel_rfl) (fun _ _ _ h => h) (by kernel_rfl) hCalm ?_
             try simp only [Act.put, q8a, q8b, q8c]
             refine grow_skip 11 (some 142) rfl rfl (by kernel_rfl) (fun _ _ _ h => h) (by kernel_rfl) hCalm ?_
             try simp only [Act.put, q8a, q8b, q8c]
             refine grow_skip 12 (some 143) rfl rfl (by kernel_rfl) (fun _ _ _ h => h) (by kernel_rfl) hCalm ?_
             try simp only [Act.put, q8a, q8b, q8c]
             refine grow_skip 13 (some 144) rfl rfl (by kernel_rfl) (fun _ _ _ h => h) (by kernel_rfl) hCalm ?_
             try simp only [Act.put, q8a, q8b, q8c]
             refine grow_skip 14 (some 145) rfl rfl (by kernel_rfl) (fun _ _ _ h => h) (by kernel_rfl) hCalm ?_
             try simp only [Act.put, q8a, q8b, q8c]
             refine grow_skip 15 (some 146) rfl rfl (by kernel_rfl) (fun _ _ _ h => h) (by kernel_rfl) hCalm ?_
             try simp only [Act.put, q8a, q8b, q8c]
             refine grow_skip 16 (some 147) rfl rfl (by kernel_rfl) (fun _ _ _ h => h) (by kernel_rfl) hCalm ?_
             try simp only [Act.put, q8a, q8b, q8c]
             refine grow_skip 17 (some 148) rfl rfl (by kernel_rfl) (fun _ _ _ h => h) (by kernel_rfl) hCalm ?_
             try simp only [Act.put, q8a, q8b, q8c]
             refine grow_skip 18 (some 149) rfl rfl (by kernel_rfl) (fun _ _ _ h => h) (by kernel_rfl) hCalm ?_
             try simp only [Act.put, q8a, q8b, q8c]
             refine grow_skip 19 (some 150) rfl rfl (by kernel_rfl) (fun _ _ _ h => h) (by kernel_rfl) hCalm ?_
             try simp only [Act.put, q8a, q8b, q8c]
             refine grow_skip 20 (some 151) rfl rfl (by kernel_rfl) (fun _ _ _ h => h) (by kernel_rfl) hCalm ?_
             try simp only [Act.put, q8a, q8b, q8c]
             refine grow_skip 21 (some 152) rfl rfl (by kernel_rfl) (fun _ _ _ h => h) (by kernel_rfl) hCalm ?_
             try simp only [Act.put, q8a, q8b, q8c]
             refine grow_skip 22 (some 153) rfl rfl (by kernel_rfl) (fun _ _ _ h => h) (by kernel_rfl) hCalm ?_
             try simp only [Act.put, q8a, q8b, q8c]
             refine grow_skip 23 (some 154) rfl rfl (by kernel_rfl) (fun _ _ _ h => h) (by kernel_rfl) hCalm ?_
             try simp only [Act.put, q8a, q8b, q8c]
             refine grow_skip 24 (some 155) rfl rfl (by kernel_rfl) (fun _ _ _ h => h) (by kernel_rfl) hCalm ?_
             try simp only [Act.put, q8a, q8b, q8c]
             refine grow_skip 25 (some 156) rfl rfl (by kernel_rfl) (fun _ _ _ h => h) (by kernel_rfl) hCalm ?_
             try simp only [Act.put, q8a, q8b, q8c]
             refine grow_skip 26 (some 157) rfl rfl (by kernel_rfl) (fun _ _ _ h => h) (by kernel_rfl) hCalm ?_
             try simp only [Act.put, q8a, q8b, q8c]
             refine grow_skip 27 (some 158) rfl rfl (by kernel_rfl) (fun _ _ _ h => h) (by kernel_rfl) hCalm ?_
             try simp only [Act.put, q8a, q8b, q8c]
             refine grow_skip 28 (some 159) rfl rfl (by kernel_rfl) (fun _ _ _ h => h) (by kernel_rfl) hCalm ?_
             try simp only [Act.put, q8a, q8b, q8c]
             refine grow_take 29 (some 160) ?_ rfl rfl (by kernel_rfl) (fun _ _ _ h => h) (by kernel_rfl) hCalm ?_ ?_
             rotate_left
             · intro wS hS; (try dsimp only at hS); go_simp <;> with_reducible rfl
             try simp only [Act.put, q8a, q8b, q8c]
             refine grow_take 30 (some 161) ?_ rfl rfl (by kernel_rfl) (fun _ _ _ h => h) (by kernel_rfl) hCalm ?_ ?_
             rotate_left
             · intro wS hS; (try dsimp only at hS); go_simp <;> with_reducible rfl
             try simp only [Act.put, q8a, q8b, q8c]
             refine grow_done (by kernel_rfl) (fun wA hA => ?_) _
             have HBJ := Lib.hid hA
             obtain ⟨wj, hwj⟩ : ∃ y, y = wA := ⟨_, rfl⟩
             rw [<- hwj] at HBJ ⊢
             clear hwj hA hCalm
             go_wp2_with fail
             by_cases hi0 : 0 < i
             case pos =>
               have hi0b : (0 : Int) < (i : Int) := by omega
               have hlt := HFI.out hi0
               have y1 : ¬ p0.y < pz.y := by unfold lt7 at hlt; omega
               by_cases hyy : p0.y = pz.y
               case pos =>
                 have x1 : ¬ p0.x <= pz.x := by unfold lt7 at hlt; omega
                 refine wp_region_grow (S := (fun w' => w'.cell? ⟨b2, o2 + i * 2, none⟩ = some (.int .i64 p0.x) /\ w'.cell? ⟨b2, o2 + i * 2 + 1, none⟩ = some (.int .i64 p0.y) /\ w'.cell? ⟨b2, o2, none⟩ = some (.int .i64 pz.x) /\ w'.cell? ⟨b2, o2 + 1, none⟩ = some (.int .i64 pz.y))) ((fun w' => Below w9.heap.size w9 w')) (by kernel_rfl) (⟨fun w2 h2 => ⟨(HCE.out _ h2).1.1, (HCE.out _ h2).1.2, (HCE.out _ h2).2.2.2.1, (HCE.out _ h2).2.2.2.2⟩, fun w2 w3 h2 hb2 => h2.trans (hb2.mono h2.size)⟩) (HBJ.out.drew) (fun hCalm => ?_)
                 refine grow_take 0 (some 162) ?_ rfl rfl (by kernel_rfl) (fun _ _ _ h => h) (by kernel_rfl) hCalm ?_ ?_
                 rotate_left
                 · intro wS hS; (try dsimp only at hS); go_simp <;> with_reducible rfl
                 try simp only [Act.put, q8a, q8b, q8c]
                 refine grow_take 1 (some 163) (.bool true) rfl rfl (by kernel_rfl) (fun _ _ _ h => h) (by kernel_rfl) hCalm ?_ ?_
                 · intro wS hS; (try dsimp only at hS); go_simp
                   all_goals (first | omega | (simp; try omega))
                 try simp only [Act.put, q8a, q8b, q8c]
                 refine grow_take 2 (some 164) ?_ rfl rfl (by kernel_rfl) (fun _ _ _ h => h) (by kernel_rfl) hCalm ?_ ?_
                 rotate_left
                 · intro wS hS; (try dsimp only at hS); go_simp <;> with_reducible rfl
                 try simp only [Act.put, q8a, q8b, q8c]
                 refine grow_take 3 (some 165) ?_ rfl rfl (by kernel_rfl) (fun _ _ _ h => h) (by kernel_rfl) hCalm ?_ ?_
                 rotate_left
                 · intro wS hS; (try dsimp only at hS); go_simp <;> with_reducible rfl
                 try simp only [Act.put, q8a, q8b, q8c]
                 refine grow_take 4 (some 166) ?_ rfl rfl (by kernel_rfl) (fun _ _ _ h => h) (by kernel_rfl) hCalm ?_ ?_
                 rotate_left
                 · intro wS hS; (try dsimp only at hS); go_simp <;> with_reducible rfl
                 try simp only [Act.put, q8a, q8b, q8c]
                 refine grow_take 5 (some 167) ?_ rfl rfl (by kernel_rfl) (fun _ _ _ h => h) (by kernel_rfl) hCalm ?_ ?_
                 rotate_left
                 · intro wS hS; (try dsimp only at hS); go_simp <;> with_reducible rfl
                 try simp only [Act.put, q8a, q8b, q8c]
                 refine grow_take 6 (some 168) ?_ rfl rfl (by kernel_rfl) (fun _ _ _ h => h) (by kernel_rfl) hCalm ?_ ?_
                 rotate_left
                 · intro wS hS; (try dsimp only at hS); go_simp <;> with_reducible rfl
                 try simp only [Act.put, q8a, q8b, q8c]
                 refine grow_take 7 (some 169) ?_ rfl rfl (by kernel_rfl) (fun _ _ _ h => h) (by kernel_rfl) hCalm ?_ ?_
                 rotate_left
                 · intro wS hS; (try dsimp only at hS); go_simp <;> with_reducible rfl
                 try simp only [Act.put, q8a, q8b, q8c]
                 refine grow_take 8 (some 170) ?_ rfl rfl (by kernel_rfl) (fun _ _ _ h => h) (by kernel_rfl) hCalm ?_ ?_
                 rotate_left
                 · intro wS hS; (try dsimp only at hS); go_simp <;> with_reducible rfl
                 try simp only [Act.put, q8a, q8b, q8c]
                 refine grow_take 9 (some 171) ?_ rfl rfl (by kernel_rfl) (fun _ _ _ h => h) (by kernel_rfl) hCalm ?_ ?_
                 rotate_left
                 · intro wS hS; (try dsimp only at hS); go_simp <;> with_reducible rfl
                 try simp only [Act.put, q8a, q8b, q8c]
                 refine grow_take 10 (some 172) ?_ rfl rfl (by kernel_rfl) (fun _ _ _ h => h) (by kernel_rfl) hCalm ?_ ?_
                 rotate_left
                 · intro wS hS; (try dsimp only at hS); go_simp <;> with_reducible rfl
                 try simp only [Act.put, q8a, q8b, q8c]
                 refine grow_take 11 (some 173) ?_ rfl rfl (by kernel_rfl) (fun _ _ _ h => h) (by kernel_rfl) hCalm ?_ ?_
                 rotate_left
                 · intro wS hS; (try dsimp only at hS); go_simp <;> with_reducible rfl
                 try simp only [Act.put, q8a, q8b, q8c]
                 refine grow_take 12 (some 174) (.bool false) rfl rfl (by kernel_rfl) (fun _ _ _ h => h) (by kernel_rfl) hCalm ?_ ?_
                 · intro wS hS; (try dsimp only at hS); go_simp
                   all_goals (first | omega | (simp; try omega))
                 try simp only [Act.put, q8a, q8b, q8c]
                 refine grow_take 13 (some 175) ?_ rfl rfl (by kernel_rfl) (fun _ _ _ h => h) (by kernel_rfl) hCalm ?_ ?_
                 rotate_left
                 · intro wS hS; (try dsimp only at hS); go_simp <;> with_reducible rfl
                 try simp only [Act.put, q8a, q8b, q8c]
                 refine grow_take 14 (some 176) ?_ rfl rfl (by kernel_rfl) (fun _ _ _ h => h) (by kernel_rfl) hCalm ?_ ?_
                 rotate_left
                 · intro wS hS; (try dsimp only at hS); go_simp <;> with_reducible rfl
                 try simp only [Act.put, q8a, q8b, q8c]
                 refine grow_take 15 (some 177) ?_ rfl rfl (by kernel_rfl) (fun _ _ _ h => h) (by kernel_rfl) hCalm ?_ ?_
                 rotate_left
                 · intro wS hS; (try dsimp only at hS); go_simp <;> with_reducible rfl
                 try simp only [Act.put, q8a, q8b, q8c]
                 refine grow_take 16 (some 178) ?_ rfl rfl (by kernel_rfl) (fun _ _ _ h => h) (by kernel_rfl) hCalm ?_ ?_
                 rotate_left
                 · intro wS hS; (try dsimp only at hS); go_simp <;> with_reducible rfl
                 try simp only [Act.put, q8a, q8b, q8c]
                 refine grow_take 17 (some 179) ?_ rfl rfl (by kernel_rfl) (fun _ _ _ h => h) (by kernel_rfl) hCalm ?_ ?_
                 rotate_left
                 · intro wS hS; (try dsimp only at hS); go_simp <;> with_reducible rfl
                 try simp only [Act.put, q8a, q8b, q8c]
                 refine grow_take 18 (some 180) ?_ rfl rfl (by kernel_rfl) (fun _ _ _ h => h) (by kernel_rfl) hCalm ?_ ?_
                 rotate_left
                 · intro wS hS; (try dsimp only at hS); go_simp <;> with_reducible rfl
                 try simp only [Act.put, q8a, q8b, q8c]
                 refine grow_take 19 (some 181) ?_ rfl rfl (by kernel_rfl) (fun _ _ _ h => h) (by kernel_rfl) hCalm ?_ ?_
                 rotate_left
                 · intro wS hS; (try dsimp only at hS); go_simp <;> with_reducible rfl
                 try simp only [Act.put, q8a, q8b, q8c]
                 refine grow_take 20 (some 182) ?_ rfl rfl (by kernel_rfl) (fun _ _ _ h => h) (by kernel_rfl) hCalm ?_ ?_
                 rotate_left
                 · intro wS hS; (try dsimp only at hS); go_simp <;> with_reducible rfl
                 try simp only [Act.put, q8a, q8b, q8c]
                 refine grow_take 21 (some 183) ?_ rfl rfl (by kernel_rfl) (fun _ _ _ h => h) (by kernel_rfl) hCalm ?_ ?_
                 rotate_left
                 · intro wS hS; (try dsimp only at hS); go_simp <;> with_reducible rfl
                 try simp only [Act.put, q8a, q8b, q8c]
                 refine grow_take 22 (some 184) ?_ rfl rfl (by kernel_rfl) (fun _ _ _ h => h) (by kernel_rfl) hCalm ?_ ?_
                 rotate_left
                 · intro wS hS; (try dsimp only at hS); go_simp <;> with_reducible rfl
                 try simp only [Act.put, q8a, q8b, q8c]
                 refine grow_take 23 (some 185) (.bool true) rfl rfl (by kernel_rfl) (fun _ _ _ h => h) (by kernel_rfl) hCalm ?_ ?_
                 · intro wS hS; (try dsimp only at hS); go_simp
                   all_goals (first | omega | (simp; try omega))
                 try simp only [Act.put, q8a, q8b, q8c]
                 refine grow_take 24 (some 186) ?_ rfl rfl (by kernel_rfl) (fun _ _ _ h => h) (by kernel_rfl) hCalm ?_ ?_
                 rotate_left
                 · intro wS hS; (try dsimp only at hS); go_simp <;> with_reducible rfl
                 try simp only [Act.put, q8a, q8b, q8c]
                 refine grow_take 25 (some 187) ?_ rfl rfl (by kernel_rfl) (fun _ _ _ h => h) (by kernel_rfl) hCalm ?_ ?_
                 rotate_left
                 · intro wS hS; (try dsimp only at hS); go_simp <;> with_reducible rfl
                 try simp only [Act.put, q8a, q8b, q8c]
                 refine grow_take 26 (some 188) ?_ rfl rfl (by kernel_rfl) (fun _ _ _ h => h) (by kernel_rfl) hCalm ?_ ?_
                 rotate_left
                 · intro wS hS; (try dsimp only at hS); go_simp <;> with_reducible rfl
                 try simp only [Act.put, q8a, q8b, q8c]
                 refine grow_take 27 (some 189) ?_ rfl rfl (by kernel_rfl) (fun _ _ _ h => h) (by kernel_rfl) hCalm ?_ ?_
                 rotate_left
                 · intro wS hS; (try dsimp only at hS); go_simp <;> with_reducible rfl
                 try simp only [Act.put, q8a, q8b, q8c]
                 refine grow_take 28 (some 190) ?_ rfl rfl (by kernel_rfl) (fun _ _ _ h => h) (by kernel_rfl) hCalm ?_ ?_
                 rotate_left
                 · intro wS hS; (try dsimp only at hS); go_simp <;> with_reducible rfl
                 try simp only [Act.put, q8a, q8b, q8c]
                 refine grow_take 29 (some 191) ?_ rfl rfl (by kernel_rfl) (fun _ _ _ h => h) (by kernel_rfl) hCalm ?_ ?_
                 rotate_left
                 · intro wS hS; (try dsimp only at hS); go_simp <;> with_reducible rfl
                 try simp only [Act.put, q8a, q8b, q8c]
                 refine grow_take 30 (some 192) ?_ rfl rfl (by kernel_rfl) (fun _ _ _ h => h) (by kernel_rfl) hCalm ?_ ?_
                 rotate_left
                 · intro wS hS; (try dsimp only at hS); go_simp <;> with_reducible rfl
                 try simp only [Act.put, q8a, q8b, q8c]
                 refine grow_take 31 (some 193) ?_ rfl rfl (by kernel_rfl) (fun _ _ _ h => h) (by kernel_rfl) hCalm ?_ ?_
                 rotate_left
                 · intro wS hS; (try dsimp only at hS); go_simp <;> with_reducible rfl
                 try simp only [Act.put, q8a, q8b, q8c]
                 refine grow_take 32 (some 194) ?_ rfl rfl (by kernel_rfl) (fun _ _ _ h => h) (by kernel_rfl) hCalm ?_ ?_
                 rotate_left
                 · intro wS hS; (try dsimp only at hS); go_simp <;> with_reducible rfl
                 try simp only [Act.put, q8a, q8b, q8c]
                 refine grow_take 33 (some 195) ?_ rfl rfl (by kernel_rfl) (fun _ _ _ h => h) (by kernel_rfl) hCalm ?_ ?_
                 rotate_left
                 · intro wS hS; (try dsimp only at hS); go_simp <;> with_reducible rfl
                 try simp only [Act.put, q8a, q8b, q8c]
                 refine grow_take 34 (some 196) (.bool false) rfl rfl (by kernel_rfl) (fun _ _ _ h => h) (by kernel_rfl) hCalm ?_ ?_
                 · intro wS hS; (try dsimp only at hS); go_simp
                   all_goals (first | omega | (simp; try omega))
                 try simp only [Act.put, q8a, q8b, q8c]
                 refine grow_take 35 (some 197) ?_ rfl rfl (by kernel_rfl) (fun _ _ _ h => h) (by kernel_rfl) hCalm ?_ ?_
                 rotate_left
                 · intro wS hS; (try dsimp only at hS); go_simp <;> with_reducible rfl
                 try simp only [Act.put, q8a, q8b, q8c]
                 refine grow_take 36 (some 198) ?_ rfl rfl (by kernel_rfl) (fun _ _ _ h => h) (by kernel_rfl) hCalm ?_ ?_
                 rotate_left
                 · intro wS hS; (try dsimp only at hS); go_simp <;> with_reducible rfl
                 try simp only [Act.put, q8a, q8b, q8c]
                 refine grow_take 37 (some 199) ?_ rfl rfl (by kernel_rfl) (fun _ _ _ h => h) (by kernel_rfl) hCalm ?_ ?_
                 rotate_left
                 · intro wS hS; (try dsimp only at hS); go_simp <;> with_reducible rfl
                 try simp only [Act.put, q8a, q8b, q8c]
                 refine grow_done (by kernel_rfl) (fun wA hA => ?_) _
                 have HBJ := Lib.hid hA
                 obtain ⟨wj, hwj⟩ : ∃ y, y = wA := ⟨_, rfl⟩
                 rw [<- hwj] at HBJ ⊢
                 clear hwj hA hCalm
                 go_wp2_with fail
                 go_roundw
                 case rel => exact ⟨i1, by go_num, HII.out.2, HBJ.out⟩
                 case measure => have := HII.out; simp [intOf]; omega
               case neg =>
                 refine wp_region_grow (S := (fun w' => w'.cell? ⟨b2, o2 + i * 2, none⟩ = some (.int .i64 p0.x) /\ w'.cell? ⟨b2, o2 + i * 2 + 1, none⟩ = some (.int .i64 p0.y) /\ w'.cell? ⟨b2, o2, none⟩ = some (.int .i64 pz.x) /\ w'.cell? ⟨b2, o2 + 1, none⟩ = some (.int .i64 pz.y))) ((fun w' => Below w9.heap.size w9 w')) (by kernel_rfl) (⟨fun w2 h2 => ⟨(HCE.out _ h2).1.1, (HCE.out _ h2).1.2, (HCE.out _ h2).2.2.2.1, (HCE.out _ h2).2.2.2.2⟩, fun w2 w3 h2 hb2 => h2.trans (hb2.mono h2.size)⟩) (HBJ.out.drew) (fun hCalm => ?_)
                 refine grow_take 0 (some 162) ?_ rfl rfl (by kernel_rfl) (fun _ _ _ h => h) (by kernel_rfl) hCalm ?_ ?_
                 rotate_left
                 · intro wS hS; (try dsimp only at hS); go_simp <;> with_reducible rfl
                 try simp only [Act.put, q8a, q8b, q8c]
                 refine grow_take 1 (some 163) (.bool true) rfl rfl (by kernel_rfl) (fun _ _ _ h => h) (by kernel_rfl) hCalm ?_ ?_
                 · intro wS hS; (try dsimp only at hS); go_simp
                   all_goals (first | omega | (simp; try omega))
                 try simp only [Act.put, q8a, q8b, q8c]
                 refine grow_take 2 (some 164) ?_ rfl rfl (by kernel_rfl) (fun _ _ _ h => h) (by kernel_rfl) hCalm ?_ ?_
                 rotate_left
                 · intro wS hS; (try dsimp only at hS); go_simp <;> with_reducible rfl
                 try simp only [Act.put, q8a, q8b, q8c]
                 refine grow_take 3 (some 165) ?_ rfl rfl (by kernel_rfl) (fun _ _ _ h => h) (by kernel_rfl) hCalm ?_ ?_
                 rotate_left
                 · intro wS hS; (try dsimp only at hS); go_simp <;> with_reducible rfl
                 try simp only [Act.put, q8a, q8b, q8c]
                 refine grow_take 4 (some 166) ?_ rfl rfl (by kernel_rfl) (fun _ _ _ h => h) (by kernel_rfl) hCalm ?_ ?_
                 rotate_left
                 · intro wS hS; (try dsimp only at hS); go_simp <;> with_reducible rfl
                 try simp only [Act.put, q8a, q8b, q8c]
                 refine grow_take 5 (some 167) ?_ rfl rfl (by kernel_rfl) (fun _ _ _ h => h) (by kernel_rfl) hCalm ?_ ?_
                 rotate_left
                 · intro wS hS; (try dsimp only at hS); go_simp <;> with_reducible rfl
                 try simp only [Act.put, q8a, q8b, q8c]
                 refine grow_take 6 (some 168) ?_ rfl rfl (by kernel_rfl) (fun _ _ _ h => h) (by kernel_rfl) hCalm ?_ ?_
                 rotate_left
                 · intro wS hS; (try dsimp only at hS); go_simp <;> with_reducible rfl
                 try simp only [Act.put, q8a, q8b, q8c]
                 refine grow_take 7 (some 169) ?_ rfl rfl (by kernel_rfl) (fun _ _ _ h => h) (by kernel_rfl) hCalm ?_ ?_
                 rotate_left
                 · intro wS hS; (try dsimp only at hS); go_simp <;> with_reducible rfl
                 try simp only [Act.put, q8a, q8b, q8c]
                 refine grow_take 8 (some 170) ?_ rfl rfl (by kernel_rfl) (fun _ _ _ h => h) (by kernel_rfl) hCalm ?_ ?_
                 rotate_left
                 · intro wS hS; (try dsimp only at hS); go_simp <;> with_reducible rfl
                 try simp only [Act.put, q8a, q8b, q8c]
                 refine grow_take 9 (some 171) ?_ rfl rfl (by kernel_rfl) (fun _ _ _ h => h) (by kernel_rfl) hCalm ?_ ?_
                 rotate_left
                 · intro wS hS; (try dsimp only at hS); go_simp <;> with_reducible rfl
                 try simp only [Act.put, q8a, q8b, q8c]
                 refine grow_take 10 (some 172) ?_ rfl rfl (by kernel_rfl) (fun _ _ _ h => h) (by kernel_rfl) hCalm ?_ ?_
                 rotate_left
                 · intro wS hS; (try dsimp only at hS); go_simp <;> with_reducible rfl
                 try simp only [Act.put, q8a, q8b, q8c]
                 refine grow_take 11 (some 173) ?_ rfl rfl (by kernel_rfl) (fun _ _ _ h => h) (by kernel_rfl) hCalm ?_ ?_
                 rotate_left
                 · intro wS hS; (try dsimp only at hS); go_simp <;> with_reducible rfl
                 try simp only [Act.put, q8a, q8b, q8c]
                 refine grow_take 12 (some 174) (.bool false) rfl rfl (by kernel_rfl) (fun _ _ _ h => h) (by kernel_rfl) hCalm ?_ ?_
                 · intro wS hS; (try dsimp only at hS); go_simp
                   all_goals (first | omega | (simp; try omega))
                 try simp only [Act.put, q8a, q8b, q8c]
                 refine grow_take 13 (some 175) ?_ rfl rfl (by kernel_rfl) (fun _ _ _ h => h) (by kernel_rfl) hCalm ?_ ?_
                 rotate_left
                 · intro wS hS; (try dsimp only at hS); go_simp <;> with_reducible rfl
                 try simp only [Act.put, q8a, q8b, q8c]
                 refine grow_take 14 (some 176) ?_ rfl rfl (by kernel_rfl) (fun _ _ _ h => h) (by kernel_rfl) hCalm ?_ ?_
                 rotate_left
                 · intro wS hS; (try dsimp only at hS); go_simp <;> with_reducible rfl
                 try simp only [Act.put, q8a, q8b, q8c]
                 refine grow_take 15 (some 177) ?_ rfl rfl (by kernel_rfl) (fun _ _ _ h => h) (by kernel_rfl) hCalm ?_ ?_
                 rotate_left
                 · intro wS hS; (try dsimp only at hS); go_simp <;> with_reducible rfl
                 try simp only [Act.put, q8a, q8b, q8c]
                 refine grow_take 16 (some 178) ?_ rfl rfl (by kernel_rfl) (fun _ _ _ h => h) (by kernel_rfl) hCalm ?_ ?_
                 rotate_left
                 · intro wS hS; (try dsimp only at hS); go_simp <;> with_reducible rfl
                 try simp only [Act.put, q8a, q8b, q8c]
                 refine grow_take 17 (some 179) ?_ rfl rfl (by kernel_rfl) (fun _ _ _ h => h) (by kernel_rfl) hCalm ?_ ?_
                 rotate_left
                 · intro wS hS; (try dsimp only at hS); go_simp <;> with_reducible rfl
                 try simp only [Act.put, q8a, q8b, q8c]
                 refine grow_take 18 (some 180) ?_ rfl rfl (by kernel_rfl) (fun _ _ _ h => h) (by kernel_rfl) hCalm ?_ ?_
                 rotate_left
                 · intro wS hS; (try dsimp only at hS); go_simp <;> with_reducible rfl
                 try simp only [Act.put, q8a, q8b, q8c]
                 refine grow_take 19 (some 181) ?_ rfl rfl (by kernel_rfl) (fun _ _ _ h => h) (by kernel_rfl) hCalm ?_ ?_
                 rotate_left
                 · intro wS hS; (try dsimp only at hS); go_simp <;> with_reducible rfl
                 try simp only [Act.put, q8a, q8b, q8c]
                 refine grow_take 20 (some 182) ?_ rfl rfl (by kernel_rfl) (fun _ _ _ h => h) (by kernel_rfl) hCalm ?_ ?_
                 rotate_left
                 · intro wS hS; (try dsimp only at hS); go_simp <;> with_reducible rfl
                 try simp only [Act.put, q8a, q8b, q8c]
                 refine grow_take 21 (some 183) ?_ rfl rfl (by kernel_rfl) (fun _ _ _ h => h) (by kernel_rfl) hCalm ?_ ?_
                 rotate_left
                 · intro wS hS; (try dsimp only at hS); go_simp <;> with_reducible rfl
                 try simp only [Act.put, q8a, q8b, q8c]
                 refine grow_take 22 (some 184) ?_ rfl rfl (by kernel_rfl) (fun _ _ _ h => h) (by kernel_rfl) hCalm ?_ ?_
                 rotate_left
                 · intro wS hS; (try dsimp only at hS); go_simp <;> with_reducible rfl
                 try simp only [Act.put, q8a, q8b, q8c]
                 refine grow_take 23 (some 185) (.bool false) rfl rfl (by kernel_rfl) (fun _ _ _ h => h) (by kernel_rfl) hCalm ?_ ?_
                 · intro wS hS; (try dsimp only at hS); go_simp
                   all_goals (first | omega | (simp; try omega))
                 try simp only [Act.put, q8a, q8b, q8c]
                 refine grow_take 24 (some 186) ?_ rfl rfl (by kernel_rfl) (fun _ _ _ h => h) (by kernel_rfl) hCalm ?_ ?_
                 rotate_left
                 · intro wS hS; (try dsimp only at hS); go_simp <;> with_reducible rfl
                 try simp only [Act.put, q8a, q8b, q8c]
                 refine grow_skip 25 (some 187) rfl rfl (by kernel_rfl) (fun _ _ _ h => h) (by kernel_rfl) hCalm ?_
                 try simp only [Act.put, q8a, q8b, q8c]
                 refine grow_skip 26 (some 188) rfl rfl (by kernel_rfl) (fun _ _ _ h => h) (by kernel_rfl) hCalm ?_
                 try simp only [Act.put, q8a, q8b, q8c]
                 refine grow_skip 27 (some 189) rfl rfl (by kernel_rfl) (fun _ _ _ h => h) (by kernel_rfl) hCalm ?_
                 try simp only [Act.put, q8a, q8b, q8c]
                 refine grow_skip 28 (some 190) rfl rfl (by kernel_rfl) (fun _ _ _ h => h) (by kernel_rfl) hCalm ?_
                 try simp only [Act.put, q8a, q8b, q8c]
                 refine grow_skip 29 (some 191) rfl rfl (by kernel_rfl) (fun _ _ _ h => h) (by kernel_rfl) hCalm ?_
                 try simp only [Act.put, q8a, q8b, q8c]
                 refine grow_skip 30 (some 192) rfl rfl (by kernel_rfl) (fun _ _ _ h => h) (by kernel_rfl) hCalm ?_
                 try simp only [Act.put, q8a, q8b, q8c]
                 refine grow_skip 31 (some 193) rfl rfl (by kernel_rfl) (fun _ _ _ h => h) (by kernel_rfl) hCalm ?_
                 try simp only [Act.put, q8a, q8b, q8c]
                 refine grow_skip 32 (some 194) rfl rfl (by kernel_rfl) (fun _ _ _ h => h) (by kernel_rfl) hCalm ?_
                 try simp only [Act.put, q8a, q8b, q8c]
                 refine grow_skip 33 (some 195) rfl rfl (by kernel_rfl) (fun _ _ _ h => h) (by kernel_rfl) hCalm ?_
                 try simp only [Act.put, q8a, q8b, q8c]
                 refine grow_skip 34 (some 196) rfl rfl (by kernel_rfl) (fun _ _ _ h => h) (by kernel_rfl) hCalm ?_
                 try simp only [Act.put, q8a, q8b, q8c]
                 refine grow_take 35 (some 197) ?_ rfl rfl (by kernel_rfl) (fun _ _ _ h => h) (by kernel_rfl) hCalm ?_ ?_
                 rotate_left
                 · intro wS hS; (try dsimp only at hS); go_simp <;> with_reducible rfl
                 try simp only [Act.put, q8a, q8b, q8c]
                 refine grow_take 36 (some 198) ?_ rfl rfl (by kernel_rfl) (fun _ _ _ h => h) (by kernel_rfl) hCalm ?_ ?_
                 rotate_left
                 · intro wS hS; (try dsimp only at hS); go_simp <;> with_reducible rfl
                 try simp only [Act.put, q8a, q8b, q8c]
                 refine grow_take 37 (some 199) ?_ rfl rfl (by kernel_rfl) (fun _ _ _ h => h) (by kernel_rfl) hCalm ?_ ?_
                 rotate_left
                 · intro wS hS; (try dsimp only at hS); go_simp <;> with_reducible rfl
                 try simp only [Act.put, q8a, q8b, q8c]
                 refine grow_done (by kernel_rfl) (fun wA hA => ?_) _
                 have HBJ := Lib.hid hA
                 obtain ⟨wj, hwj⟩ : ∃ y, y = wA := ⟨_, rfl⟩
                 rw [<- hwj] at HBJ ⊢
                 clear hwj hA hCalm
                 go_wp2_with fail
                 go_roundw
                 case rel => exact ⟨i1, by go_num, HII.out.2, HBJ.out⟩
                 case measure => have := HII.out; simp [intOf]; omega
             case neg =>
               have hi0b : ¬ (0 : Int) < (i : Int) := by omega
               refine wp_region_grow (S := (fun w' => w'.cell? ⟨b2, o2 + i * 2, none⟩ = some (.int .i64 p0.x) /\ w'.cell? ⟨b2, o2 + i * 2 + 1, none⟩ = some (.int .i64 p0.y) /\ w'.cell? ⟨b2, o2, none⟩ = some (.int .i64 pz.x) /\ w'.cell? ⟨b2, o2 + 1, none⟩ = some (.int .i64 pz.y))) ((fun w' => Below w9.heap.size w9 w')) (by kernel_rfl) (⟨fun w2 h2 => ⟨(HCE.out _ h2).1.1, (HCE.out _ h2).1.2, (HCE.out _ h2).2.2.2.1, (HCE.out _ h2).2.2.2.2⟩, fun w2 w3 h2 hb2 => h2.trans (hb2.mono h2.size)⟩) (HBJ.out.drew) (fun hCalm => ?_)
               refine grow_take 0 (some 162) ?_ rfl rfl (by kernel_rfl) (fun _ _ _ h => h) (by kernel_rfl) hCalm ?_ ?_
               rotate_left
               · intro wS hS; (try dsimp only at hS); go_simp <;> with_reducible rfl
               try simp only [Act.put, q8a, q8b, q8c]
               refine grow_take 1 (some 163) (.bool false) rfl rfl (by kernel_rfl) (fun _ _ _ h => h) (by kernel_rfl) hCalm ?_ ?_
               · intro wS hS; (try dsimp only at hS); go_simp
                 all_goals (first | omega | (simp; try omega))
               try simp only [Act.put, q8a, q8b, q8c]
               refine grow_take 2 (some 164) ?_ rfl rfl (by kernel_rfl) (fun _ _ _ h => h) (by kernel_rfl) hCalm ?_ ?_
               rotate_left
               · intro wS hS; (try dsimp only at hS); go_simp <;> with_reducible rfl
               try simp only [Act.put, q8a, q8b, q8c]
               refine grow_skip 3 (some 165) rfl rfl (by kernel_rfl) (fun _ _ _ h => h) (by kernel_rfl) hCalm ?_
               try simp only [Act.put, q8a, q8b, q8c]
               refine grow_skip 4 (some 166) rfl rfl (by kernel_rfl) (fun _ _ _ h => h) (by kernel_rfl) hCalm ?_
               try simp only [Act.put, q8a, q8b, q8c]
               refine grow_skip 5 (some 167) rfl rfl (by kernel_rfl) (fun _ _ _ h => h) (by kernel_rfl) hCalm ?_
               try simp only [Act.put, q8a, q8b, q8c]
               refine grow_skip 6 (some 168) rfl rfl (by kernel_rfl) (fun _ _ _ h => h) (by kernel_rfl) hCalm ?_
               try simp only [Act.put, q8a, q8b, q8c]
               refine grow_skip 7 (some 169) rfl rfl (by kernel_rfl) (fun _ _ _ h => h) (by kernel_rfl) hCalm ?_
               try simp only [Act.put, q8a, q8b, q8c]
               refine grow_skip 8 (some 170) rfl rfl (by kernel_rfl) (fun _ _ _ h => h) (by kernel_rfl) hCalm ?_
               try simp only [Act.put, q8a, q8b, q8c]
               refine grow_skip 9 (some 171) rfl rfl (by kernel_rfl) (fun _ _ _ h => h) (by kernel_rfl) hCalm ?_
               try simp only [Act.put, q8a, q8b, q8c]
               refine grow_skip 10 (some 172) rfl rfl (by kernel_rfl) (fun _ _ _ h => h) (by kernel_rfl) hCalm ?_
               try simp only [Act.put, q8a, q8b, q8c]
               refine grow_skip 11 (some 173) rfl rfl (by kernel_rfl) (fun _ _ _ h => h) (by kernel_rfl) hCalm ?_
               try simp only [Act.put, q8a, q8b, q8c]
               refine grow_skip 12 (some 174) rfl rfl (by kernel_rfl) (fun _ _ _ h => h) (by kernel_rfl) hCalm ?_
               try simp only [Act.put, q8a, q8b, q8c]
               refine grow_skip 13 (some 175) rfl rfl (by kernel_rfl) (fun _ _ _ h => h) (by kernel_rfl) hCalm ?_
               try simp only [Act.put, q8a, q8b, q8c]
               refine grow_skip 14 (some 176) rfl rfl (by kernel_rfl) (fun _ _ _ h => h) (by kernel_rfl) hCalm ?_
               try simp only [Act.put, q8a, q8b, q8c]
               refine grow_skip 15 (some 177) rfl rfl (by kernel_rfl) (fun _ _ _ h => h) (by kernel_rfl) hCalm ?_
               try simp only [Act.put, q8a, q8b, q8c]
               refine grow_skip 16 (some 178) rfl rfl (by kernel_rfl) (fun _ _ _ h => h) (by kernel_rfl) hCalm ?_
               try simp only [Act.put, q8a, q8b, q8c]
               refine grow_skip 17 (some 179) rfl rfl (by kernel_rfl) (fun _ _ _ h => h) (by kernel_rfl) hCalm ?_
               try simp only [Act.put, q8a, q8b, q8c]
               refine grow_skip 18 (some 180) rfl rfl (by kernel_rfl) (fun _ _ _ h => h) (by kernel_rfl) hCalm ?_
               try simp only [Act.put, q8a, q8b, q8c]
               refine grow_skip 19 (some 181) rfl rfl (by kernel_rfl) (fun _ _ _ h => h) (by kernel_rfl) hCalm ?_
               try simp only [Act.put, q8a, q8b, q8c]
               refine grow_skip 20 (some 182) rfl rfl (by kernel_rfl) (fun _ _ _ h => h) (by kernel_rfl) hCalm ?_
               try simp only [Act.put, q8a, q8b, q8c]
               refine grow_skip 21 (some 183) rfl rfl (by kernel_rfl) (fun _ _ _ h => h) (by kernel_rfl) hCalm ?_
               try simp only [Act.put, q8a, q8b, q8c]
               refine grow_skip 22 (some 184) rfl rfl (by kernel_rfl) (fun _ _ _ h => h) (by kernel_rfl) hCalm ?_
               try simp only [Act.put, q8a, q8b, q8c]
               refine grow_skip 23 (some 185) rfl rfl (by kernel_rfl) (fun _ _ _ h => h) (by kernel_rfl) hCalm ?_
               try simp only [Act.put, q8a, q8b, q8c]
               refine grow_skip 24 (some 186) rfl rfl (by kernel_rfl) (fun _ _ _ h => h) (by kernel_rfl) hCalm ?_
               try simp only [Act.put, q8a, q8b, q8c]
               refine grow_skip 25 (some 187) rfl rfl (by kernel_rfl) (fun _ _ _ h => h) (by kernel_rfl) hCalm ?_
               try simp only [Act.put, q8a, q8b, q8c]
               refine grow_skip 26 (some 188) rfl rfl (by kernel_rfl) (fun _ _ _ h => h) (by kernel_rfl) hCalm ?_
               try simp only [Act.put, q8a, q8b, q8c]
               refine grow_skip 27 (some 189) rfl rfl (by kernel_rfl) (fun _ _ _ h => h) (by kernel_rfl) hCalm ?_
               try simp only [Act.put, q8a, q8b, q8c]
               refine grow_skip 28 (some 190) rfl rfl (by kernel_rfl) (fun _ _ _ h => h) (by kernel_rfl) hCalm ?_
               try simp only [Act.put, q8a, q8b, q8c]
               refine grow_skip 29 (some 191) rfl rfl (by kernel_rfl) (fun _ _ _ h => h) (by kernel_rfl) hCalm ?_
               try simp only [Act.put, q8a, q8b, q8c]
               refine grow_skip 30 (some 192) rfl rfl (by kernel_rfl) (fun _ _ _ h => h) (by kernel_rfl) hCalm ?_
               try simp only [Act.put, q8a, q8b, q8c]
               refine grow_skip 31 (some 193) rfl rfl (by kernel_rfl) (fun _ _ _ h => h) (by kernel_rfl) hCalm ?_
               try simp only [Act.put, q8a, q8b, q8c]
               refine grow_skip 32 (some 194) rfl rfl (by kernel_rfl) (fun _ _ _ h => h) (by kernel_rfl) hCalm ?_
               try simp only [Act.put, q8a, q8b, q8c]
               refine grow_skip 33 (some 195) rfl rfl (by kernel_rfl) (fun _ _ _ h => h) (by kernel_rfl) hCalm ?_
               try simp only [Act.put, q8a, q8b, q8c]
               refine grow_skip 34 (some 196) rfl rfl (by kernel_rfl) (fun _ _ _ h => h) (by kernel_rfl) hCalm ?_
               try simp only [Act.put, q8a, q8b, q8c]
               refine grow_skip 35 (some 197) rfl rfl (by kernel_rfl) (fun _ _ _ h => h) (by kernel_rfl) hCalm ?_
               try simp only [Act.put, q8a, q8b, q8c]
               refine grow_skip 36 (some 198) rfl rfl (by kernel_rfl) (fun _ _ _ h => h) (by kernel_rfl) hCalm ?_
               try simp only [Act.put, q8a, q8b, q8c]
               refine grow_take 37 (some 199) ?_ rfl rfl (by kernel_rfl) (fun _ _ _ h => h) (by kernel_rfl) hCalm ?_ ?_
               rotate_left
               · intro wS hS; (try dsimp only at hS); go_simp <;> with_reducible rfl
               try simp only [Act.put, q8a, q8b, q8c]
               refine grow_done (by kernel_rfl) (fun wA hA => ?_) _
               have HBJ := Lib.hid hA
               obtain ⟨wj, hwj⟩ : ∃ y, y = wA := ⟨_, rfl⟩
               rw [<- hwj] at HBJ ⊢
               clear hwj hA hCalm
               go_wp2_with fail
               go_roundw
               case rel => exact ⟨i1, by go_num, HII.out.2, HBJ.out⟩
               case measure => have := HII.out; simp [intOf]; omega
end Go.Proofs.YtpjbihfkedbenaaGreat
