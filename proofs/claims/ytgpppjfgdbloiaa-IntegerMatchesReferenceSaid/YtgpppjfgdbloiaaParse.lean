/- The contracts of parse and parseBoth. Condition: a string's length is an int's. -/
import Derived.Test.YtgpppjfgdbloiaaValid
namespace Go.Proofs.Ytgpppjfgdbloiaa
open Go.RowKit Go.Lib

/-- A number and no error have been returned. -/
def OutP (z : Int) (w : World) (e : Ending) (w' : World) : Prop := ∃ s X A c, e = .returned (.tuple #[.agg #[.bool s, .slice A (glen X) c], .int .i64 0]) ∧ sg s X = z ∧ (s = true → 0 < X) ∧ X < 10 ^ 200 ∧ Am w' A (glen X) c X ∧ Below w.heap.size w w'
theorem run_slice_str {P : Program} (t : TypeId) (ht : P.underlying t = some .string) (s : ByteArray) {x y : Int} (a b : Nat) (hx : x = a) (hy : y = b) (hab : a ≤ b) (hb : b ≤ s.size) (w : World) :
    (Instr.slice t (.string s) (some (.int .i64 x)) (some (.int .i64 y)) none).run P w = .ok (.string (s.extract a b)) w := by
  subst hx; subst hy
  have h1 : (a : Int) ≤ b := by omega
  have h2 : (b : Int) ≤ s.size := by omega
  simp [Instr.slice, run_underlying ht, Instr.sliceBounds, run_sliceBound, h1, h2]
/-- A piece of digits is a group. -/
theorem piece {L : List UInt8} (h : ∀ c ∈ L, IsD c) (i e : Nat) (he : e + 4 * i = L.length) : dval ((L.drop (e - 4)).take (e - (e - 4))) = dg4 (dval L) i ∧ ∀ c ∈ (L.drop (e - 4)).take (e - (e - 4)), IsD c := by
  refine ⟨?_, fun c hc => h c (List.mem_of_mem_drop (List.mem_of_mem_take hc))⟩
  have e1 : (L.drop (e - 4)).take (e - (e - 4)) = (L.take e).drop (e - 4) := by rw [List.drop_take]
  rw [e1, dval_drop (fun c hc => h c (List.mem_of_mem_take hc)), dval_take h, List.length_take, Nat.min_eq_left (by omega), show L.length - e = 4 * i by omega]
  unfold dg4
  rw [show (10000 : Nat) = 10 ^ 4 from rfl, ← Nat.pow_mul]
  rcases Nat.lt_or_ge e 4 with h4 | h4
  · rw [show e - (e - 4) = e by omega]
    have h5 := dval_lt h
    have h6 : dval L / 10 ^ (4 * i) < 10 ^ e := by
      rw [Nat.div_lt_iff_lt_mul (Nat.pow_pos (by omega)), ← Nat.pow_add, he]; exact h5
    have h7 : 10 ^ e ≤ 10 ^ 4 := Nat.pow_le_pow_right (by omega) (by omega)
    rw [Nat.mod_eq_of_lt h6, Nat.mod_eq_of_lt (by omega)]
  · rw [show e - (e - 4) = 4 by omega]
/-- Groups that have been read, and room. -/
def room (X i cap : Nat) : List Int := grps X i ++ List.replicate (cap - i) 0
theorem room_zero (X cap : Nat) : room X 0 cap = List.replicate cap 0 := by unfold room; simp [grps]
theorem room_length {X i cap : Nat} (h : i ≤ cap) : (room X i cap).length = cap := by unfold room; rw [List.length_append, grps_length, List.length_replicate]; omega
theorem room_set {X i cap : Nat} (h : i < cap) : (room X i cap).set i (dg4 X i : Int) = room X (i + 1) cap := by
  unfold room
  rw [List.set_append_right _ _ (by rw [grps_length]; exact Nat.le_refl _), grps_length, Nat.sub_self, show cap - i = (cap - (i + 1)) + 1 by omega, List.replicate_succ, List.set_cons_zero, grps_succ, List.append_assoc]
  rfl
theorem Am.room {w : World} {g i cap X : Nat} {t : TypeId} (h : Blk w g t ((room X i cap).map iv).toArray) (hi : i ≤ cap) : Am w (some ⟨g, 0, none⟩) i cap X :=
  ⟨hi, fun _ => ⟨g, 0, rfl, h.lt, fun j hj => by
    rw [Nat.zero_add, h.cell (iv_at (by rw [room_length hi]; omega))]
    unfold Go.Proofs.Ytgpppjfgdbloiaa.room
    rw [List.getElem_append_left (by rw [grps_length]; exact hj), grps_at]; rfl⟩⟩

set_option maxRecDepth 100000 in
theorem parse_no (s : ByteArray) (w : World) (hs : s.size ≤ 9000000000000000000) (hr : rd s.data.toList = none) :
    Calls Try.prog 55 #[.string s] w fun e w' => e = .returned (.tuple #[.agg #[.bool false, .slice none 0 0], .int .i64 30]) ∧ Below w.heap.size w w' := by
  have hv : validB s.data.toList = false := by
    unfold rd at hr
    cases hq : validB s.data.toList with
    | false => rfl
    | true => rw [if_pos hq] at hr; cases hr
  have hva := fun w => valid_any s w hs
  rw [hv] at hva
  have HV := Lib.hid hva
  clear hv hva hr
  go_enter Try.func55, Try.ntmps55
  go_wp2_with fail
  refine (HV.out _).mono ?_
  rintro e w1 ⟨rfl, k, rfl⟩
  go_wp2_with fail
  exact bodyPost_ret (v := .tuple #[.agg #[.bool false, .slice none 0 0], .int .i64 30]) (by simp [results, Try.results55, go_sem]) rfl ⟨rfl, ((below_drewN ((Below.refl _ _).alloc (Nat.le_refl _) _) k).setCell (p := ⟨w.heap.size, 0, none⟩) (Nat.le_refl _) _).setCell (p := ⟨w.heap.size, 1, none⟩) (Nat.le_refl _) _⟩

set_option maxRecDepth 100000 in
set_option maxHeartbeats 1000000 in
theorem parse_yes (s : ByteArray) (w : World) (z : Int) (hs : s.size ≤ 9000000000000000000) (hr : rd s.data.toList = some z) :
    Calls Try.prog 55 #[.string s] w (OutP z w) := by
  obtain ⟨-, hz, hcb, hD, hX, hl0, hl, hv⟩ := rd_some hr
  have hva := fun w => valid_any s w hs
  rw [hv] at hva
  have hcs := fun w => cutSign_any s w hs
  unfold OutCut at hcs
  obtain ⟨r, hrr⟩ : ∃ r, r = bs (cutR s.data.toList) := ⟨_, rfl⟩
  have hrd : r.data.toList = cutR s.data.toList := by rw [hrr]; rfl
  have hrs : r.size = (cutR s.data.toList).length := by rw [hrr]; rfl
  rw [← hrr] at hcs
  rw [← hrd] at hD hX
  rw [← hrs] at hl0 hl
  obtain ⟨b, hb⟩ : ∃ b, b = cutB s.data.toList := ⟨_, rfl⟩
  rw [← hb] at hcs hcb
  obtain ⟨X, hXX⟩ : ∃ X, X = z.natAbs := ⟨_, rfl⟩
  rw [← hXX] at hX hz
  obtain ⟨m, hm⟩ : ∃ m, m = r.size := ⟨_, rfl⟩
  have hlt : X < 10 ^ m := by rw [← hX, hm, size_eq]; exact dval_lt hD
  obtain ⟨cap, hcap⟩ : ∃ cap, cap = m / 4 + 1 := ⟨_, rfl⟩
  have hmk := fun w => run_make_ints 51 Try.underlying51 0 cap (Nat.zero_le _) (by omega) w
  have e1 : (r.size : Int) / 4 + 1 = (cap : Int) := by omega
  have HV := Lib.hid hva; have HC := Lib.hid hcs; have HM := Lib.hid hm; have HLT := Lib.hid hlt; have HX := Lib.hid hX; have HD := Lib.hid hD; have HCB := Lib.hid hcb; have HXX := Lib.hid hXX; have HZ := Lib.hid hz
  have HCAP := Lib.hid hcap
  have hm200 : m ≤ 200 := by omega
  have hm0 : 0 < m := by omega
  rw [show ((0 : Nat) : Int) = 0 from rfl] at hmk
  clear hva hcs hm hlt hX hD hcb hXX hz hr hv hb hrd hrs hrr hcap hs
  go_enter Try.func55, Try.ntmps55
  go_wp2_with fail
  refine (HV.out _).mono ?_
  rintro e w1 ⟨rfl, k, rfl⟩
  go_wp2_with fail
  refine (HC.out _).mono ?_
  rintro e w1 ⟨rfl, k2, rfl⟩
  go_wp2_with fail
  have hBR : Blk (((w.alloc (.cells #[.bool false, .slice none 0 0] 53)).drewN (k + k2)).alloc (.cells (zc cap) 3)) w.heap.size 53 #[.bool false, .slice none 0 0] := ((Blk.new w _ _).drewN _).alloc _
  have hG0 : Blk (((w.alloc (.cells #[.bool false, .slice none 0 0] 53)).drewN (k + k2)).alloc (.cells (zc cap) 3)) (w.heap.size + 1) 3 ((room X 0 cap).map iv).toArray := by
    have h := Blk.new ((w.alloc (.cells #[.bool false, .slice none 0 0] 53)).drewN (k + k2)) 3 (zc cap)
    rw [show ((w.alloc (.cells #[.bool false, .slice none 0 0] 53)).drewN (k + k2)).heap.size = w.heap.size + 1 from by simp [World.drewN]] at h
    rw [room_zero]; exact h
  have hB0 : Below w.heap.size w (((w.alloc (.cells #[.bool false, .slice none 0 0] 53)).drewN (k + k2)).alloc (.cells (zc cap) 3)) := (below_drewN ((Below.refl _ _).alloc (Nat.le_refl _) _) _).alloc (by simp [World.drewN]) _
  have HBR := Lib.hid hBR; have HG0 := Lib.hid hG0; have HB0 := Lib.hid hB0
  clear hBR hG0 hB0 hmk e1
  go_loopw [6, 7] (fun g ee wr => ∃ (i : Nat) (E : Int), g = .slice (some ⟨w.heap.size + 1, 0, none⟩) i cap ∧ ee = .int .i64 E ∧ i ≤ cap ∧ Hid (E = (m : Int) - 4 * (i : Int)) ∧ Blk wr w.heap.size 53 #[.bool false, .slice none 0 0] ∧ Blk wr (w.heap.size + 1) 3 ((room X i cap).map iv).toArray ∧ Below w.heap.size w wr)
    (fun _ ee _ => (intOf ee).toNat)
  case atStart => exact ⟨0, _, rfl, rfl, Nat.zero_le _, (by rw [HM.out]; show _ = _; omega), HBR.out, HG0.out, HB0.out⟩
  case round =>
    obtain ⟨i, E, rfl, rfl, hi, HE, hBR, hG, hbl⟩ := hrel
    by_cases hE : 0 < E
    · obtain ⟨e, he⟩ : ∃ e : Nat, E = (e : Int) := ⟨E.toNat, by omega⟩
      subst he
      have hem : e + 4 * i = m := by have := HE.out; omega
      have hic : i < cap := by rw [HCAP.out]; omega
      obtain ⟨p1, p2⟩ := piece HD.out i e (by rw [hem, HM.out, size_eq])
      rw [HX.out] at p1
      have hT : (r.extract (e - 4) e).data.toList = (r.data.toList.drop (e - 4)).take (e - (e - 4)) := extract_data _ _ _
      rw [← hT] at p1 p2
      have hdg := dg4_lt X i
      have hval := valueOf_any (r.extract (e - 4) e) wr p2 (by rw [ByteArray.size_extract]; omega)
      rw [p1, show wrap64 ((dg4 X i : Nat) : Int) = (dg4 X i : Nat) from by unfold wrap64; omega] at hval
      have hrm : e ≤ r.size := by rw [← HM.out]; omega
      have he0 : 0 < e := by omega
      have hsl1 := fun (h : e ≤ 4) => run_slice_str (P := Try.prog) 9 Try.underlying9 r (x := 0) (y := (e : Int)) (e - 4) e (by omega) rfl (by omega) hrm
      have hsl2 := fun (h : 4 < e) => run_slice_str (P := Try.prog) 9 Try.underlying9 r (x := (e : Int) - 4) (y := (e : Int)) (e - 4) e (by omega) rfl (by omega) hrm
      obtain ⟨T, hTT⟩ : ∃ T, T = r.extract (e - 4) e := ⟨_, rfl⟩
      rw [← hTT] at hval hsl1 hsl2
      have HVA := Lib.hid hval; have HG := Lib.hid hG; have HBR2 := Lib.hid hBR; have HBL := Lib.hid hbl; have HEM := Lib.hid hem
      have HRS := Lib.hid (room_set (X := X) hic)
      obtain ⟨d, hd⟩ : ∃ d, d = dg4 X i := ⟨_, rfl⟩
      rw [← hd] at HVA HRS hdg
      clear hT hTT p1 p2 hval hG hBR hbl hem hd
      have hend : (e : Int) - 4 = (m : Int) - 4 * ((i + 1 : Nat) : Int) := by have := HEM.out; omega
      have HEN := Lib.hid hend
      have hre : (e : Int) ≤ (r.size : Int) := by omega
      clear hend
      by_cases h4 : e ≤ 4
      · have hsl := hsl1 h4
        have h5 : (e : Int) - 4 ≤ 0 := by omega
        clear hsl1 hsl2 h4
        go_wp2_with fail
        refine HVA.out.mono ?_
        rintro ee w2 ⟨rfl, hb2⟩
        have HG2 := Lib.hid (HG.out.below hb2 HG.out.lt)
        have HBR3 := Lib.hid (HBR2.out.below hb2 HBR2.out.lt)
        have HBL2 := Lib.hid (HBL.out.trans (hb2.mono HBL.out.size))
        clear hb2
        go_wp2_with (at_builtin; go_loud (refine wpList_append_room rfl _ _ 51 rfl Try.underlying51 (w.heap.size + 1) i cap (((room X i cap).map iv).toArray) rfl (HG2.out.alloc _) ⟨w2.heap.size, 0, none⟩ (.int .i64 (d : Nat)) rfl (World.cell?_alloc_at _ _ _ _ rfl) rfl (by omega) (by simp [room_length (X := X) (Nat.le_of_lt hic)]; omega) ?_; intro w3 hw3; have hG3 : Blk w3 (w.heap.size + 1) 3 ((room X (i + 1) cap).map iv).toArray := (by rw [hw3, ← HRS.out, ← iv_set]; exact (HG2.out.alloc _).setRow _); have hBR4 : Blk w3 w.heap.size 53 #[.bool false, .slice none 0 0] := (by rw [hw3]; exact (HBR3.out.alloc _).farRow (by omega) _); have hbl3 : Below w.heap.size w w3 := (by rw [hw3]; exact below_setRow (HBL2.out.alloc HBL2.out.size _) (by omega) _); have HG3 := Lib.hid hG3; have HBR4 := Lib.hid hBR4; have HBL3 := Lib.hid hbl3; clear hw3 hG3 hBR4 hbl3))
        go_roundw
        case rel => exact ⟨i + 1, (e : Int) - 4, by go_num, rfl, by omega, HEN.out, HBR4.out, HG3.out, HBL3.out⟩
        case measure => simp [intOf]; omega
      · have hsl := hsl2 (by omega)
        have h5 : 0 < (e : Int) - 4 := by omega
        have h6 : (e : Int) - 4 ≤ (e : Int) := by omega
        clear hsl1 hsl2 h4
        go_wp2_with fail
        refine HVA.out.mono ?_
        rintro ee w2 ⟨rfl, hb2⟩
        have HG2 := Lib.hid (HG.out.below hb2 HG.out.lt)
        have HBR3 := Lib.hid (HBR2.out.below hb2 HBR2.out.lt)
        have HBL2 := Lib.hid (HBL.out.trans (hb2.mono HBL.out.size))
        clear hb2
        go_wp2_with (at_builtin; go_loud (refine wpList_append_room rfl _ _ 51 rfl Try.underlying51 (w.heap.size + 1) i cap (((room X i cap).map iv).toArray) rfl (HG2.out.alloc _) ⟨w2.heap.size, 0, none⟩ (.int .i64 (d : Nat)) rfl (World.cell?_alloc_at _ _ _ _ rfl) rfl (by omega) (by simp [room_length (X := X) (Nat.le_of_lt hic)]; omega) ?_; intro w3 hw3; have hG3 : Blk w3 (w.heap.size + 1) 3 ((room X (i + 1) cap).map iv).toArray := (by rw [hw3, ← HRS.out, ← iv_set]; exact (HG2.out.alloc _).setRow _); have hBR4 : Blk w3 w.heap.size 53 #[.bool false, .slice none 0 0] := (by rw [hw3]; exact (HBR3.out.alloc _).farRow (by omega) _); have hbl3 : Below w.heap.size w w3 := (by rw [hw3]; exact below_setRow (HBL2.out.alloc HBL2.out.size _) (by omega) _); have HG3 := Lib.hid hG3; have HBR4 := Lib.hid hBR4; have HBL3 := Lib.hid hbl3; clear hw3 hG3 hBR4 hbl3))
        go_roundw
        case rel => exact ⟨i + 1, (e : Int) - 4, by go_num, rfl, by omega, HEN.out, HBR4.out, HG3.out, HBL3.out⟩
        case measure => simp [intOf]; omega
    · have hX2 : X < 10000 ^ i := by
        have h1 : m ≤ 4 * i := by have := HE.out; omega
        have h2 := Nat.pow_le_pow_right (show 0 < 10 by omega) h1
        rw [Nat.pow_mul] at h2
        exact Nat.lt_of_lt_of_le HLT.out h2
      have hA := Am.room hG hi
      have htr := trimmed_any _ i cap X wr hA hX2 (by have := HCAP.out; omega)
      have hA2 := hA.less (glen_le.2 hX2)
      have hsg := signed_any b (some ⟨w.heap.size + 1, 0, none⟩) cap X wr hA2
      have HTR := Lib.hid htr; have HSG := Lib.hid hsg; have HA2 := Lib.hid hA2; have HBR2 := Lib.hid hBR; have HBL := Lib.hid hbl
      clear hX2 hA htr hA2 hsg hG hBR hbl HE
      go_wp2_with fail
      refine HTR.out.mono ?_
      rintro ee w2 ⟨rfl, rfl⟩
      go_wp2_with fail
      refine HSG.out.mono ?_
      rintro ee w3 ⟨rfl, hb3⟩
      have kb := HBR2.out.below hb3 HBR2.out.lt
      have k0 := kb.cell (i := 0) rfl; have k1 := kb.cell (i := 1) rfl; have k2 := kb.frozen 0; have k3 := kb.frozen 1
      have HA4 := Lib.hid ((HA2.out.below hb3).store (u := sb b X) (A' := some ⟨w.heap.size + 1, 0, none⟩) (n' := glen X) (c' := cap) kb)
      have hb9 := Lib.hid (((HBL.out.trans (hb3.mono HBL.out.size)).setCell (p := ⟨w.heap.size, 0, none⟩) (Nat.le_refl _) (.bool (sb b X))).setCell (p := ⟨w.heap.size, 1, none⟩) (Nat.le_refl _) (.slice (some ⟨w.heap.size + 1, 0, none⟩) (glen X) cap))
      obtain ⟨r0, r1⟩ := kb.two (u := .bool (sb b X)) (v := .slice (some ⟨w.heap.size + 1, 0, none⟩) (glen X) cap)
      clear kb hb3
      go_wp2_with fail
      exact bodyPost_ret (v := .tuple #[.agg #[.bool (sb b X), .slice (some ⟨w.heap.size + 1, 0, none⟩) (glen X) cap], .int .i64 0]) (by simp [results, Try.results55, go_sem, r0, r1]) rfl
        ⟨_, _, _, _, rfl, by
          have h1 := HCB.out; have h2 := HXX.out
          rw [sg_sb, h1]; unfold sg
          by_cases h3 : z < 0
          · simp [h3]; omega
          · simp [h3]; omega, sb_pos, HZ.out, HA4.out, hb9.out⟩
end Go.Proofs.Ytgpppjfgdbloiaa
