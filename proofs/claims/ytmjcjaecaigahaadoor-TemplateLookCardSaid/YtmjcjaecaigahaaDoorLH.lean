/- The contracts of areDirections, distance and Far. Conditions: the slices read; directions. | The contract of Valid. Conditions: the slice read. -/
import Derived.Test.YtmjcjaecaigahaaDoorLF
import Derived.Test.YtmjcjaecaigahaaDoorLG
namespace Go.Proofs.YtmjcjaecaigahaaDoor
open Go.RowKit Go.Lib

def Ok8 (l : List Int) : Prop := l.length ≤ 200 ∧ Ds8 l
set_option maxRecDepth 100000 in
set_option maxHeartbeats 8000000 in
theorem aredirs8_any (l : List Int) (A : Option Addr) (c : Nat) (w : World) (hA : Iz w A l) (hz : l.length ≤ 9000000000000000000) (b : Bool) (hb0 : b = true ↔ Ok8 l) : Yl 62 #[.slice A l.length c] w (.bool b) := by
  by_cases h2 : l.length ≤ 200
  case neg =>
    obtain rfl : b = false := by
      cases b
      · rfl
      · exact absurd (hb0.1 rfl).1 h2
    have s1 : (200 : Int) < (l.length : Int) := by omega
    clear hA hz hb0
    go_enter Tryd.func62, Tryd.ntmps62
    go_wp2_with fail
    go_ret
    exact ⟨rfl, Below.refl _ _⟩
  case pos =>
    have s1 : ¬ (200 : Int) < (l.length : Int) := by omega
    have HA := Lib.hid hA; have HBB := Lib.hid hb0; have HZ := Lib.hid h2
    clear hA hz hb0 h2
    go_enter Tryd.func62, Tryd.ntmps62
    go_wp2_with fail
    clear s1
    go_loopw [10] (fun ii wr => ∃ i : Nat, ii = .int .i64 i ∧ i ≤ l.length ∧ (∀ j (hj : j < l.length), j < i → Dr8 l[j]) ∧ Below w.heap.size w wr) (fun ii _ => l.length - (intOf ii).toNat)
    case atStart => exact ⟨0, rfl, Nat.zero_le _, fun j hj h => absurd h (Nat.not_lt_zero j), Below.refl _ _⟩
    case round =>
      obtain ⟨i, rfl, hi, hall, hB⟩ := hrel
      have HB := Lib.hid hB; have HAL := Lib.hid hall; clear hB hall
      by_cases hlt : i < l.length
      case neg =>
        obtain rfl : i = l.length := by omega
        obtain rfl : b = true := HBB.out.2 ⟨HZ.out, fun x hx => by obtain ⟨j, hj, rfl⟩ := List.getElem_of_mem hx; exact HAL.out j hj hj⟩
        have s2 : ¬ (l.length : Int) < (l.length : Int) := by omega
        clear hlt hi
        go_wp2_with fail
        go_ret
        exact ⟨rfl, HB.out⟩
      case pos =>
        obtain ⟨ba, o, rfl, hbl, hcell⟩ := HA.out (by omega)
        obtain ⟨x, hx⟩ : ∃ x, x = l[i] := ⟨_, rfl⟩
        have z0 := (HB.out.cell (p := ⟨ba, o + i, none⟩) hbl).trans (hcell i hlt)
        rw [← hx] at z0
        have hxs : l[i]? = some x := by rw [hx]; exact List.getElem?_eq_getElem _
        clear hx hcell
        have q1 : (0 : Int) ≤ (i : Int) := by omega
        have q2 : (i : Int) < (l.length : Int) := by omega
        have q5 : (i : Int) ≤ 9223372036854775806 := by have := HZ.out; omega
        have HI := Lib.hid hlt; have HX := Lib.hid hxs
        clear hbl hi hlt
        by_cases hd : 0 ≤ x ∧ x ≤ 7
        case pos =>
          clear hxs
          go_wp2_with fail
          refine (isfrom8_yes x 0 7 _ hd).mono ?_
          rintro e v0 ⟨rfl, hb⟩
          have HB2 := Lib.hid (HB.out.trans (hb.mono HB.out.size)); clear hb z0
          go_wp2_with fail
          go_roundw
          case rel =>
            refine ⟨i + 1, by go_num, HI.out, fun j hj h => ?_, HB2.out⟩
            rcases Nat.lt_or_ge j i with h3 | h3
            · exact HAL.out j hj h3
            · obtain rfl : j = i := by omega
              have h4 := HX.out
              rw [List.getElem?_eq_getElem hj] at h4
              rw [Option.some.inj h4]; exact hd
          case measure => have := HI.out; simp [intOf]; omega
        case neg =>
          obtain rfl : b = false := by
            cases hbv : b
            · rfl
            · exact absurd ((HBB.out.1 hbv).2 x (List.mem_of_getElem? hxs)) hd
          clear hxs
          go_wp2_with fail
          refine (isfrom8_no x 0 7 _ hd).mono ?_
          rintro e v0 ⟨rfl, hb⟩
          have HB2 := Lib.hid (HB.out.trans (hb.mono HB.out.size)); clear hb z0
          go_wp2_with fail
          go_ret
          exact ⟨rfl, HB2.out⟩
/-- The row of distances in memory. -/
def rc8 (f : Nat → Int) : List Value := (List.range 201).map fun k => .int .i64 (f k)
theorem rc8_at {f : Nat → Int} {k : Nat} (h : k < 201) : (rc8 f).toArray[k]? = some (.int .i64 (f k)) := by
  rw [List.getElem?_toArray]
  unfold rc8
  rw [List.getElem?_map, List.getElem?_range h]; rfl
theorem rc8_set (f : Nat → Int) (k : Nat) (v : Int) : (rc8 f).toArray.setIfInBounds k (.int .i64 v) = (rc8 (upd f k v)).toArray := by
  rw [List.setIfInBounds_toArray]
  congr 1
  apply List.ext_getElem?
  intro m
  rw [List.getElem?_set]
  unfold rc8
  by_cases hm : m < 201
  · rw [List.getElem?_map, List.getElem?_map, List.getElem?_range hm, List.length_map, List.length_range]
    by_cases hk : k = m
    · subst hk; simp [upd, hm]
    · rw [if_neg hk]; simp [upd, Ne.symm hk]
  · rw [List.getElem?_eq_none (by simp; omega), List.getElem?_eq_none (by simp; omega)]
    split
    · rw [if_neg (by simp; omega)]
    · rfl
theorem zero_row8 : Tryd.zeroCells120 = (rc8 (fun _ => 0)).toArray := by kernel_rfl
abbrev Rw8 (w : World) (p : Nat) (f : Nat → Int) : Prop := Blk w p 120 (rc8 f).toArray
theorem Rw8.store {w : World} {p : Nat} {f : Nat → Int} (h : Rw8 w p f) (k : Nat) (v : Int) : Rw8 (w.setCell ⟨p, k, none⟩ (.int .i64 v)) p (upd f k v) := by
  have h2 := Blk.set h k (.int .i64 v)
  rwa [rc8_set] at h2
theorem rc8_congr {f g : Nat → Int} (h : ∀ k, k < 201 → f k = g k) : rc8 f = rc8 g := List.map_congr_left fun k hk => by rw [h k (List.mem_range.1 hk)]
set_option maxRecDepth 100000 in
set_option maxHeartbeats 16000000 in
theorem distance8_any (a b : List Int) (A B : Option Addr) (c d : Nat) (w : World) (hA : Iz w A a) (hB0 : Iz w B b) (ha : Ok8 a) (hb0 : Ok8 b) : Yl 63 #[.slice A a.length c, .slice B b.length d] w (.int .i64 (far8 a b)) := by
  have la := ha.1; have lb := hb0.1
  have HA := Lib.hid hA; have HBB := Lib.hid hB0; have HDA := Lib.hid ha.2; have HDB := Lib.hid hb0.2; have HLA := Lib.hid la; have HLB := Lib.hid lb
  obtain ⟨m, hm⟩ : ∃ m, m = b.length := ⟨_, rfl⟩
  have HM := Lib.hid hm
  rw [← hm]
  have m2 : m ≤ 200 := by omega
  have HM2 := Lib.hid m2
  clear hA hB0 ha hb0 la lb hm m2
  have R_0 : Hid (Rw8 (w.alloc (.cells Tryd.zeroCells120 120)) w.heap.size (fun _ => 0)) := Lib.hid (by have h := Blk.new w 120 Tryd.zeroCells120; rwa [zero_row8] at h)
  have B_0 := Lib.hid ((Below.refl w.heap.size w).alloc (Nat.le_refl _) (.cells Tryd.zeroCells120 120))
  go_enter Tryd.func63, Tryd.ntmps63
  go_wp2_with fail
  go_loopw [16] (fun ii wr => ∃ i : Nat, ii = .int .i64 i ∧ i ≤ m ∧ Rw8 wr w.heap.size (fun k => if k ≤ i then 3 * (k : Int) else 0) ∧ Below w.heap.size w wr) (fun ii _ => m - (intOf ii).toNat)
  case atStart =>
    refine ⟨0, rfl, Nat.zero_le _, ?_, B_0.out⟩
    have h := R_0.out
    unfold Rw8 at h ⊢
    rwa [rc8_congr (g := fun k => if k ≤ 0 then 3 * (k : Int) else 0) (fun k _ => by (try simp only); split <;> omega)] at h
  case round =>
    clear R_0 B_0
    obtain ⟨i, rfl, hi, hR, hB⟩ := hrel
    have HR := Lib.hid hR; have HB := Lib.hid hB; clear hR hB
    by_cases hlt : i < m
    case pos =>
      obtain ⟨i1, hi1⟩ : ∃ i1, i1 = i + 1 := ⟨_, rfl⟩
      have m2 := HM2.out
      have e1 : IntKind.i64.wrap ((i : Int) + 1) = (i1 : Int) := by rw [hi1, show ((i + 1 : Nat) : Int) = (i : Int) + 1 by omega]; exact IntWalk.i64_in _ (by omega)
      have e2 : IntKind.i64.wrap (3 * (i : Int) + 3) = 3 * (i : Int) + 3 := IntWalk.i64_in _ (by omega)
      have z0 := HR.out.cell (i := i) (v := .int .i64 (3 * (i : Int))) (by have h := rc8_at (f := fun k => if k ≤ i then 3 * (k : Int) else 0) (k := i) (by omega); rwa [if_pos (Nat.le_refl _)] at h)
      have z1 := HR.out.cell (i := i1) (v := .int .i64 0) (by have h := rc8_at (f := fun k => if k ≤ i then 3 * (k : Int) else 0) (k := i1) (by omega); rwa [if_neg (by omega)] at h)
      have f1 := HR.out.frozen i1
      have q1 : (0 : Int) ≤ (i : Int) := by omega
      have q2 : (i : Int) < 201 := by omega
      have q3 : (0 : Int) ≤ (i1 : Int) := by omega
      have q4 : (i1 : Int) < 201 := by omega
      have q5 : (i : Int) < (m : Int) := by omega
      have HI := Lib.hid hlt; have HI1 := Lib.hid hi1
      clear hi hlt m2 hi1
      go_wp2_with fail
      clear z0 z1 f1
      go_roundw
      case rel =>
        refine ⟨i + 1, by have := HI1.out; go_num, HI.out, ?_, HB.out.setCell (Nat.le_refl _) _⟩
        have h := Rw8.store HR.out i1 (3 * (i : Int) + 3)
        unfold Rw8 at h ⊢
        rw [rc8_congr (g := fun k => if k ≤ i + 1 then 3 * (k : Int) else 0) (fun k _ => by have := HI1.out; unfold upd; (try simp only); split <;> split <;> (try split) <;> omega)] at h
        exact h
      case measure => have := HI.out; have := HI1.out; simp [intOf]; omega
    case neg =>
      obtain rfl : i = m := by omega
      have s1 : ¬ (i : Int) < (i : Int) := by omega
      have HR0 : Hid (Rw8 wr w.heap.size (fun k => if k ≤ i then dm8 a b 0 k else 0)) := Lib.hid (by
        have h := HR.out
        unfold Rw8 at h ⊢
        rwa [rc8_congr (g := fun k => if k ≤ i then dm8 a b 0 k else 0) (fun k _ => by
          (try simp only)
          split
          · next h2 => rw [dm8_zero a b (by have := HM.out; omega)]
          · rfl)] at h)
      clear HR hlt hi
      obtain ⟨n, hn⟩ : ∃ n, n = a.length := ⟨_, rfl⟩
      have HN := Lib.hid hn
      rw [← hn]
      clear hn
      go_wp2_with fail
      clear s1
      go_loopw [29] (fun jj wq => ∃ j : Nat, jj = .int .i64 j ∧ j ≤ n ∧ Rw8 wq w.heap.size (fun k => if k ≤ i then dm8 a b j k else 0) ∧ Below w.heap.size w wq) (fun jj _ => n - (intOf jj).toNat)
      case atStart => exact ⟨0, rfl, Nat.zero_le _, HR0.out, HB.out⟩
      case round =>
        clear HR0 HB
        obtain ⟨j, rfl, hj, hR, hB⟩ := hrel
        have HR := Lib.hid hR; have HB := Lib.hid hB; clear hR hB
        by_cases hlt : j < n
        case neg =>
          obtain rfl : j = n := by omega
          have s1 : ¬ (j : Int) < (j : Int) := by omega
          have hfv : dm8 a b j i = far8 a b := by rw [HN.out, HM.out]; exact dm8_all a b
          have m2 := HM2.out
          have z0 := HR.out.cell (i := i) (v := .int .i64 (far8 a b)) (by have h := rc8_at (f := fun k => if k ≤ i then dm8 a b j k else 0) (k := i) (by omega); rwa [if_pos (Nat.le_refl _), hfv] at h)
          have q1 : (0 : Int) ≤ (i : Int) := by omega
          have q2 : (i : Int) < 201 := by omega
          clear hlt hj hfv m2
          go_wp2_with fail
          go_ret
          exact ⟨rfl, HB.out⟩
        case pos =>
          obtain ⟨ba, oa, rfl, hbl, hcell⟩ := HA.out (by have := HN.out; omega)
          obtain ⟨x, hx⟩ : ∃ x, x = a[j]'(by have := HN.out; omega) := ⟨_, rfl⟩
          have z0 := (HB.out.cell (p := ⟨ba, oa + j, none⟩) hbl).trans (hcell j (by have := HN.out; omega))
          rw [← hx] at z0
          have hxs : a[j]? = some x := by rw [hx]; exact List.getElem?_eq_getElem _
          have hxd : Dr8 x := HDA.out x (List.mem_of_getElem? hxs)
          have n2 : n ≤ 200 := by have := HN.out; have := HLA.out; omega
          have z1 := HR.out.cell (i := 0) (v := .int .i64 (3 * (j : Int))) (by have h := rc8_at (f := fun k => if k ≤ i then dm8 a b j k else 0) (k := 0) (by omega); rwa [if_pos (Nat.zero_le _), dm8_zero' a b (by have := HN.out; omega)] at h)
          have f1 := HR.out.frozen 0
          have e1 : IntKind.i64.wrap (3 * (j : Int) + 3) = 3 * (j : Int) + 3 := IntWalk.i64_in _ (by omega)
          have q1 : (0 : Int) ≤ (j : Int) := by omega
          have q2 : (j : Int) < (n : Int) := by omega
          have HX := Lib.hid hxs; have HXD := Lib.hid hxd; have HJ := Lib.hid hlt; have HJ2 := Lib.hid n2
          clear hx hxs hxd hbl hcell n2 hlt hj
          go_wp2_with fail
          clear z0 z1 f1
          go_loopw [9, 41] (fun pp kk wz => ∃ k : Nat, kk = .int .i64 k ∧ pp = .int .i64 (dm8 a b j k) ∧ k ≤ i ∧ Rw8 wz w.heap.size (fun q => if q ≤ k then dm8 a b (j + 1) q else if q ≤ i then dm8 a b j q else 0) ∧ Below w.heap.size w wz) (fun _ kk _ => i - (intOf kk).toNat)
          case atStart =>
            refine ⟨0, rfl, ?_, Nat.zero_le _, ?_, HB.out.setCell (Nat.le_refl _) _⟩
            · rw [dm8_zero' a b (by have := HN.out; have := HJ.out; omega)]
            · have h := Rw8.store HR.out 0 (3 * (j : Int) + 3)
              unfold Rw8 at h ⊢
              rw [rc8_congr (g := fun q => if q ≤ 0 then dm8 a b (j + 1) q else if q ≤ i then dm8 a b j q else 0) (fun q _ => by
                unfold upd; (try simp only)
                by_cases hq : q = 0
                · subst hq; rw [if_pos rfl, if_pos (Nat.le_refl _), dm8_zero' a b (by have := HN.out; have := HJ.out; omega)]; omega
                · rw [if_neg hq, if_neg (by omega : ¬ q ≤ 0)])] at h
              exact h
          case round =>
            clear HR HB
            obtain ⟨k, rfl, rfl, hk, hR, hB⟩ := hrel
            rename World => wz
            have HR := Lib.hid hR; have HB := Lib.hid hB; clear hR hB
            by_cases hlt : k < i
            case neg =>
              obtain rfl : k = i := by omega
              have s1 : ¬ (k : Int) < (k : Int) := by omega
              have q5 : (j : Int) ≤ 9223372036854775806 := by have := HJ2.out; omega
              clear hlt hk
              go_wp2_with fail
              go_roundw
              case rel =>
                refine ⟨j + 1, by go_num, HJ.out, ?_, HB.out⟩
                have h := HR.out
                unfold Rw8 at h ⊢
                rwa [rc8_congr (g := fun q => if q ≤ k then dm8 a b (j + 1) q else 0) (fun q _ => by (try simp only); split <;> (try split) <;> first | rfl | omega)] at h
              case measure => have := HJ.out; simp [intOf]; omega
            case pos =>
              obtain ⟨bb, ob, rfl, hbl, hcell⟩ := HBB.out (by have := HM.out; omega)
              obtain ⟨y, hy⟩ : ∃ y, y = b[k]'(by have := HM.out; omega) := ⟨_, rfl⟩
              have z0 := (HB.out.cell (p := ⟨bb, ob + k, none⟩) hbl).trans (hcell k (by have := HM.out; omega))
              rw [← hy] at z0
              have hys : b[k]? = some y := by rw [hy]; exact List.getElem?_eq_getElem _
              have hyd : Dr8 y := HDB.out y (List.mem_of_getElem? hys)
              have hst := dm8_step a b HX.out hys
              have hbd1 := dm8_bd HDA.out HDB.out j k (by have := HJ.out; have := HJ2.out; omega) (by have := HM2.out; omega)
              have hbd2 := dm8_bd HDA.out HDB.out (j + 1) k (by have := HJ.out; have := HJ2.out; omega) (by have := HM2.out; omega)
              have hbd3 := dm8_bd HDA.out HDB.out j (k + 1) (by have := HJ.out; have := HJ2.out; omega) (by have := HM2.out; omega)
              obtain ⟨k1, hk1⟩ : ∃ k1, k1 = k + 1 := ⟨_, rfl⟩
              rw [← hk1] at hst hbd3
              have m2 := HM2.out
              have z1 := HR.out.cell (i := k) (v := .int .i64 (dm8 a b (j + 1) k)) (by have h := rc8_at (f := fun q => if q ≤ k then dm8 a b (j + 1) q else if q ≤ i then dm8 a b j q else 0) (k := k) (by omega); rwa [if_pos (Nat.le_refl _)] at h)
              have z2 := HR.out.cell (i := k1) (v := .int .i64 (dm8 a b j k1)) (by have h := rc8_at (f := fun q => if q ≤ k then dm8 a b (j + 1) q else if q ≤ i then dm8 a b j q else 0) (k := k1) (by omega); rwa [if_neg (by omega), if_pos (by omega)] at h)
              have f2 := HR.out.frozen k1
              have htn := tn8_nn HXD.out hyd
              have HT := Lib.hid (fun W => turn8_any x y W HXD.out hyd)
              obtain ⟨t, ht⟩ : ∃ t, t = tn8 x y := ⟨_, rfl⟩
              rw [← ht] at hst htn HT
              obtain ⟨u, hu⟩ : ∃ u, u = dm8 a b j k := ⟨_, rfl⟩
              obtain ⟨v, hv⟩ : ∃ v, v = dm8 a b (j + 1) k := ⟨_, rfl⟩
              obtain ⟨s, hs⟩ : ∃ s, s = dm8 a b j k1 := ⟨_, rfl⟩
              rw [← hu] at hst hbd1 ⊢
              rw [← hv] at hst hbd2 z1
              rw [← hs] at hst hbd3 z2
              obtain ⟨ex, hex⟩ : ∃ e, e = u + t := ⟨_, rfl⟩
              obtain ⟨mn, hmn⟩ : ∃ e, e = (if s < v then s else v) := ⟨_, rfl⟩
              obtain ⟨ot, hot⟩ : ∃ e, e = mn + 3 := ⟨_, rfl⟩
              obtain ⟨fn, hfn⟩ : ∃ e, e = (if ot < ex then ot else ex) := ⟨_, rfl⟩
              have e1 : IntKind.i64.wrap (u + t) = ex := by rw [hex]; exact IntWalk.i64_in _ (by omega)
              have e2 : IntKind.i64.wrap (mn + 3) = ot := by rw [hot]; exact IntWalk.i64_in _ (by omega)
              have e3 : IntKind.i64.wrap ((k : Int) + 1) = (k1 : Int) := by rw [hk1, show ((k + 1 : Nat) : Int) = (k : Int) + 1 by omega]; exact IntWalk.i64_in _ (by omega)
              have hval : dm8 a b (j + 1) k1 = fn := by rw [hst, hfn, hot, hex, hmn]; omega
              have q1 : (0 : Int) ≤ (k : Int) := by omega
              have q2 : (k : Int) < (i : Int) := by omega
              have q3 : (k : Int) < 201 := by omega
              have q4 : (0 : Int) ≤ (k1 : Int) := by omega
              have q5 : (k1 : Int) < 201 := by omega
              have HMN := Lib.hid hmn; have HFN := Lib.hid hfn; have HV := Lib.hid hval; have HS := Lib.hid hs; have HK := Lib.hid hlt; have HK1 := Lib.hid hk1
              have HZ1 : Hid (∀ W, Below wz.heap.size wz W → W.cell? ⟨w.heap.size, k, none⟩ = some (.int .i64 v) ∧ W.cell? ⟨w.heap.size, k1, none⟩ = some (.int .i64 s)) := Lib.hid (fun W hW => ⟨(hW.cell (p := ⟨w.heap.size, k, none⟩) HR.out.lt).trans z1, (hW.cell (p := ⟨w.heap.size, k1, none⟩) HR.out.lt).trans z2⟩)
              clear hy hys hyd hst hbd1 hbd2 hbd3 hbl hcell htn ht hu hv hs hex hmn hot hfn hval hlt hk1 hk m2 z1 z2 f2
              go_wp2_with fail
              clear z0
              refine wp_region_grow (S := (fun w' => w'.cell? ⟨w.heap.size, k, none⟩ = some (.int .i64 v) ∧ w'.cell? ⟨w.heap.size, k1, none⟩ = some (.int .i64 s))) ((fun w' => Below wz.heap.size wz w')) (by kernel_rfl) (⟨fun w2 h2 => ⟨(HZ1.out _ h2).1, (HZ1.out _ h2).2⟩, fun w2 w3 h2 hb2 => h2.trans (hb2.mono h2.size)⟩) ((Below.refl _ _).drew) (fun hCalm => ?_)
              refine grow_take 0 (some 46) ?_ rfl rfl (by kernel_rfl) (fun _ _ _ h => h) (by kernel_rfl) hCalm ?_ ?_
              rotate_left
              · intro wS hS; (try dsimp only at hS); go_simp <;> with_reducible rfl
              try simp only [Act.put, List.setIfInBounds_toArray, List.set_cons_zero, List.set_cons_succ]
              refine grow_take 1 (some 47) ?_ rfl rfl (by kernel_rfl) (fun _ _ _ h => h) (by kernel_rfl) hCalm ?_ ?_
              rotate_left
              · intro wS hS; (try dsimp only at hS); go_simp <;> with_reducible rfl
              try simp only [Act.put, List.setIfInBounds_toArray, List.set_cons_zero, List.set_cons_succ]
              refine grow_take 2 (some 48) ?_ rfl rfl (by kernel_rfl) (fun _ _ _ h => h) (by kernel_rfl) hCalm ?_ ?_
              rotate_left
              · intro wS hS; (try dsimp only at hS); go_simp <;> with_reducible rfl
              try simp only [Act.put, List.setIfInBounds_toArray, List.set_cons_zero, List.set_cons_succ]
              refine grow_take 5 (some 51) ?_ rfl rfl (by kernel_rfl) (fun _ _ _ h => h) (by kernel_rfl) hCalm ?_ ?_
              rotate_left
              · intro wS hS; (try dsimp only at hS); go_simp <;> with_reducible rfl
              try simp only [Act.put, List.setIfInBounds_toArray, List.set_cons_zero, List.set_cons_succ]
              refine grow_take 6 (some 52) ?_ rfl rfl (by kernel_rfl) (fun _ _ _ h => h) (by kernel_rfl) hCalm ?_ ?_
              rotate_left
              · intro wS hS; (try dsimp only at hS); go_simp <;> with_reducible rfl
              try simp only [Act.put, List.setIfInBounds_toArray, List.set_cons_zero, List.set_cons_succ]
              refine grow_take 7 (some 53) ?_ rfl rfl (by kernel_rfl) (fun _ _ _ h => h) (by kernel_rfl) hCalm ?_ ?_
              rotate_left
              · intro wS hS; (try dsimp only at hS); go_simp <;> with_reducible rfl
              try simp only [Act.put, List.setIfInBounds_toArray, List.set_cons_zero, List.set_cons_succ]
              refine grow_take 8 (some 54) ?_ rfl rfl (by kernel_rfl) (fun _ _ _ h => h) (by kernel_rfl) hCalm ?_ ?_
              rotate_left
              · intro wS hS; (try dsimp only at hS); go_simp <;> with_reducible rfl
              try simp only [Act.put, List.setIfInBounds_toArray, List.set_cons_zero, List.set_cons_succ]
              refine grow_take 9 (some 55) (.int .i64 (k1 : Int)) rfl rfl (by kernel_rfl) (fun _ _ _ h => h) (by kernel_rfl) hCalm ?_ ?_
              · intro wS hS; (try dsimp only at hS); go_simp
                all_goals (rw [e3])
              try simp only [Act.put, List.setIfInBounds_toArray, List.set_cons_zero, List.set_cons_succ]
              refine grow_take 10 (some 56) ?_ rfl rfl (by kernel_rfl) (fun _ _ _ h => h) (by kernel_rfl) hCalm ?_ ?_
              rotate_left
              · intro wS hS; (try dsimp only at hS); go_simp <;> with_reducible rfl
              try simp only [Act.put, List.setIfInBounds_toArray, List.set_cons_zero, List.set_cons_succ]
              refine grow_take 11 (some 57) ?_ rfl rfl (by kernel_rfl) (fun _ _ _ h => h) (by kernel_rfl) hCalm ?_ ?_
              rotate_left
              · intro wS hS; (try dsimp only at hS); go_simp <;> with_reducible rfl
              try simp only [Act.put, List.setIfInBounds_toArray, List.set_cons_zero, List.set_cons_succ]
              refine grow_take 12 (some 58) (.int .i64 mn) rfl rfl (by kernel_rfl) (fun _ _ _ h => h) (by kernel_rfl) hCalm ?_ ?_
              · intro wS hS; (try dsimp only at hS); go_simp
                all_goals (rw [HMN.out])
              try simp only [Act.put, List.setIfInBounds_toArray, List.set_cons_zero, List.set_cons_succ]
              refine grow_take 13 (some 59) (.int .i64 ot) rfl rfl (by kernel_rfl) (fun _ _ _ h => h) (by kernel_rfl) hCalm ?_ ?_
              · intro wS hS; (try dsimp only at hS); go_simp
                all_goals (rw [e2])
              try simp only [Act.put, List.setIfInBounds_toArray, List.set_cons_zero, List.set_cons_succ]
              refine grow_call 3 (some 49) (.int .i64 t) 92 [.tmp 47, .tmp 48] #[3, 3] rfl rfl (by kernel_rfl) (fun _ _ _ h => h) (by kernel_rfl) hCalm rfl (enters_of Tryd.func92 (by kernel_rfl) rfl) (fun wz9 _ => HT.out wz9) (by kernel_rfl) ?_
              try simp only [Act.put, List.setIfInBounds_toArray, List.set_cons_zero, List.set_cons_succ]
              refine grow_take 4 (some 50) (.int .i64 ex) rfl rfl (by kernel_rfl) (fun _ _ _ h => h) (by kernel_rfl) hCalm ?_ ?_
              · intro wS hS; (try dsimp only at hS); go_simp
                all_goals (rw [e1])
              try simp only [Act.put, List.setIfInBounds_toArray, List.set_cons_zero, List.set_cons_succ]
              refine grow_take 14 (some 12) ?_ rfl rfl (by kernel_rfl) (fun _ _ _ h => h) (by kernel_rfl) hCalm ?_ ?_
              rotate_left
              · intro wS hS; (try dsimp only at hS); go_simp <;> with_reducible rfl
              try simp only [Act.put, List.setIfInBounds_toArray, List.set_cons_zero, List.set_cons_succ]
              refine grow_take 15 (some 13) ?_ rfl rfl (by kernel_rfl) (fun _ _ _ h => h) (by kernel_rfl) hCalm ?_ ?_
              rotate_left
              · intro wS hS; (try dsimp only at hS); go_simp <;> with_reducible rfl
              try simp only [Act.put, List.setIfInBounds_toArray, List.set_cons_zero, List.set_cons_succ]
              refine grow_done (by kernel_rfl) (fun wA hA => ?_) _
              have hb := hA; clear hA hCalm
              obtain ⟨v0, hv0⟩ : ∃ x, x = wA := ⟨_, rfl⟩
              rw [← hv0] at hb ⊢
              clear hv0
              have HR2 := Lib.hid (Blk.below HR.out hb HR.out.lt); have HB2 := Lib.hid (HB.out.trans (hb.mono HB.out.size))
              have z2 := (HZ1.out _ hb).2; have f2 := HR2.out.frozen k1
              have hfn2 := HFN.out
              clear hb
              go_wp2_with fail
              all_goals clear z2 f2
              all_goals go_roundw
              case rel =>
                refine ⟨k + 1, by have := HK1.out; go_num, by rw [← HK1.out, ← HS.out], HK.out, ?_, HB2.out.setCell (Nat.le_refl _) _⟩
                have h := Rw8.store HR2.out k1 fn
                unfold Rw8 at h ⊢
                rw [rc8_congr (g := fun q => if q ≤ k + 1 then dm8 a b (j + 1) q else if q ≤ i then dm8 a b j q else 0) (fun q _ => by
                  have h1 := HK1.out
                  unfold upd; (try simp only)
                  by_cases hq : q = k1
                  · subst hq; rw [if_pos rfl, if_pos (by omega), HV.out]
                  · rw [if_neg hq]
                    by_cases hq2 : q ≤ k
                    · rw [if_pos hq2, if_pos (by omega)]
                    · rw [if_neg hq2, if_neg (by omega : ¬ q ≤ k + 1)])] at h
                first | exact h | (rw [HFN.out] at h; exact h)
              case measure => have := HK.out; have := HK1.out; simp [intOf]; omega
set_option maxRecDepth 100000 in
set_option maxHeartbeats 8000000 in
theorem far8_yes (a b : List Int) (A B : Option Addr) (c d : Nat) (w : World) (hA : Iz w A a) (hB0 : Iz w B b) (ha : Ok8 a) (hb0 : Ok8 b) : Yl 29 #[.slice A a.length c, .slice B b.length d] w (.int .i64 (far8 a b)) := by
  have HD1 := Lib.hid (aredirs8_any a A c w hA (by have := ha.1; omega) true ⟨fun _ => ha, fun _ => rfl⟩)
  have HD2 := Lib.hid (fun W (h : Below w.heap.size w W) => aredirs8_any b B d W (hB0.below h (Nat.le_refl _)) (by have := hb0.1; omega) true ⟨fun _ => hb0, fun _ => rfl⟩)
  have HD3 := Lib.hid (fun W (h : Below w.heap.size w W) => distance8_any a b A B c d W (hA.below h (Nat.le_refl _)) (hB0.below h (Nat.le_refl _)) ha hb0)
  clear hA hB0 ha hb0
  generalize far8 a b = f at *
  go_enter Tryd.func29, Tryd.ntmps29
  go_wp2_with fail
  refine HD1.out.mono ?_
  rintro e v0 ⟨rfl, hb1⟩
  go_wp2_with fail
  refine (HD2.out _ hb1).mono ?_
  rintro e v1 ⟨rfl, hb2⟩
  have hb3 := hb1.trans (hb2.mono hb1.size); clear hb1 hb2
  go_wp2_with fail
  refine (HD3.out _ hb3).mono ?_
  rintro e v2 ⟨rfl, hb4⟩
  have hb5 := hb3.trans (hb4.mono hb3.size); clear hb3 hb4
  go_wp2_with fail
  go_ret
  exact ⟨rfl, hb5⟩
set_option maxRecDepth 100000 in
set_option maxHeartbeats 8000000 in
theorem far8_no (a b : List Int) (A B : Option Addr) (c d : Nat) (w : World) (hA : Iz w A a) (hz : a.length ≤ 9000000000000000000) (ha : ¬ Ok8 a) : Yl 29 #[.slice A a.length c, .slice B b.length d] w (.int .i64 (-1)) := by
  have HD1 := Lib.hid (aredirs8_any a A c w hA hz false ⟨fun h => (by cases h), fun h => absurd h ha⟩)
  have hundef := un_none
  clear hA hz ha
  go_enter Tryd.func29, Tryd.ntmps29
  go_wp2_with fail
  refine HD1.out.mono ?_
  rintro e v0 ⟨rfl, hb1⟩
  go_wp2_with fail
  go_ret
  exact ⟨rfl, hb1⟩
end Go.Proofs.YtmjcjaecaigahaaDoor
namespace Go.Proofs.YtmjcjaecaigahaaDoor
open Go.RowKit Go.Lib Go.Shelf

set_option maxRecDepth 100000 in
set_option maxHeartbeats 4000000 in
theorem pvalid_go (P N : Int) (ds : List Dt) (A : Option Addr) (c : Nat) (w : World) (hA : Dz w A ds) (h1 : 0 ≤ P ∧ P ≤ 39) (h2 : 1 ≤ N ∧ N ≤ 999) (h3 : 1 ≤ ds.length ∧ ds.length ≤ 200) :
    Calls Tryd.prog 68 #[.agg #[.int .i64 P, .int .i64 N, .slice A ds.length c]] w fun e w' => e = .returned (.bool (decide (Vd P N ds))) ∧ Below w.heap.size w w' := by
  obtain ⟨b, o, rfl⟩ := hA.some (by omega)
  have HAT := Lib.hid hA.at
  have HC1 := Lib.hid (fun W => pfrom_yes P 0 39 W h1); have HC2 := Lib.hid (fun W => pfrom_yes N 1 999 W h2); have HC3 := Lib.hid (fun W => pfrom_yes (ds.length : Nat) 1 200 W (by omega))
  have HV : Hid (∀ v, (v = true ↔ ∀ i, i < ds.length → OkAt ds i) → v = decide (Vd P N ds)) := Lib.hid (fun v hv => by
    by_cases h : Vd P N ds
    · rw [decide_eq_true h]; exact hv.2 h.2.2.2
    · rw [decide_eq_false h]
      cases v with
      | false => rfl
      | true => exact absurd ⟨h1, h2, h3, hv.1 rfl⟩ h)
  have HBAD : Hid (∀ i, i < ds.length → ¬ OkAt ds i → decide (Vd P N ds) = false) := Lib.hid (fun i hi hn => (HV.out false ⟨fun h => (by cases h), fun h => absurd (h i hi) hn⟩).symm)
  have hl2 : ds.length ≤ 200 := h3.2
  clear hA h1 h2 h3
  have S_0 : Hid (Blk (w.alloc (.cells #[.int .i64 P, .int .i64 N, .slice (some ⟨b, o, none⟩) ds.length c] 26)) w.heap.size 26 #[.int .i64 P, .int .i64 N, .slice (some ⟨b, o, none⟩) ds.length c]) := allocs_blk [(#[.int .i64 P, .int .i64 N, .slice (some ⟨b, o, none⟩) ds.length c], 26)] w 0 _ rfl
  have HB_0 : Hid (Below w.heap.size w (w.alloc (.cells #[.int .i64 P, .int .i64 N, .slice (some ⟨b, o, none⟩) ds.length c] 26))) := allocs_below [(#[.int .i64 P, .int .i64 N, .slice (some ⟨b, o, none⟩) ds.length c], 26)] w (Below.refl w.heap.size w) (Nat.le_refl _)
  go_enter Tryd.func68, Tryd.ntmps68
  have yy0 := S_0.out.cell (i := 0) (v := .int .i64 P) rfl; have yy1 := S_0.out.cell (i := 1) (v := .int .i64 N) rfl; have yy2 := S_0.out.cell (i := 2) (v := .slice (some ⟨b, o, none⟩) ds.length c) rfl
  go_wp2_with fail
  refine (HC1.out _).mono ?_
  rintro e v0 ⟨rfl, hb⟩
  clear yy0 yy1 yy2
  have S_1 : Hid (Blk v0 w.heap.size 26 #[.int .i64 P, .int .i64 N, .slice (some ⟨b, o, none⟩) ds.length c]) := Lib.hid (S_0.out.below hb S_0.out.lt)
  have HB_1 : Hid (Below w.heap.size w v0) := Lib.hid (HB_0.out.trans (hb.mono HB_0.out.size))
  clear hb S_0 HB_0
  have yy0 := S_1.out.cell (i := 0) (v := .int .i64 P) rfl; have yy1 := S_1.out.cell (i := 1) (v := .int .i64 N) rfl; have yy2 := S_1.out.cell (i := 2) (v := .slice (some ⟨b, o, none⟩) ds.length c) rfl
  go_wp2_with fail
  refine (HC2.out _).mono ?_
  rintro e v1 ⟨rfl, hb⟩
  clear yy0 yy1 yy2
  have S_2 : Hid (Blk v1 w.heap.size 26 #[.int .i64 P, .int .i64 N, .slice (some ⟨b, o, none⟩) ds.length c]) := Lib.hid (S_1.out.below hb S_1.out.lt)
  have HB_2 : Hid (Below w.heap.size w v1) := Lib.hid (HB_1.out.trans (hb.mono HB_1.out.size))
  clear hb S_1 HB_1
  have yy0 := S_2.out.cell (i := 0) (v := .int .i64 P) rfl; have yy1 := S_2.out.cell (i := 1) (v := .int .i64 N) rfl; have yy2 := S_2.out.cell (i := 2) (v := .slice (some ⟨b, o, none⟩) ds.length c) rfl
  go_wp2_with fail
  refine (HC3.out _).mono ?_
  rintro e v2 ⟨rfl, hb⟩
  clear yy0 yy1 yy2
  have S_3 : Hid (Blk v2 w.heap.size 26 #[.int .i64 P, .int .i64 N, .slice (some ⟨b, o, none⟩) ds.length c]) := Lib.hid (S_2.out.below hb S_2.out.lt)
  have HB_3 : Hid (Below w.heap.size w v2) := Lib.hid (HB_2.out.trans (hb.mono HB_2.out.size))
  clear hb S_2 HB_2
  have yy0 := S_3.out.cell (i := 0) (v := .int .i64 P) rfl; have yy1 := S_3.out.cell (i := 1) (v := .int .i64 N) rfl; have yy2 := S_3.out.cell (i := 2) (v := .slice (some ⟨b, o, none⟩) ds.length c) rfl
  go_wp2_with fail
  clear yy0 yy1 yy2
  go_loopw [3, 26] (fun ee ii wr => ∃ (i : Nat) (e0 : Int), ee = .int .i64 e0 ∧ ii = .int .i64 i ∧ i ≤ ds.length ∧ 0 ≤ e0 ∧ (i = 0 → e0 = 0) ∧ (0 < i → ∀ d, ds[i - 1]? = some d → e0 = d.t) ∧ (∀ j, j < i → OkAt ds j) ∧ Below w.heap.size w wr) (fun _ ii _ => ds.length - (intOf ii).toNat)
  case atStart => exact ⟨0, 0, rfl, rfl, Nat.zero_le _, Int.le_refl _, fun _ => rfl, fun h => absurd h (by omega), fun j hj => absurd hj (by omega), HB_3.out⟩
  case round =>
    obtain ⟨i, e0, rfl, rfl, hi, h0, hz0, hp0, hok, hb⟩ := hrel
    have HOK := Lib.hid hok; clear hok
    clear HB_3 S_3
    have HB_3 := Lib.hid hb; clear hb
    by_cases hlt : i < ds.length
    case neg =>
      have HT := Lib.hid (HV.out true ⟨fun _ j hj => HOK.out j (by omega), fun _ => rfl⟩)
      clear hz0 hp0
      go_wp2_with fail
      go_ret
      exact ⟨by rw [← HT.out]; rfl, HB_3.out⟩
    case pos =>
      have hil : OkAt ds i ↔ OnP ds[i].x ds[i].y ∧ (e0 ≤ ds[i].t ∧ ds[i].t ≤ 1000000) ∧ (0 ≤ ds[i].p ∧ ds[i].p ≤ 100) := by
        rw [okAt_iff hlt]
        unfold Dt.ok OnP
        by_cases h5 : 0 < i
        · have h6 := hp0 h5 _ (List.getElem?_eq_getElem (by omega))
          refine ⟨fun h => ?_, fun h => ⟨?_, fun _ => ?_⟩⟩
          · have := h.2 h5; omega
          · omega
          · omega
        · have h6 := hz0 (by omega)
          refine ⟨fun h => ?_, fun h => ⟨?_, fun h7 => absurd h7 h5⟩⟩
          · omega
          · omega
      obtain ⟨k0, k1, k2, k3⟩ := HAT.out wr HB_3.out i hlt
      obtain ⟨x, hx⟩ : ∃ x, x = ds[i].x := ⟨_, rfl⟩
      obtain ⟨y, hy⟩ : ∃ y, y = ds[i].y := ⟨_, rfl⟩
      obtain ⟨t, ht⟩ : ∃ t, t = ds[i].t := ⟨_, rfl⟩
      obtain ⟨p, hp⟩ : ∃ p, p = ds[i].p := ⟨_, rfl⟩
      have HTT : Hid (∀ d, ds[i]? = some d → t = d.t) := Lib.hid (fun d hd => by rw [List.getElem?_eq_getElem hlt, Option.some.injEq] at hd; rw [ht, hd])
      rw [← hx] at k0; rw [← hy] at k1; rw [← ht] at k2; rw [← hp] at k3
      rw [← hx, ← hy, ← ht, ← hp] at hil
      have HIL := Lib.hid hil
      have H0 := Lib.hid h0
      clear hx hy ht hp hil hz0 hp0
      have q1 : (0 : Int) ≤ (i : Int) := by omega
      have q2 : (i : Int) < (ds.length : Int) := by omega
      have HI := Lib.hid (And.intro hi hlt)
      have HPL := Lib.hid (fun W => pplace_any x y t p W)
      clear hi hlt h0
      have HB_4 : Hid (Below w.heap.size w (wr.alloc (.cells #[.int .i64 x, .int .i64 y, .int .i64 t, .int .i64 p] 69))) := Lib.hid (HB_3.out.alloc HB_3.out.size _)
      have HBS : Hid (Below wr.heap.size wr (wr.alloc (.cells #[.int .i64 x, .int .i64 y, .int .i64 t, .int .i64 p] 69))) := Lib.hid ((Below.refl _ _).alloc (Nat.le_refl _) _)
      have D_4 : Hid (Blk (wr.alloc (.cells #[.int .i64 x, .int .i64 y, .int .i64 t, .int .i64 p] 69)) wr.heap.size 69 #[.int .i64 x, .int .i64 y, .int .i64 t, .int .i64 p]) := Lib.hid (Blk.new wr _ _)
      clear HB_3
      by_cases c1 : OnP x y
      case neg =>
        have HNO : Hid (¬ OkAt ds i) := Lib.hid (fun h => c1 (HIL.out.1 h).1); have HC4 := Lib.hid (fun W => pon_not x y W c1); clear c1
        have yy0 := D_4.out.cell (i := 0) (v := .int .i64 x) rfl; have yy1 := D_4.out.cell (i := 1) (v := .int .i64 y) rfl; have yy2 := D_4.out.cell (i := 2) (v := .int .i64 t) rfl; have yy3 := D_4.out.cell (i := 3) (v := .int .i64 p) rfl
        go_wp2_with fail
        refine (HPL.out _).mono ?_
        rintro e v4 ⟨rfl, hb⟩
        clear yy0 yy1 yy2 yy3
        have D_5 : Hid (Blk v4 wr.heap.size 69 #[.int .i64 x, .int .i64 y, .int .i64 t, .int .i64 p]) := Lib.hid (D_4.out.below hb D_4.out.lt)
        have HB_5 : Hid (Below w.heap.size w v4) := Lib.hid (HB_4.out.trans (hb.mono HB_4.out.size))
        clear hb D_4 HB_4
        clear k0 k1 k2 k3
        have yy0 := D_5.out.cell (i := 0) (v := .int .i64 x) rfl; have yy1 := D_5.out.cell (i := 1) (v := .int .i64 y) rfl; have yy2 := D_5.out.cell (i := 2) (v := .int .i64 t) rfl; have yy3 := D_5.out.cell (i := 3) (v := .int .i64 p) rfl
        go_wp2_with fail
        refine (HC4.out _).mono ?_
        rintro e v5 ⟨rfl, hb⟩
        clear yy0 yy1 yy2 yy3
        have D_6 : Hid (Blk v5 wr.heap.size 69 #[.int .i64 x, .int .i64 y, .int .i64 t, .int .i64 p]) := Lib.hid (D_5.out.below hb D_5.out.lt)
        have HB_6 : Hid (Below w.heap.size w v5) := Lib.hid (HB_5.out.trans (hb.mono HB_5.out.size))
        clear hb D_5 HB_5
        have HN := Lib.hid (HBAD.out i HI.out.2 HNO.out)
        have hundef := un_none
        go_wp2_with fail
        go_ret
        exact ⟨by rw [HN.out]; rfl, HB_6.out⟩
      case pos =>
        have HC4 := Lib.hid (fun W => pon_yes x y W c1); have C1 := Lib.hid c1; clear c1
        by_cases c2 : e0 ≤ t ∧ t ≤ 1000000
        case neg =>
          have HNO : Hid (¬ OkAt ds i) := Lib.hid (fun h => c2 (HIL.out.1 h).2.1); have HC5 := Lib.hid (fun W => pfrom_not t e0 1000000 W c2); clear c2
          have yy0 := D_4.out.cell (i := 0) (v := .int .i64 x) rfl; have yy1 := D_4.out.cell (i := 1) (v := .int .i64 y) rfl; have yy2 := D_4.out.cell (i := 2) (v := .int .i64 t) rfl; have yy3 := D_4.out.cell (i := 3) (v := .int .i64 p) rfl
          go_wp2_with fail
          refine (HPL.out _).mono ?_
          rintro e v4 ⟨rfl, hb⟩
          clear yy0 yy1 yy2 yy3
          have D_5 : Hid (Blk v4 wr.heap.size 69 #[.int .i64 x, .int .i64 y, .int .i64 t, .int .i64 p]) := Lib.hid (D_4.out.below hb D_4.out.lt)
          have HB_5 : Hid (Below w.heap.size w v4) := Lib.hid (HB_4.out.trans (hb.mono HB_4.out.size))
          clear hb D_4 HB_4
          clear k0 k1 k2 k3
          have yy0 := D_5.out.cell (i := 0) (v := .int .i64 x) rfl; have yy1 := D_5.out.cell (i := 1) (v := .int .i64 y) rfl; have yy2 := D_5.out.cell (i := 2) (v := .int .i64 t) rfl; have yy3 := D_5.out.cell (i := 3) (v := .int .i64 p) rfl
          go_wp2_with fail
          refine (HC4.out _).mono ?_
          rintro e v5 ⟨rfl, hb⟩
          clear yy0 yy1 yy2 yy3
          have D_6 : Hid (Blk v5 wr.heap.size 69 #[.int .i64 x, .int .i64 y, .int .i64 t, .int .i64 p]) := Lib.hid (D_5.out.below hb D_5.out.lt)
          have HB_6 : Hid (Below w.heap.size w v5) := Lib.hid (HB_5.out.trans (hb.mono HB_5.out.size))
          clear hb D_5 HB_5
          have yy0 := D_6.out.cell (i := 0) (v := .int .i64 x) rfl; have yy1 := D_6.out.cell (i := 1) (v := .int .i64 y) rfl; have yy2 := D_6.out.cell (i := 2) (v := .int .i64 t) rfl; have yy3 := D_6.out.cell (i := 3) (v := .int .i64 p) rfl
          go_wp2_with fail
          refine (HC5.out _).mono ?_
          rintro e v6 ⟨rfl, hb⟩
          clear yy0 yy1 yy2 yy3
          have D_7 : Hid (Blk v6 wr.heap.size 69 #[.int .i64 x, .int .i64 y, .int .i64 t, .int .i64 p]) := Lib.hid (D_6.out.below hb D_6.out.lt)
          have HB_7 : Hid (Below w.heap.size w v6) := Lib.hid (HB_6.out.trans (hb.mono HB_6.out.size))
          clear hb D_6 HB_6
          have HN := Lib.hid (HBAD.out i HI.out.2 HNO.out)
          have hundef := un_none
          go_wp2_with fail
          go_ret
          exact ⟨by rw [HN.out]; rfl, HB_7.out⟩
        case pos =>
          have HC5 := Lib.hid (fun W => pfrom_yes t e0 1000000 W c2); have C2 := Lib.hid c2; clear c2
          by_cases c3 : 0 ≤ p ∧ p ≤ 100
          case neg =>
            have HNO : Hid (¬ OkAt ds i) := Lib.hid (fun h => c3 (HIL.out.1 h).2.2); have HC6 := Lib.hid (fun W => pfrom_not p 0 100 W c3); clear c3
            have yy0 := D_4.out.cell (i := 0) (v := .int .i64 x) rfl; have yy1 := D_4.out.cell (i := 1) (v := .int .i64 y) rfl; have yy2 := D_4.out.cell (i := 2) (v := .int .i64 t) rfl; have yy3 := D_4.out.cell (i := 3) (v := .int .i64 p) rfl
            go_wp2_with fail
            refine (HPL.out _).mono ?_
            rintro e v4 ⟨rfl, hb⟩
            clear yy0 yy1 yy2 yy3
            have D_5 : Hid (Blk v4 wr.heap.size 69 #[.int .i64 x, .int .i64 y, .int .i64 t, .int .i64 p]) := Lib.hid (D_4.out.below hb D_4.out.lt)
            have HB_5 : Hid (Below w.heap.size w v4) := Lib.hid (HB_4.out.trans (hb.mono HB_4.out.size))
            clear hb D_4 HB_4
            clear k0 k1 k2 k3
            have yy0 := D_5.out.cell (i := 0) (v := .int .i64 x) rfl; have yy1 := D_5.out.cell (i := 1) (v := .int .i64 y) rfl; have yy2 := D_5.out.cell (i := 2) (v := .int .i64 t) rfl; have yy3 := D_5.out.cell (i := 3) (v := .int .i64 p) rfl
            go_wp2_with fail
            refine (HC4.out _).mono ?_
            rintro e v5 ⟨rfl, hb⟩
            clear yy0 yy1 yy2 yy3
            have D_6 : Hid (Blk v5 wr.heap.size 69 #[.int .i64 x, .int .i64 y, .int .i64 t, .int .i64 p]) := Lib.hid (D_5.out.below hb D_5.out.lt)
            have HB_6 : Hid (Below w.heap.size w v5) := Lib.hid (HB_5.out.trans (hb.mono HB_5.out.size))
            clear hb D_5 HB_5
            have yy0 := D_6.out.cell (i := 0) (v := .int .i64 x) rfl; have yy1 := D_6.out.cell (i := 1) (v := .int .i64 y) rfl; have yy2 := D_6.out.cell (i := 2) (v := .int .i64 t) rfl; have yy3 := D_6.out.cell (i := 3) (v := .int .i64 p) rfl
            go_wp2_with fail
            refine (HC5.out _).mono ?_
            rintro e v6 ⟨rfl, hb⟩
            clear yy0 yy1 yy2 yy3
            have D_7 : Hid (Blk v6 wr.heap.size 69 #[.int .i64 x, .int .i64 y, .int .i64 t, .int .i64 p]) := Lib.hid (D_6.out.below hb D_6.out.lt)
            have HB_7 : Hid (Below w.heap.size w v6) := Lib.hid (HB_6.out.trans (hb.mono HB_6.out.size))
            clear hb D_6 HB_6
            have yy0 := D_7.out.cell (i := 0) (v := .int .i64 x) rfl; have yy1 := D_7.out.cell (i := 1) (v := .int .i64 y) rfl; have yy2 := D_7.out.cell (i := 2) (v := .int .i64 t) rfl; have yy3 := D_7.out.cell (i := 3) (v := .int .i64 p) rfl
            go_wp2_with fail
            refine (HC6.out _).mono ?_
            rintro e v7 ⟨rfl, hb⟩
            clear yy0 yy1 yy2 yy3
            have D_8 : Hid (Blk v7 wr.heap.size 69 #[.int .i64 x, .int .i64 y, .int .i64 t, .int .i64 p]) := Lib.hid (D_7.out.below hb D_7.out.lt)
            have HB_8 : Hid (Below w.heap.size w v7) := Lib.hid (HB_7.out.trans (hb.mono HB_7.out.size))
            clear hb D_7 HB_7
            have HN := Lib.hid (HBAD.out i HI.out.2 HNO.out)
            have hundef := un_none
            go_wp2_with fail
            go_ret
            exact ⟨by rw [HN.out]; rfl, HB_8.out⟩
          case pos =>
            have HNO : Hid (OkAt ds i) := Lib.hid (HIL.out.2 ⟨C1.out, C2.out, c3⟩); have HC6 := Lib.hid (fun W => pfrom_yes p 0 100 W c3); clear c3
            have yy0 := D_4.out.cell (i := 0) (v := .int .i64 x) rfl; have yy1 := D_4.out.cell (i := 1) (v := .int .i64 y) rfl; have yy2 := D_4.out.cell (i := 2) (v := .int .i64 t) rfl; have yy3 := D_4.out.cell (i := 3) (v := .int .i64 p) rfl
            go_wp2_with fail
            refine (HPL.out _).mono ?_
            rintro e v4 ⟨rfl, hb⟩
            clear yy0 yy1 yy2 yy3
            have D_5 : Hid (Blk v4 wr.heap.size 69 #[.int .i64 x, .int .i64 y, .int .i64 t, .int .i64 p]) := Lib.hid (D_4.out.below hb D_4.out.lt)
            have HB_5 : Hid (Below w.heap.size w v4) := Lib.hid (HB_4.out.trans (hb.mono HB_4.out.size))
            clear hb D_4 HB_4
            clear k0 k1 k2 k3
            have yy0 := D_5.out.cell (i := 0) (v := .int .i64 x) rfl; have yy1 := D_5.out.cell (i := 1) (v := .int .i64 y) rfl; have yy2 := D_5.out.cell (i := 2) (v := .int .i64 t) rfl; have yy3 := D_5.out.cell (i := 3) (v := .int .i64 p) rfl
            go_wp2_with fail
            refine (HC4.out _).mono ?_
            rintro e v5 ⟨rfl, hb⟩
            clear yy0 yy1 yy2 yy3
            have D_6 : Hid (Blk v5 wr.heap.size 69 #[.int .i64 x, .int .i64 y, .int .i64 t, .int .i64 p]) := Lib.hid (D_5.out.below hb D_5.out.lt)
            have HB_6 : Hid (Below w.heap.size w v5) := Lib.hid (HB_5.out.trans (hb.mono HB_5.out.size))
            clear hb D_5 HB_5
            have yy0 := D_6.out.cell (i := 0) (v := .int .i64 x) rfl; have yy1 := D_6.out.cell (i := 1) (v := .int .i64 y) rfl; have yy2 := D_6.out.cell (i := 2) (v := .int .i64 t) rfl; have yy3 := D_6.out.cell (i := 3) (v := .int .i64 p) rfl
            go_wp2_with fail
            refine (HC5.out _).mono ?_
            rintro e v6 ⟨rfl, hb⟩
            clear yy0 yy1 yy2 yy3
            have D_7 : Hid (Blk v6 wr.heap.size 69 #[.int .i64 x, .int .i64 y, .int .i64 t, .int .i64 p]) := Lib.hid (D_6.out.below hb D_6.out.lt)
            have HB_7 : Hid (Below w.heap.size w v6) := Lib.hid (HB_6.out.trans (hb.mono HB_6.out.size))
            clear hb D_6 HB_6
            have yy0 := D_7.out.cell (i := 0) (v := .int .i64 x) rfl; have yy1 := D_7.out.cell (i := 1) (v := .int .i64 y) rfl; have yy2 := D_7.out.cell (i := 2) (v := .int .i64 t) rfl; have yy3 := D_7.out.cell (i := 3) (v := .int .i64 p) rfl
            go_wp2_with fail
            refine (HC6.out _).mono ?_
            rintro e v7 ⟨rfl, hb⟩
            clear yy0 yy1 yy2 yy3
            have D_8 : Hid (Blk v7 wr.heap.size 69 #[.int .i64 x, .int .i64 y, .int .i64 t, .int .i64 p]) := Lib.hid (D_7.out.below hb D_7.out.lt)
            have HB_8 : Hid (Below w.heap.size w v7) := Lib.hid (HB_7.out.trans (hb.mono HB_7.out.size))
            clear hb D_7 HB_7
            have yy0 := D_8.out.cell (i := 0) (v := .int .i64 x) rfl; have yy1 := D_8.out.cell (i := 1) (v := .int .i64 y) rfl; have yy2 := D_8.out.cell (i := 2) (v := .int .i64 t) rfl; have yy3 := D_8.out.cell (i := 3) (v := .int .i64 p) rfl
            have q5 : (i : Int) + 1 ≤ 9223372036854775807 := by have := HI.out.2; omega
            go_wp2_with fail
            go_roundw
            case rel => exact ⟨i + 1, t, rfl, by go_num, by have := HI.out; omega, by have := C2.out; have := H0.out; omega, fun h => absurd h (by omega), fun _ d hd => HTT.out d hd, fun j hj => by
              by_cases hji : j = i
              · rw [hji]; exact HNO.out
              · exact HOK.out j (by omega), HB_8.out⟩
            case measure => have := HI.out.2; simp [intOf]; omega
set_option maxRecDepth 100000 in
set_option maxHeartbeats 4000000 in
theorem pvalid_any (P N : Int) (ds : List Dt) (A : Option Addr) (c : Nat) (w : World) (hA : Dz w A ds) (hz : ds.length ≤ 9000000000000000000) :
    Calls Tryd.prog 68 #[.agg #[.int .i64 P, .int .i64 N, .slice A ds.length c]] w fun e w' => e = .returned (.bool (decide (Vd P N ds))) ∧ Below w.heap.size w w' := by
  by_cases h0 : 0 ≤ P ∧ P ≤ 39
  case neg =>
    have HN : Hid (decide (Vd P N ds) = false) := Lib.hid (decide_eq_false fun h => h0 h.1)
    have HC0 := Lib.hid (fun W => pfrom_not P 0 39 W (by omega))
    clear hA hz
    clear h0
    have S_0 : Hid (Blk (w.alloc (.cells #[.int .i64 P, .int .i64 N, .slice A ds.length c] 26)) w.heap.size 26 #[.int .i64 P, .int .i64 N, .slice A ds.length c]) := allocs_blk [(#[.int .i64 P, .int .i64 N, .slice A ds.length c], 26)] w 0 _ rfl
    have HB_0 : Hid (Below w.heap.size w (w.alloc (.cells #[.int .i64 P, .int .i64 N, .slice A ds.length c] 26))) := allocs_below [(#[.int .i64 P, .int .i64 N, .slice A ds.length c], 26)] w (Below.refl w.heap.size w) (Nat.le_refl _)
    go_enter Tryd.func68, Tryd.ntmps68
    have yy0 := S_0.out.cell (i := 0) (v := .int .i64 P) rfl; have yy1 := S_0.out.cell (i := 1) (v := .int .i64 N) rfl; have yy2 := S_0.out.cell (i := 2) (v := .slice A ds.length c) rfl
    go_wp2_with fail
    refine (HC0.out _).mono ?_
    rintro e v0 ⟨rfl, hb⟩
    clear yy0 yy1 yy2
    have S_1 : Hid (Blk v0 w.heap.size 26 #[.int .i64 P, .int .i64 N, .slice A ds.length c]) := Lib.hid (S_0.out.below hb S_0.out.lt)
    have HB_1 : Hid (Below w.heap.size w v0) := Lib.hid (HB_0.out.trans (hb.mono HB_0.out.size))
    clear hb S_0 HB_0
    have hundef := un_none
    go_wp2_with fail
    go_ret
    exact ⟨by rw [HN.out]; rfl, HB_1.out⟩
  case pos =>
    by_cases h1 : 1 ≤ N ∧ N ≤ 999
    case neg =>
      have HN : Hid (decide (Vd P N ds) = false) := Lib.hid (decide_eq_false fun h => h1 h.2.1)
      have HC0 := Lib.hid (fun W => pfrom_yes P 0 39 W h0)
      have HC1 := Lib.hid (fun W => pfrom_not N 1 999 W (by omega))
      clear hA hz
      clear h0 h1
      have S_0 : Hid (Blk (w.alloc (.cells #[.int .i64 P, .int .i64 N, .slice A ds.length c] 26)) w.heap.size 26 #[.int .i64 P, .int .i64 N, .slice A ds.length c]) := allocs_blk [(#[.int .i64 P, .int .i64 N, .slice A ds.length c], 26)] w 0 _ rfl
      have HB_0 : Hid (Below w.heap.size w (w.alloc (.cells #[.int .i64 P, .int .i64 N, .slice A ds.length c] 26))) := allocs_below [(#[.int .i64 P, .int .i64 N, .slice A ds.length c], 26)] w (Below.refl w.heap.size w) (Nat.le_refl _)
      go_enter Tryd.func68, Tryd.ntmps68
      have yy0 := S_0.out.cell (i := 0) (v := .int .i64 P) rfl; have yy1 := S_0.out.cell (i := 1) (v := .int .i64 N) rfl; have yy2 := S_0.out.cell (i := 2) (v := .slice A ds.length c) rfl
      go_wp2_with fail
      refine (HC0.out _).mono ?_
      rintro e v0 ⟨rfl, hb⟩
      clear yy0 yy1 yy2
      have S_1 : Hid (Blk v0 w.heap.size 26 #[.int .i64 P, .int .i64 N, .slice A ds.length c]) := Lib.hid (S_0.out.below hb S_0.out.lt)
      have HB_1 : Hid (Below w.heap.size w v0) := Lib.hid (HB_0.out.trans (hb.mono HB_0.out.size))
      clear hb S_0 HB_0
      have yy0 := S_1.out.cell (i := 0) (v := .int .i64 P) rfl; have yy1 := S_1.out.cell (i := 1) (v := .int .i64 N) rfl; have yy2 := S_1.out.cell (i := 2) (v := .slice A ds.length c) rfl
      go_wp2_with fail
      refine (HC1.out _).mono ?_
      rintro e v1 ⟨rfl, hb⟩
      clear yy0 yy1 yy2
      have S_2 : Hid (Blk v1 w.heap.size 26 #[.int .i64 P, .int .i64 N, .slice A ds.length c]) := Lib.hid (S_1.out.below hb S_1.out.lt)
      have HB_2 : Hid (Below w.heap.size w v1) := Lib.hid (HB_1.out.trans (hb.mono HB_1.out.size))
      clear hb S_1 HB_1
      have hundef := un_none
      go_wp2_with fail
      go_ret
      exact ⟨by rw [HN.out]; rfl, HB_2.out⟩
    case pos =>
      by_cases h2 : 1 ≤ ds.length ∧ ds.length ≤ 200
      case neg =>
        have HN : Hid (decide (Vd P N ds) = false) := Lib.hid (decide_eq_false fun h => h2 h.2.2.1)
        have HC0 := Lib.hid (fun W => pfrom_yes P 0 39 W h0)
        have HC1 := Lib.hid (fun W => pfrom_yes N 1 999 W h1)
        have HC2 := Lib.hid (fun W => pfrom_not (ds.length : Nat) 1 200 W (by omega))
        clear hA hz
        clear h0 h1 h2
        have S_0 : Hid (Blk (w.alloc (.cells #[.int .i64 P, .int .i64 N, .slice A ds.length c] 26)) w.heap.size 26 #[.int .i64 P, .int .i64 N, .slice A ds.length c]) := allocs_blk [(#[.int .i64 P, .int .i64 N, .slice A ds.length c], 26)] w 0 _ rfl
        have HB_0 : Hid (Below w.heap.size w (w.alloc (.cells #[.int .i64 P, .int .i64 N, .slice A ds.length c] 26))) := allocs_below [(#[.int .i64 P, .int .i64 N, .slice A ds.length c], 26)] w (Below.refl w.heap.size w) (Nat.le_refl _)
        go_enter Tryd.func68, Tryd.ntmps68
        have yy0 := S_0.out.cell (i := 0) (v := .int .i64 P) rfl; have yy1 := S_0.out.cell (i := 1) (v := .int .i64 N) rfl; have yy2 := S_0.out.cell (i := 2) (v := .slice A ds.length c) rfl
        go_wp2_with fail
        refine (HC0.out _).mono ?_
        rintro e v0 ⟨rfl, hb⟩
        clear yy0 yy1 yy2
        have S_1 : Hid (Blk v0 w.heap.size 26 #[.int .i64 P, .int .i64 N, .slice A ds.length c]) := Lib.hid (S_0.out.below hb S_0.out.lt)
        have HB_1 : Hid (Below w.heap.size w v0) := Lib.hid (HB_0.out.trans (hb.mono HB_0.out.size))
        clear hb S_0 HB_0
        have yy0 := S_1.out.cell (i := 0) (v := .int .i64 P) rfl; have yy1 := S_1.out.cell (i := 1) (v := .int .i64 N) rfl; have yy2 := S_1.out.cell (i := 2) (v := .slice A ds.length c) rfl
        go_wp2_with fail
        refine (HC1.out _).mono ?_
        rintro e v1 ⟨rfl, hb⟩
        clear yy0 yy1 yy2
        have S_2 : Hid (Blk v1 w.heap.size 26 #[.int .i64 P, .int .i64 N, .slice A ds.length c]) := Lib.hid (S_1.out.below hb S_1.out.lt)
        have HB_2 : Hid (Below w.heap.size w v1) := Lib.hid (HB_1.out.trans (hb.mono HB_1.out.size))
        clear hb S_1 HB_1
        have yy0 := S_2.out.cell (i := 0) (v := .int .i64 P) rfl; have yy1 := S_2.out.cell (i := 1) (v := .int .i64 N) rfl; have yy2 := S_2.out.cell (i := 2) (v := .slice A ds.length c) rfl
        go_wp2_with fail
        refine (HC2.out _).mono ?_
        rintro e v2 ⟨rfl, hb⟩
        clear yy0 yy1 yy2
        have S_3 : Hid (Blk v2 w.heap.size 26 #[.int .i64 P, .int .i64 N, .slice A ds.length c]) := Lib.hid (S_2.out.below hb S_2.out.lt)
        have HB_3 : Hid (Below w.heap.size w v2) := Lib.hid (HB_2.out.trans (hb.mono HB_2.out.size))
        clear hb S_2 HB_2
        have hundef := un_none
        go_wp2_with fail
        go_ret
        exact ⟨by rw [HN.out]; rfl, HB_3.out⟩
      case pos =>
        exact pvalid_go P N ds A c w hA h0 h1 h2
theorem pvalid_yes (P N : Int) (ds : List Dt) (A : Option Addr) (c : Nat) (w : World) (hA : Dz w A ds) (hz : ds.length ≤ 9000000000000000000) (hv : Vd P N ds) :
    Calls Tryd.prog 68 #[.agg #[.int .i64 P, .int .i64 N, .slice A ds.length c]] w fun e w' => e = .returned (.bool true) ∧ Below w.heap.size w w' := by
  have := pvalid_any P N ds A c w hA hz
  rwa [decide_eq_true hv] at this
theorem pvalid_not (P N : Int) (ds : List Dt) (A : Option Addr) (c : Nat) (w : World) (hA : Dz w A ds) (hz : ds.length ≤ 9000000000000000000) (hv : ¬ Vd P N ds) :
    Calls Tryd.prog 68 #[.agg #[.int .i64 P, .int .i64 N, .slice A ds.length c]] w fun e w' => e = .returned (.bool false) ∧ Below w.heap.size w w' := by
  have := pvalid_any P N ds A c w hA hz
  rwa [decide_eq_false hv] at this
end Go.Proofs.YtmjcjaecaigahaaDoor
