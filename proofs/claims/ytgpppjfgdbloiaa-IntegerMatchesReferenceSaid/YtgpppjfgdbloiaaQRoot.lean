/- The contract of the reference's Root. Condition: the string's length is an int. -/
import Derived.Test.YtgpppjfgdbloiaaQTrimd
import Derived.Test.YtgpppjfgdbloiaaQSum
namespace Go.Proofs.Ytgpppjfgdbloiaa
open Go.RowKit Go.Lib

/-- A number whose digits below a place are zero, and the digit there given. -/
def rw10 (r k g : Nat) : Nat := 10 ^ k * (10 * (r / 10 ^ (k + 1)) + g)
theorem rw10_low {r k g i : Nat} (h : i < k) : d10 (rw10 r k g) i = 0 := by
  unfold rw10 d10
  obtain ⟨j, rfl⟩ := Nat.exists_eq_add_of_lt h
  rw [Nat.pow_succ, Nat.pow_add, Nat.mul_assoc, Nat.mul_assoc, Nat.mul_div_cancel_left _ (pow10_pos i), Nat.mul_left_comm, Nat.mul_mod_right]
theorem rw10_at {r k g : Nat} (hg : g < 10) : d10 (rw10 r k g) k = g := by
  unfold rw10 d10
  rw [Nat.mul_div_cancel_left _ (pow10_pos k)]; omega
theorem rw10_high {r k g i : Nat} (hg : g < 10) (h : k < i) : d10 (rw10 r k g) i = d10 r i := by
  unfold rw10 d10
  obtain ⟨j, hj⟩ := Nat.exists_eq_add_of_lt h
  obtain ⟨H, hH⟩ : ∃ H, H = r / 10 ^ (k + 1) := ⟨_, rfl⟩
  rw [← hH, hj, show k + j + 1 = (k + 1) + j by omega]
  have e1 : 10 ^ k * (10 * H + g) / 10 ^ (k + 1) = H := by
    rw [Nat.pow_succ, ← Nat.div_div_eq_div_mul, Nat.mul_div_cancel_left _ (pow10_pos k)]; omega
  have e3 : r / 10 ^ (k + 1 + j) = H / 10 ^ j := by rw [Nat.pow_add, ← Nat.div_div_eq_div_mul, ← hH]
  have e4 : 10 ^ k * (10 * H + g) / 10 ^ (k + 1 + j) = H / 10 ^ j := by rw [Nat.pow_add, ← Nat.div_div_eq_div_mul, e1]
  rw [e3, e4]
theorem rw10_digs {r k g m : Nat} (hg : g < 10) : (qd r m (k + 1)).set k (g : Int) = digs (rw10 r k g) m := by
  apply List.ext_getElem
  · simp [qd, digs]
  · intro i h1 h2
    rw [digs_at, List.getElem_set]
    have : i < m := by simpa [digs] using h2
    simp only [qd, List.getElem_map, List.getElem_range]
    by_cases h : k = i
    · subst h; simp [rw10_at hg]
    · rw [if_neg h]
      by_cases h3 : i < k + 1
      · rw [if_pos h3, rw10_low (by omega)]; rfl
      · rw [if_neg h3, rw10_high hg (by omega)]
theorem rw10_lt {r k g m : Nat} (hg : g < 10) (hk : k < m) (hr : r < 10 ^ m) : rw10 r k g < 10 ^ m := by
  unfold rw10
  obtain ⟨j, rfl⟩ := Nat.exists_eq_add_of_lt hk
  obtain ⟨H, hH⟩ : ∃ H, H = r / 10 ^ (k + 1) := ⟨_, rfl⟩
  have h1 : H < 10 ^ j := by
    rw [hH, Nat.div_lt_iff_lt_mul (pow10_pos _), ← Nat.pow_add]
    rwa [show j + (k + 1) = k + j + 1 by omega]
  rw [← hH]
  have h2 : 10 ^ (k + j + 1) = 10 ^ k * 10 ^ (j + 1) := by rw [← Nat.pow_add, Nat.add_assoc]
  have h3 : 10 ^ (j + 1) = 10 ^ j * 10 := Nat.pow_succ ..
  rw [h2, h3]
  exact Nat.mul_lt_mul_of_pos_left (by omega) (pow10_pos k)
theorem rw10_less {r k g : Nat} (h : g ≤ d10 r k) : rw10 r k g ≤ r := by
  unfold rw10
  have h1 := ddiv_pred r k
  refine Nat.le_trans (Nat.mul_le_mul_left _ (show 10 * (r / 10 ^ (k + 1)) + g ≤ r / 10 ^ k by omega)) ?_
  exact Nat.mul_div_le r _
theorem rw10_more {r k g : Nat} (h : d10 r k < g) : r + 1 ≤ rw10 r k g := by
  unfold rw10
  have h1 := ddiv_pred r k
  refine Nat.le_trans ?_ (Nat.mul_le_mul_left _ (show r / 10 ^ k + 1 ≤ 10 * (r / 10 ^ (k + 1)) + g by omega))
  have h2 := Nat.div_add_mod r (10 ^ k)
  have h3 := Nat.mod_lt r (pow10_pos k)
  rw [Nat.mul_add, Nat.mul_one]; omega
theorem root_lt {X r m : Nat} (hr : IsRoot X r) (hX : X < 10 ^ (2 * m)) : r < 10 ^ m := by
  rcases Nat.lt_or_ge r (10 ^ m) with h | h
  · exact h
  · have h1 := Nat.mul_le_mul h h
    rw [← Nat.pow_add, show m + m = 2 * m by omega] at h1
    have := hr.1
    omega
theorem ord_root {X r k g : Nat} (hr : IsRoot X r) : (d10 r k < g → ordI ((rw10 r k g * rw10 r k g : Nat) : Int) (X : Nat) = 1) ∧ (g ≤ d10 r k → ordI ((rw10 r k g * rw10 r k g : Nat) : Int) (X : Nat) ≤ 0) := by
  constructor
  · intro h
    have h1 := rw10_more h
    have h2 := Nat.mul_le_mul h1 h1
    have h3 := hr.2
    exact ordI_gt (by omega)
  · intro h
    have h1 := rw10_less h
    have h2 := Nat.mul_le_mul h1 h1
    have h3 := hr.1
    unfold ordI
    split
    · omega
    · rw [if_neg (by omega)]; omega

set_option maxRecDepth 100000 in
set_option maxHeartbeats 2000000 in
theorem qroot_any (a : ByteArray) (w : World) (ha : a.size ≤ 9000000000000000000) : Calls Try.prog 26 #[.string a] w (OutRoot a.data.toList w) := by
  have hva := fun w => qvalid_any a w ha
  cases hx : rd a.data.toList with
  | none =>
    have HR : Hid (rootR a.data.toList none) := by show rootR _ _; unfold rootR; rw [hx]
    rw [valid_no hx] at hva
    have HVA := Lib.hid hva
    clear hx hva
    go_enter Try.func26, Try.ntmps26
    go_wp2_with fail
    refine (HVA.out _).mono ?_
    rintro e w1 ⟨rfl, k1, rfl⟩
    go_wp2_with fail
    go_ret2
    exact ⟨none, HR.out, rfl, below_drewN (Below.refl _ _) _⟩
  | some x =>
    rw [valid_yes hx] at hva
    have HVA := Lib.hid hva
    obtain ⟨g1, g2, g3, g4, g5, g6, g7, -⟩ := rd_some hx
    have hp : 0 < a.size := by
      have := cutR_le a.data.toList
      rw [← size_eq] at this; omega
    have h1 : a.toList ≠ [] := by rw [toList_data, ne_eq, ← List.length_eq_zero_iff, ← size_eq]; omega
    have h2 : (!a.toList.isEmpty) = true := by simp [h1]
    have hL : a.data.toList = a[0] :: a.data.toList.tail := by
      cases hq : a.data.toList with
      | nil => have h7 := size_eq a; rw [hq, List.length_nil] at h7; omega
      | cons c R =>
        have : a[0] = c := by
          have h4 : a[0] = a.data.toList[0]'(by rw [hq]; simp) := rfl
          rw [h4]; simp [hq]
        rw [this]; rfl
    by_cases hc : a[0] = 45
    · have h3 : ((a[0].toNat : Int) == 45) = true := by rw [hc]; rfl
      have hcb : cutB a.data.toList = true := by rw [hL, hc]; rfl
      rw [hcb] at g3
      have hxn : x < 0 := by simpa using g3.symm
      have HR : Hid (rootR a.data.toList none) := by show rootR _ _; unfold rootR; rw [hx]; simp [hxn]
      clear hx hva g1 g2 g3 g4 g5 g6 g7 hL hc hcb hxn
      go_enter Try.func26, Try.ntmps26
      go_wp2_with fail
      refine (HVA.out _).mono ?_
      rintro e w1 ⟨rfl, k1, rfl⟩
      go_wp2_with fail
      go_ret2
      exact ⟨none, HR.out, rfl, below_drewN (Below.refl _ _) _⟩
    · have h3 : ((a[0].toNat : Int) == 45) = false := by
        rw [beq_eq_false_iff_ne]; intro h; exact hc (UInt8.toNat_inj.1 (show a[0].toNat = (45 : UInt8).toNat from Int.ofNat.inj h))
      have hcb : cutB a.data.toList = false := by
        rw [hL]; unfold cutB; split
        · rename_i h; injection h with h _; exact absurd h hc
        · rfl
      rw [hcb] at g3
      have hxn : ¬ x < 0 := by simpa using g3.symm
      obtain ⟨sx, X, -, -, hXa, hX2, -, hda⟩ := qdig2 ha hx
      have hXl := dl_le.2 hX2
      obtain ⟨r, hr⟩ := root_exists X
      have HR : Hid (rootR a.data.toList (some (r : Int))) := by
        show rootR _ _
        unfold rootR; rw [hx]
        simp only
        rw [if_neg hxn]
        exact ⟨r, by rw [← hXa]; exact hr, rfl⟩
      have HDA := Lib.hid hda
      obtain ⟨m, hm⟩ : ∃ m, m = (dl X + 1) / 2 := ⟨_, rfl⟩
      have hrm : r < 10 ^ m := root_lt hr (Nat.lt_of_lt_of_le (lt_dl X) (Nat.pow_le_pow_right (by omega) (by omega)))
      have hmk := fun w => run_make_ints 44 Try.underlying44 m m (Nat.le_refl _) (by omega) w
      have e1 : (((dl X : Nat) : Int) + 1) / 2 = (m : Int) := by omega
      have HRT := Lib.hid hr; have HRM := Lib.hid hrm
      have hm100 : m ≤ 100 := by omega
      clear hx hva g1 g2 g3 g4 g5 g6 g7 hL hc hcb hxn hXa hX2 hda hm hr hrm
      go_enter Try.func26, Try.ntmps26
      go_wp2_with fail
      refine (HVA.out _).mono ?_
      rintro e w1 ⟨rfl, k1, rfl⟩
      go_wp2_with fail
      refine (HDA.out _).mono ?_
      rintro e w3 ⟨A, c, rfl, hA, hb3⟩
      have hb3 := Lib.hid ((below_drewN (Below.refl w.heap.size w) k1).trans hb3)
      have hA := Lib.hid hA
      go_wp2_with fail
      clear hmk e1 h1 h2 h3
      have HB4 := Lib.hid ((Below.refl w3.heap.size w3).alloc (Nat.le_refl _) (.cells (zc m) 3))
      have HG4 : Hid (Blk (w3.alloc (.cells (zc m) 3)) w3.heap.size 3 ((qd r m m).map iv).toArray) := by show Blk _ _ _ _; rw [qd_new]; exact Blk.new w3 3 (zc m)
      go_loopw [7] (fun ii wr => ∃ (t : Nat) (i : Int), ii = .int .i64 i ∧ Hid (i = (t : Int) - 1) ∧ t ≤ m ∧ Blk wr w3.heap.size 3 ((qd r m t).map iv).toArray ∧ Below w3.heap.size w3 wr)
        (fun ii _ => (intOf ii + 1).toNat)
      case atStart => exact ⟨m, _, rfl, rfl, Nat.le_refl _, HG4.out, HB4.out⟩
      case round =>
        obtain ⟨t, i, rfl, HI, ht, hG, hbl⟩ := hrel
        rcases t with _ | k
        · obtain rfl : i = -1 := by have := HI.out; omega
          rw [qd_all] at hG
          have hD := Dm.of_blk hG (V := r) (by rw [digs_length])
          rw [digs_length] at hD
          have hrl := dl_le.2 HRM.out
          have htr := reftrim_any _ m m r wr hD HRM.out (by omega)
          have hck := qchecked_any false _ m r wr (hD.less hrl) (by omega)
          rw [lim_sg, if_pos (by omega), sg_false] at hck
          have HTR := Lib.hid htr; have HCK := Lib.hid hck; have HBL := Lib.hid hbl
          clear hD hG htr hck hbl
          go_wp2_with fail
          refine HTR.out.mono ?_
          rintro e w5 ⟨rfl, rfl⟩
          go_wp2_with fail
          refine HCK.out.mono ?_
          rintro e w6 ⟨rfl, hb6⟩
          go_wp2_with fail
          go_ret2
          exact ⟨some (r : Int), HR.out, rfl, hb3.out.trans ((HBL.out.trans (hb6.mono HBL.out.size)).mono hb3.out.size)⟩
        · obtain rfl : i = (k : Int) := by have := HI.out; omega
          have q1 : (0 : Int) ≤ (k : Int) := by omega
          have q2 : (k : Int) < (m : Int) := by omega
          have hkl : k < (qd r m (k + 1)).length := by rw [qd_length]; omega
          have c0 := hG.cell (iv_at hkl)
          rw [qd_get, iv] at c0
          have f0 := hG.frozen k
          have HG := Lib.hid hG; have HBL := Lib.hid hbl
          have hd9 := d10_lt r k
          clear hG hbl hkl
          go_wp2_with fail
          go_loopw [] (fun wr => ∃ (g : Nat), Hid (d10 r k ≤ g) ∧ g ≤ 9 ∧ Blk wr w3.heap.size 3 ((digs (rw10 r k g) m).map iv).toArray ∧ Below w3.heap.size w3 wr)
            (fun wr => (intOf ((wr.cell? ⟨w3.heap.size, k, none⟩).getD (.int .i64 0))).toNat)
          case atStart => exact ⟨9, by show _ ≤ _; omega, by omega, by rw [← rw10_digs (by omega), ← iv_set]; exact HG.out.set k _, HBL.out.setCell (Nat.le_refl _) _⟩
          case round =>
            clear c0 f0 HG HBL
            obtain ⟨g, HGG, hg9, hG, hbl⟩ := hrel
            have hkl : k < (digs (rw10 r k g) m).length := by rw [digs_length]; omega
            have c0 := hG.cell (iv_at hkl)
            rw [digs_at, rw10_at (by omega), iv] at c0
            have f0 := hG.frozen k
            have HG := Lib.hid hG; have HBL := Lib.hid hbl
            clear hG hbl hkl
            rcases Nat.eq_zero_or_pos g with h0 | h0
            · subst h0
              rw [show ((0 : Nat) : Int) = 0 from rfl] at c0
              have he : d10 r k = 0 := by have := HGG.out; omega
              have HG2 : Hid (Blk wr w3.heap.size 3 ((qd r m k).map iv).toArray) := by
                have := HG.out
                rw [← rw10_digs (by omega), ← he, qd_set] at this
                exact this
              clear HG
              go_wp2_with fail
              go_roundw
              case rel => exact ⟨k, _, rfl, rfl, by omega, HG2.out, HBL.out⟩
              case measure => simp [intOf]
            · have z0 : (0 : Int) < (g : Int) := by omega
              have z1 : (g : Int) ≤ 9 := by omega
              have hD := Dm.of_blk HG.out (V := rw10 r k g) (by rw [digs_length])
              rw [digs_length] at hD
              have hV10 := rw10_lt (show g < 10 by omega) (show k < m by omega) HRM.out
              obtain ⟨o1, o2⟩ := ord_root (k := k) (g := g) HRT.out
              obtain ⟨V, hV⟩ : ∃ V, V = rw10 r k g := ⟨_, rfl⟩
              rw [← hV] at hD hV10 o1 o2
              have hVl := dl_le.2 hV10
              obtain ⟨v, hv⟩ : ∃ v, v = ordI ((V * V : Nat) : Int) (X : Nat) := ⟨_, rfl⟩
              rw [← hv] at o1 o2
              have HD := Lib.hid hD; have HV10 := Lib.hid hV10; have HV := Lib.hid hV; have HO := Lib.hid hv
              clear hD hV10 hV hv
              go_wp2_with fail
              refine (qtrimmed_any _ m m V wr HD.out HV10.out (by omega)).mono ?_
              rintro e w5 ⟨A5, c5, rfl, hD5, -, hb5⟩
              have hD5 := Lib.hid hD5; have hb5 := Lib.hid hb5
              go_wp2_with fail
              refine (qtrimmed_any _ m m V w5 (HD.out.below hb5.out) HV10.out (by omega)).mono ?_
              rintro e w6 ⟨A6, c6, rfl, hD6, -, hb6⟩
              have hD6 := Lib.hid hD6; have hD5' := Lib.hid (hD5.out.below hb6); have hb6 := Lib.hid (hb5.out.trans (hb6.mono hb5.out.size))
              go_wp2_with fail
              refine (qtimes_any A5 A6 c5 c6 V V w6 hD5'.out hD6.out (by omega) (by omega)).mono ?_
              rintro e w7 ⟨A7, c7, rfl, hD7, -, hb7⟩
              have hD7 := Lib.hid hD7; have hb7 := Lib.hid (hb6.out.trans (hb7.mono hb6.out.size))
              have hbl7 := Lib.hid (HBL.out.trans (hb7.out.mono HBL.out.size))
              go_wp2_with fail
              refine (qorder_any A7 A c7 c (V * V) X w7 hD7.out (hA.out.below hbl7.out) (by omega)).mono ?_
              rw [← HO.out]
              rintro e w8 ⟨rfl, q, rfl⟩
              by_cases hgd : d10 r k < g
              · obtain rfl : v = 1 := o1 hgd
                have hG8 := (HG.out.below hb7.out HG.out.lt).drewN q
                have hkl : k < (digs (rw10 r k g) m).length := by rw [digs_length]; omega
                have c8 := hG8.cell (iv_at hkl)
                rw [digs_at, rw10_at (by omega), iv] at c8
                have f8 := hG8.frozen k
                have hG9 := hG8.set k (iv ((g : Int) - 1))
                rw [iv_set] at hG9
                have c9 := hG9.cell (iv_at (i := k) (by rw [List.length_set, digs_length]; omega))
                rw [List.getElem_set_self, iv] at c9
                rw [← rw10_digs (by omega), List.set_set, show (g : Int) - 1 = ((g - 1 : Nat) : Int) by omega, rw10_digs (by omega), ← show (g : Int) - 1 = ((g - 1 : Nat) : Int) by omega, iv] at hG9
                have HG9 := Lib.hid hG9; have HB9 := Lib.hid ((below_drewN hbl7.out q).setCell (p := ⟨w3.heap.size, k, none⟩) (Nat.le_refl _) (.int .i64 ((g : Int) - 1)))
                clear hG8 hG9 hkl o1 o2
                go_wp2_with fail
                go_roundw
                case rel => exact ⟨g - 1, by show _ ≤ _; omega, by omega, HG9.out, HB9.out⟩
                case measure => simp [c0, c9, intOf] <;> omega
              · have hv0 : v ≤ 0 := o2 (by omega)
                have hge : g = d10 r k := by have := HGG.out; omega
                have HG2 : Hid (Blk (w7.drewN q) w3.heap.size 3 ((qd r m k).map iv).toArray) := by
                  have := (HG.out.below hb7.out HG.out.lt).drewN q
                  rw [← rw10_digs (by omega), hge, qd_set] at this
                  exact this
                have HB9 := Lib.hid (below_drewN hbl7.out q)
                clear HG o1 o2 hge HO
                go_wp2_with fail
                go_roundw
                case rel => exact ⟨k, _, rfl, rfl, by omega, HG2.out, HB9.out⟩
                case measure => simp [intOf]
end Go.Proofs.Ytgpppjfgdbloiaa
