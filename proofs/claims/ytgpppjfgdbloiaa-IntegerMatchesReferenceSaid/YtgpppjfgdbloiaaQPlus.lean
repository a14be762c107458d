/- The contracts of the reference's plus and minus. Conditions: the digits read, and there are at most 10,000; for minus, the second is not greater. -/
import Derived.Test.YtgpppjfgdbloiaaQOrd
namespace Go.Proofs.Ytgpppjfgdbloiaa
open Go.RowKit Go.Lib

/-- What is carried to a place. -/
def dcar (X Y i : Nat) : Nat := (X % 10 ^ i + Y % 10 ^ i) / 10 ^ i
theorem pow10_pos (i : Nat) : 0 < 10 ^ i := Nat.pow_pos (by omega)
theorem dcar_le (X Y i : Nat) : dcar X Y i ≤ 1 := by
  unfold dcar
  have hp := pow10_pos i
  have h1 := Nat.mod_lt X hp
  have h2 := Nat.mod_lt Y hp
  have : (X % 10 ^ i + Y % 10 ^ i) / 10 ^ i < 2 := (Nat.div_lt_iff_lt_mul hp).2 (by omega)
  omega
theorem dcar_digit (X Y i : Nat) : (dcar X Y i + d10 X i + d10 Y i) % 10 = d10 (X + Y) i := by
  have hp := pow10_pos i
  have e : (X + Y) / 10 ^ i = dcar X Y i + X / 10 ^ i + Y / 10 ^ i := by
    have h1 := Nat.div_add_mod X (10 ^ i)
    have h2 := Nat.div_add_mod Y (10 ^ i)
    have h3 : X + Y = (X % 10 ^ i + Y % 10 ^ i) + 10 ^ i * (X / 10 ^ i + Y / 10 ^ i) := by rw [Nat.mul_add]; omega
    conv => lhs; rw [h3]
    rw [Nat.add_mul_div_left _ _ hp]; unfold dcar; omega
  unfold d10; rw [e]; omega
theorem dcar_succ (X Y i : Nat) : dcar X Y (i + 1) = (dcar X Y i + d10 X i + d10 Y i) / 10 := by
  have hp := pow10_pos i
  unfold dcar
  rw [dmod_succ, dmod_succ, Nat.pow_succ, ← Nat.div_div_eq_div_mul]
  have e : X % 10 ^ i + 10 ^ i * d10 X i + (Y % 10 ^ i + 10 ^ i * d10 Y i) = (X % 10 ^ i + Y % 10 ^ i) + 10 ^ i * (d10 X i + d10 Y i) := by rw [Nat.mul_add]; omega
  rw [e, Nat.add_mul_div_left _ _ hp]; congr 1; omega
theorem dcar_zero (X Y : Nat) : dcar X Y 0 = 0 := by unfold dcar; simp [Nat.mod_one]
theorem d10_far {V i : Nat} (h : dl V ≤ i) : d10 V i = 0 := d10_zero (dl_le.1 h)
theorem pow_le_of {V i : Nat} (h : i < dl V) : 10 ^ i ≤ V := by
  rcases Nat.lt_or_ge V (10 ^ i) with h1 | h1
  · have := dl_le.2 h1; omega
  · exact h1
theorem lt_dl_of {V i : Nat} (h : 10 ^ i ≤ V) : i < dl V := by
  rcases Nat.lt_or_ge i (dl V) with h1 | h1
  · exact h1
  · have := dl_le.1 h1; omega
theorem dcar_more {X Y i : Nat} (h : i < dl X ∨ i < dl Y ∨ 0 < dcar X Y i) : i < dl (X + Y) := by
  refine lt_dl_of ?_
  rcases h with h | h | h
  · have := pow_le_of h; omega
  · have := pow_le_of h; omega
  · unfold dcar at h
    have hp := pow10_pos i
    have h1 : 10 ^ i ≤ X % 10 ^ i + Y % 10 ^ i := by
      rcases Nat.lt_or_ge (X % 10 ^ i + Y % 10 ^ i) (10 ^ i) with h2 | h2
      · rw [Nat.div_eq_of_lt h2] at h; omega
      · exact h2
    have := Nat.mod_le X (10 ^ i)
    have := Nat.mod_le Y (10 ^ i)
    omega
theorem dcar_end {X Y i : Nat} (h1 : dl X ≤ i) (h2 : dl Y ≤ i) (h : dcar X Y i = 0) (h3 : i ≤ dl (X + Y)) : i = dl (X + Y) := by
  unfold dcar at h
  rw [Nat.mod_eq_of_lt (dl_le.1 h1), Nat.mod_eq_of_lt (dl_le.1 h2)] at h
  have h4 : X + Y < 10 ^ i := by
    rcases Nat.lt_or_ge (X + Y) (10 ^ i) with h2 | h2
    · exact h2
    · have := Nat.div_le_div_right (c := 10 ^ i) h2
      rw [Nat.div_self (pow10_pos i)] at this; omega
  have := dl_le.2 h4; omega
/-- Is the slice of a block of its own, from a block on? -/
def Fr (B : Nat) (A : Option Addr) : Prop := ∀ b o, A = some ⟨b, o, none⟩ → B ≤ b
theorem Fr.mono {B C : Nat} {A : Option Addr} (h : Fr C A) (hB : B ≤ C) : Fr B A := fun b o e => Nat.le_trans hB (h b o e)
theorem Dm.ownF {w : World} {B n V : Nat} {v : Value} (h : w.ownsRow B 3 1 v n ((digs V n).map iv)) : ∃ A c, v = .slice A n c ∧ Dm w A n c V ∧ Fr B A := by
  obtain ⟨A, c, rfl, hD⟩ := Dm.own h
  refine ⟨A, c, rfl, hD, fun b o e => ?_⟩
  rcases h.2 with ⟨h1, -⟩ | ⟨g, cap, cur, h1, hg, -⟩
  · rw [e] at h1; cases h1
  · rw [e] at h1; cases h1; exact hg
theorem Dm.far {w : World} {A : Option Addr} {n c V : Nat} (h : Dm w A n c V) {p : Addr} (hp : Fr (p.block + 1) A) (u : Value) : Dm (w.setCell p u) A n c V :=
  ⟨h.1, fun hn => by
    obtain ⟨b, o, e, hl, hc⟩ := h.2 hn
    exact ⟨b, o, e, by simpa [World.setCell] using hl, fun i hi => (World.cell?_of_block (w := w) (a := ⟨b, o + i, none⟩) (Below.heap_setCell w p u b (by have := hp b o e; omega))).trans (hc i hi)⟩⟩
/-- Digits have been returned; what lay in memory has not changed. -/
def OutG (V : Nat) (w : World) (e : Ending) (w' : World) : Prop := ∃ A c, e = .returned (.slice A (dl V) c) ∧ Dm w' A (dl V) c V ∧ Fr w.heap.size A ∧ Below w.heap.size w w'

set_option maxRecDepth 100000 in
set_option maxHeartbeats 1000000 in
theorem qplus_any (A A' : Option Addr) (c c' X Y : Nat) (w : World) (hA : Dm w A (dl X) c X) (hB : Dm w A' (dl Y) c' Y) (hX : dl (X + Y) ≤ 10000) :
    Calls Try.prog 52 #[.slice A (dl X) c, .slice A' (dl Y) c'] w (OutG (X + Y) w) := by
  obtain ⟨i0, hi0, hz0, hz1, hz2⟩ := info_of info_i64
  have HA := Lib.hid hA; have HB := Lib.hid hB; have HX := Lib.hid hX
  have hX1 := Nat.le_trans (dl_mono (Nat.le_add_right X Y)) hX
  have hY1 := Nat.le_trans (dl_mono (Nat.le_add_left Y X)) hX
  clear hA hB hX
  go_enter Try.func52, Try.ntmps52
  go_wp2_with fail
  go_loopw [5, 6, 7] (fun vv cc ii wr => ∃ (i k : Nat), ii = .int .i64 i ∧ cc = .int .i64 k ∧ Hid (k = dcar X Y i) ∧ k ≤ 1 ∧ i ≤ 10000 ∧ Hid (i ≤ dl (X + Y)) ∧ wr.ownsRow w.heap.size 3 1 vv i ((digs (X + Y) i).map iv) ∧ Below w.heap.size w wr)
    (fun _ _ ii _ => dl (X + Y) - (intOf ii).toNat)
  case atStart => exact ⟨0, 0, rfl, rfl, (dcar_zero X Y).symm, by omega, by omega, Nat.zero_le _, World.ownsRow_nil _ _ _ _, Below.refl _ _⟩
  case round =>
    obtain ⟨i, k, rfl, rfl, HK, hk, hi1, HI, hown, hbl⟩ := hrel
    have hbs := hbl.size
    by_cases hc : i < dl X ∨ i < dl Y ∨ 0 < k
    · have HM : Hid (i < dl (X + Y)) := dcar_more (by rw [← HK.out]; exact hc)
      have hi2 : i < 10000 := Nat.lt_of_lt_of_le HM.out HX.out
      have hdig := dcar_digit X Y i
      have hsuc := dcar_succ X Y i
      have hnle := dcar_le X Y (i + 1)
      have hxl := d10_lt X i
      have hyl := d10_lt Y i
      have hfx : ¬ i < dl X → d10 X i = 0 := fun h => d10_far (by omega)
      have hfy : ¬ i < dl Y → d10 Y i = 0 := fun h => d10_far (by omega)
      have hcx : i < dl X → ∃ b o, A = some ⟨b, o, none⟩ ∧ wr.cell? ⟨b, o + i, none⟩ = some (.int .i64 (d10 X i : Nat)) := fun h => by
        obtain ⟨b, o, e, -, hcc⟩ := (HA.out.below hbl).2 (by omega)
        exact ⟨b, o, e, hcc i h⟩
      have hcy : i < dl Y → ∃ b o, A' = some ⟨b, o, none⟩ ∧ wr.cell? ⟨b, o + i, none⟩ = some (.int .i64 (d10 Y i : Nat)) := fun h => by
        obtain ⟨b, o, e, -, hcc⟩ := (HB.out.below hbl).2 (by omega)
        exact ⟨b, o, e, hcc i h⟩
      rw [← HK.out] at hdig hsuc
      have HDG := Lib.hid (digs_succ (X + Y) i)
      obtain ⟨x, hx⟩ : ∃ x, x = d10 X i := ⟨_, rfl⟩
      obtain ⟨y, hy⟩ : ∃ y, y = d10 Y i := ⟨_, rfl⟩
      obtain ⟨d, hd⟩ : ∃ d, d = d10 (X + Y) i := ⟨_, rfl⟩
      obtain ⟨k', hk'⟩ : ∃ k', k' = dcar X Y (i + 1) := ⟨_, rfl⟩
      rw [← hx] at hdig hsuc hxl hfx hcx
      rw [← hy] at hdig hsuc hyl hfy hcy
      rw [← hd] at hdig HDG
      rw [← hk'] at hsuc hnle
      have HK' := Lib.hid hk'
      have q1 : (0 : Int) ≤ (i : Int) := by omega
      have q2 : (0 : Int) ≤ (k : Int) := by omega
      have q3 : (k : Int) ≤ 1 := by omega
      have HOWN := Lib.hid hown; have HBL := Lib.hid hbl
      clear hown hbl hx hy hd hk' HK
      by_cases h1 : i < dl X <;> by_cases h2 : i < dl Y
      · obtain ⟨b, o, rfl, cx⟩ := hcx h1
        obtain ⟨b', o', rfl, cy⟩ := hcy h2
        have e1 : ((k : Int) + (x : Int) + (y : Int)) % 10 = (d : Int) := by omega
        have e2 : ((k : Int) + (x : Int) + (y : Int)) / 10 = (k' : Int) := by omega
        clear hdig hsuc hcx hcy hfx hfy hc
        go_wp2_with (at_builtin; refine wpList_append_own _ rfl _ _ 44 rfl w.heap.size 3 i0 (.int .i64 0) 1 8 Try.underlying44 hi0 hz0 hz1 hz2 rfl (by decide) _ _ _ rfl (HOWN.out.alloc _) ⟨wr.heap.size, 0, none⟩ 1 1 [.int .i64 (d : Int)] rfl rfl (cell_one_new _ _ _) (by simp [Value.oneCell']) (by unfold maxLen; omega) (by omega) (by simp; omega) ?_; intro v1 w1 hown1 hgrow1 _; have hB1 := ((HBL.out.alloc hbs _).grown hgrow1 (by simp; omega) (own_base HOWN.out)); have hown2 : w1.ownsRow w.heap.size 3 1 v1 (i + 1) ((digs (X + Y) (i + 1)).map iv) := (by rw [HDG.out, List.map_append]; exact hown1); have HOWN2 := Lib.hid hown2; have HB1 := Lib.hid hB1; clear hown1 hgrow1 hown2 hB1)
        go_roundw
        case rel => exact ⟨i + 1, k', by go_num, by rw [e2], HK'.out, hnle, by omega, HM.out, HOWN2.out, HB1.out⟩
        case measure => have := HM.out; simp [intOf] <;> omega
      · obtain ⟨b, o, rfl, cx⟩ := hcx h1
        have hy0 := hfy h2
        subst hy0
        have e1 : ((k : Int) + (x : Int)) % 10 = (d : Int) := by omega
        have e2 : ((k : Int) + (x : Int)) / 10 = (k' : Int) := by omega
        clear hdig hsuc hcx hcy hfx hfy hc
        go_wp2_with (at_builtin; refine wpList_append_own _ rfl _ _ 44 rfl w.heap.size 3 i0 (.int .i64 0) 1 8 Try.underlying44 hi0 hz0 hz1 hz2 rfl (by decide) _ _ _ rfl (HOWN.out.alloc _) ⟨wr.heap.size, 0, none⟩ 1 1 [.int .i64 (d : Int)] rfl rfl (cell_one_new _ _ _) (by simp [Value.oneCell']) (by unfold maxLen; omega) (by omega) (by simp; omega) ?_; intro v1 w1 hown1 hgrow1 _; have hB1 := ((HBL.out.alloc hbs _).grown hgrow1 (by simp; omega) (own_base HOWN.out)); have hown2 : w1.ownsRow w.heap.size 3 1 v1 (i + 1) ((digs (X + Y) (i + 1)).map iv) := (by rw [HDG.out, List.map_append]; exact hown1); have HOWN2 := Lib.hid hown2; have HB1 := Lib.hid hB1; clear hown1 hgrow1 hown2 hB1)
        go_roundw
        case rel => exact ⟨i + 1, k', by go_num, by rw [e2], HK'.out, hnle, by omega, HM.out, HOWN2.out, HB1.out⟩
        case measure => have := HM.out; simp [intOf] <;> omega
      · obtain ⟨b', o', rfl, cy⟩ := hcy h2
        have hx0 := hfx h1
        subst hx0
        have e1 : ((k : Int) + (y : Int)) % 10 = (d : Int) := by omega
        have e2 : ((k : Int) + (y : Int)) / 10 = (k' : Int) := by omega
        clear hdig hsuc hcx hcy hfx hfy hc
        go_wp2_with (at_builtin; refine wpList_append_own _ rfl _ _ 44 rfl w.heap.size 3 i0 (.int .i64 0) 1 8 Try.underlying44 hi0 hz0 hz1 hz2 rfl (by decide) _ _ _ rfl (HOWN.out.alloc _) ⟨wr.heap.size, 0, none⟩ 1 1 [.int .i64 (d : Int)] rfl rfl (cell_one_new _ _ _) (by simp [Value.oneCell']) (by unfold maxLen; omega) (by omega) (by simp; omega) ?_; intro v1 w1 hown1 hgrow1 _; have hB1 := ((HBL.out.alloc hbs _).grown hgrow1 (by simp; omega) (own_base HOWN.out)); have hown2 : w1.ownsRow w.heap.size 3 1 v1 (i + 1) ((digs (X + Y) (i + 1)).map iv) := (by rw [HDG.out, List.map_append]; exact hown1); have HOWN2 := Lib.hid hown2; have HB1 := Lib.hid hB1; clear hown1 hgrow1 hown2 hB1)
        go_roundw
        case rel => exact ⟨i + 1, k', by go_num, by rw [e2], HK'.out, hnle, by omega, HM.out, HOWN2.out, HB1.out⟩
        case measure => have := HM.out; simp [intOf] <;> omega
      · have hx0 := hfx h1
        subst hx0
        have hy0 := hfy h2
        subst hy0
        obtain rfl : k = 1 := by omega
        obtain rfl : d = 1 := by omega
        obtain rfl : k' = 0 := by omega
        clear hdig hsuc hcx hcy hfx hfy hc
        go_wp2_with (at_builtin; refine wpList_append_own _ rfl _ _ 44 rfl w.heap.size 3 i0 (.int .i64 0) 1 8 Try.underlying44 hi0 hz0 hz1 hz2 rfl (by decide) _ _ _ rfl (HOWN.out.alloc _) ⟨wr.heap.size, 0, none⟩ 1 1 [.int .i64 1] rfl rfl (cell_one_new _ _ _) (by simp [Value.oneCell']) (by unfold maxLen; omega) (by omega) (by simp; omega) ?_; intro v1 w1 hown1 hgrow1 _; have hB1 := ((HBL.out.alloc hbs _).grown hgrow1 (by simp; omega) (own_base HOWN.out)); have hown2 : w1.ownsRow w.heap.size 3 1 v1 (i + 1) ((digs (X + Y) (i + 1)).map iv) := (by rw [HDG.out, List.map_append]; exact hown1); have HOWN2 := Lib.hid hown2; have HB1 := Lib.hid hB1; clear hown1 hgrow1 hown2 hB1)
        go_roundw
        case rel => exact ⟨i + 1, 0, by go_num, rfl, HK'.out, hnle, by omega, HM.out, HOWN2.out, HB1.out⟩
        case measure => have := HM.out; simp [intOf] <;> omega
    · have h1 : ¬ i < dl X := fun h => hc (.inl h)
      have h2 : ¬ i < dl Y := fun h => hc (.inr (.inl h))
      obtain rfl : k = 0 := by omega
      have he := dcar_end (by omega) (by omega) HK.out.symm HI.out
      obtain ⟨Ar, cr, rfl, hD, hF⟩ := Dm.ownF hown
      have hD2 : Dm wr Ar (dl (X + Y)) cr (X + Y) := he ▸ hD
      have HE : Hid (i = dl (X + Y)) := he
      have HD := Lib.hid hD2; have HBL := Lib.hid hbl
      clear hD hD2 he hown hbl hc
      go_wp2_with fail
      go_ret
      exact ⟨Ar, cr, by rw [HE.out]; rfl, HD.out, hF, HBL.out⟩
end Go.Proofs.Ytgpppjfgdbloiaa
