/- The contract of the reference's minus. Conditions: the digits read, there are at most 10,000, and the second is not greater. -/
import Derived.Test.YtgpppjfgdbloiaaQPlus
namespace Go.Proofs.Ytgpppjfgdbloiaa
open Go.RowKit Go.Lib

set_option maxRecDepth 100000 in
set_option maxHeartbeats 1000000 in
theorem qminus_any (A A' : Option Addr) (c c' X Y : Nat) (w : World) (hA : Dm w A (dl X) c X) (hB : Dm w A' (dl Y) c' Y) (hX : dl X ≤ 10000) (hle : Y ≤ X) :
    Calls Try.prog 53 #[.slice A (dl X) c, .slice A' (dl Y) c'] w (OutG (X - Y) w) := by
  obtain ⟨i0, hi0, hz0, hz1, hz2⟩ := info_of info_i64
  obtain ⟨D, hD⟩ : ∃ D, D = X - Y := ⟨_, rfl⟩
  rw [← hD]
  have hXD : D + Y = X := by omega
  have hlt := lt_dl X
  have hDl : D < 10 ^ dl X := by omega
  have HA := Lib.hid hA; have HB := Lib.hid hB; have HXD := Lib.hid hXD; have HDL := Lib.hid hDl
  obtain ⟨n, hn⟩ : ∃ n, n = dl X := ⟨_, rfl⟩
  rw [← hn] at HA HDL hX ⊢
  have HN := Lib.hid hn
  clear hA hB hD hXD hle hn hlt hDl
  go_enter Try.func53, Try.ntmps53
  go_wp2_with fail
  go_loopw [5, 6, 7] (fun vv cc ii wr => ∃ (i k : Nat), ii = .int .i64 i ∧ cc = .int .i64 k ∧ Hid (k = dcar D Y i) ∧ k ≤ 1 ∧ i ≤ n ∧ wr.ownsRow w.heap.size 3 1 vv i ((digs D i).map iv) ∧ Below w.heap.size w wr)
    (fun _ _ ii _ => n - (intOf ii).toNat)
  case atStart => exact ⟨0, 0, rfl, rfl, (dcar_zero D Y).symm, by omega, by omega, World.ownsRow_nil _ _ _ _, Below.refl _ _⟩
  case round =>
    obtain ⟨i, k, rfl, rfl, HK, hk, hi1, hown, hbl⟩ := hrel
    have hbs := hbl.size
    by_cases hc : i < n
    · obtain ⟨b, o, rfl, -, hcc⟩ := (HA.out.below hbl).2 (by omega)
      have cx := hcc i hc
      have hdig := dcar_digit D Y i
      have hsuc := dcar_succ D Y i
      have hnle := dcar_le D Y (i + 1)
      rw [HXD.out] at hdig
      have hyl := d10_lt Y i
      have hdl := d10_lt D i
      have hfy : ¬ i < dl Y → d10 Y i = 0 := fun h => d10_far (by omega)
      have hcy : i < dl Y → ∃ b o, A' = some ⟨b, o, none⟩ ∧ wr.cell? ⟨b, o + i, none⟩ = some (.int .i64 (d10 Y i : Nat)) := fun h => by
        obtain ⟨b, o, e, -, hcc⟩ := (HB.out.below hbl).2 (by omega)
        exact ⟨b, o, e, hcc i h⟩
      rw [← HK.out] at hdig hsuc
      have HDG := Lib.hid (digs_succ D i)
      obtain ⟨x, hx⟩ : ∃ x, x = d10 X i := ⟨_, rfl⟩
      obtain ⟨y, hy⟩ : ∃ y, y = d10 Y i := ⟨_, rfl⟩
      obtain ⟨d, hd⟩ : ∃ d, d = d10 D i := ⟨_, rfl⟩
      obtain ⟨k', hk'⟩ : ∃ k', k' = dcar D Y (i + 1) := ⟨_, rfl⟩
      rw [← hx] at hdig cx
      rw [← hy] at hdig hsuc hyl hfy hcy
      rw [← hd] at hdig HDG hdl hsuc
      rw [← hk'] at hsuc hnle
      have HK' := Lib.hid hk'
      have q1 : (0 : Int) ≤ (i : Int) := by omega
      have q2 : (0 : Int) ≤ (k : Int) := by omega
      have q3 : (k : Int) ≤ 1 := by omega
      have q4 : (x : Int) ≤ 9 := by omega
      have q5 : (0 : Int) ≤ (x : Int) := by omega
      have q6 : (y : Int) ≤ 9 := by omega
      have q7 : (0 : Int) ≤ (y : Int) := by omega
      have HOWN := Lib.hid hown; have HBL := Lib.hid hbl
      clear hown hbl hx hy hd hk' HK hcc
      by_cases h2 : i < dl Y
      · obtain ⟨b', o', rfl, cy⟩ := hcy h2
        by_cases hneg : (x : Int) - (k : Int) - (y : Int) < 0
        · obtain rfl : k' = 1 := by omega
          have e1 : (x : Int) - (k : Int) - (y : Int) + 10 = (d : Int) := by omega
          clear hdig hsuc hcy hfy
          go_wp2_with (at_builtin; refine wpList_append_own _ rfl _ _ 44 rfl w.heap.size 3 i0 (.int .i64 0) 1 8 Try.underlying44 hi0 hz0 hz1 hz2 rfl (by decide) _ _ _ rfl (HOWN.out.alloc _) ⟨wr.heap.size, 0, none⟩ 1 1 [.int .i64 (d : Int)] rfl rfl (cell_one_new _ _ _) (by simp [Value.oneCell']) (by unfold maxLen; omega) (by omega) (by simp; omega) ?_; intro v1 w1 hown1 hgrow1 _; have hB1 := ((HBL.out.alloc hbs _).grown hgrow1 (by simp; omega) (own_base HOWN.out)); have hown2 : w1.ownsRow w.heap.size 3 1 v1 (i + 1) ((digs D (i + 1)).map iv) := (by rw [HDG.out, List.map_append]; exact hown1); have HOWN2 := Lib.hid hown2; have HB1 := Lib.hid hB1; clear hown1 hgrow1 hown2 hB1)
          go_roundw
          case rel => exact ⟨i + 1, 1, by go_num, rfl, HK'.out, by omega, by omega, HOWN2.out, HB1.out⟩
          case measure => simp [intOf] <;> omega
        · obtain rfl : k' = 0 := by omega
          have e1 : (x : Int) - (k : Int) - (y : Int) = (d : Int) := by omega
          clear hdig hsuc hcy hfy
          go_wp2_with (at_builtin; refine wpList_append_own _ rfl _ _ 44 rfl w.heap.size 3 i0 (.int .i64 0) 1 8 Try.underlying44 hi0 hz0 hz1 hz2 rfl (by decide) _ _ _ rfl (HOWN.out.alloc _) ⟨wr.heap.size, 0, none⟩ 1 1 [.int .i64 (d : Int)] rfl rfl (cell_one_new _ _ _) (by simp [Value.oneCell']) (by unfold maxLen; omega) (by omega) (by simp; omega) ?_; intro v1 w1 hown1 hgrow1 _; have hB1 := ((HBL.out.alloc hbs _).grown hgrow1 (by simp; omega) (own_base HOWN.out)); have hown2 : w1.ownsRow w.heap.size 3 1 v1 (i + 1) ((digs D (i + 1)).map iv) := (by rw [HDG.out, List.map_append]; exact hown1); have HOWN2 := Lib.hid hown2; have HB1 := Lib.hid hB1; clear hown1 hgrow1 hown2 hB1)
          go_roundw
          case rel => exact ⟨i + 1, 0, by go_num, rfl, HK'.out, by omega, by omega, HOWN2.out, HB1.out⟩
          case measure => simp [intOf] <;> omega
      · have hy0 := hfy h2
        subst hy0
        by_cases hneg : (x : Int) - (k : Int) < 0
        · obtain rfl : k' = 1 := by omega
          have e1 : (x : Int) - (k : Int) + 10 = (d : Int) := by omega
          clear hdig hsuc hcy hfy
          go_wp2_with (at_builtin; refine wpList_append_own _ rfl _ _ 44 rfl w.heap.size 3 i0 (.int .i64 0) 1 8 Try.underlying44 hi0 hz0 hz1 hz2 rfl (by decide) _ _ _ rfl (HOWN.out.alloc _) ⟨wr.heap.size, 0, none⟩ 1 1 [.int .i64 (d : Int)] rfl rfl (cell_one_new _ _ _) (by simp [Value.oneCell']) (by unfold maxLen; omega) (by omega) (by simp; omega) ?_; intro v1 w1 hown1 hgrow1 _; have hB1 := ((HBL.out.alloc hbs _).grown hgrow1 (by simp; omega) (own_base HOWN.out)); have hown2 : w1.ownsRow w.heap.size 3 1 v1 (i + 1) ((digs D (i + 1)).map iv) := (by rw [HDG.out, List.map_append]; exact hown1); have HOWN2 := Lib.hid hown2; have HB1 := Lib.hid hB1; clear hown1 hgrow1 hown2 hB1)
          go_roundw
          case rel => exact ⟨i + 1, 1, by go_num, rfl, HK'.out, by omega, by omega, HOWN2.out, HB1.out⟩
          case measure => simp [intOf] <;> omega
        · obtain rfl : k' = 0 := by omega
          have e1 : (x : Int) - (k : Int) = (d : Int) := by omega
          clear hdig hsuc hcy hfy
          go_wp2_with (at_builtin; refine wpList_append_own _ rfl _ _ 44 rfl w.heap.size 3 i0 (.int .i64 0) 1 8 Try.underlying44 hi0 hz0 hz1 hz2 rfl (by decide) _ _ _ rfl (HOWN.out.alloc _) ⟨wr.heap.size, 0, none⟩ 1 1 [.int .i64 (d : Int)] rfl rfl (cell_one_new _ _ _) (by simp [Value.oneCell']) (by unfold maxLen; omega) (by omega) (by simp; omega) ?_; intro v1 w1 hown1 hgrow1 _; have hB1 := ((HBL.out.alloc hbs _).grown hgrow1 (by simp; omega) (own_base HOWN.out)); have hown2 : w1.ownsRow w.heap.size 3 1 v1 (i + 1) ((digs D (i + 1)).map iv) := (by rw [HDG.out, List.map_append]; exact hown1); have HOWN2 := Lib.hid hown2; have HB1 := Lib.hid hB1; clear hown1 hgrow1 hown2 hB1)
          go_roundw
          case rel => exact ⟨i + 1, 0, by go_num, rfl, HK'.out, by omega, by omega, HOWN2.out, HB1.out⟩
          case measure => simp [intOf] <;> omega
    · obtain rfl : i = n := by omega
      obtain ⟨Ar, cr, rfl, hDm, hF⟩ := Dm.ownF hown
      have htr := reftrim_any Ar i cr D wr hDm HDL.out (by omega)
      have HD := Lib.hid (hDm.less (dl_le.2 HDL.out)); have HBL := Lib.hid hbl; have HTR := Lib.hid htr
      clear hDm hown hbl hc htr
      go_wp2_with (go_at_call 37; (with_reducible refine HTR.out.mono ?_); rintro e w2 ⟨rfl, rfl⟩)
      go_ret
      exact ⟨Ar, cr, rfl, HD.out, hF, HBL.out⟩
end Go.Proofs.Ytgpppjfgdbloiaa
