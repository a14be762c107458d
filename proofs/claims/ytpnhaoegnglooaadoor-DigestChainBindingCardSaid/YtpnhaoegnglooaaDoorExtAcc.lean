/- The contract of DigestExtensionAccepted. Conditions: the argument reads; the number is of its Go type; the table holds what its text says. -/
import Derived.Test.YtpnhaoegnglooaaDoorSplit
namespace Go.Proofs.YtpnhaoegnglooaaDoor
open Go.RowKit Go.Lib

theorem own_slice2 {W : World} {B m : Nat} {v : Value} {L : List ByteArray} (h : W.ownsRow B 9 1 v L.length (L.map sv)) (hm : L.length = m) : ∃ A c, v = .slice A m c ∧ ((A = none ∧ c = 0) ∨ ∃ g, A = some ⟨g, 0, none⟩) ∧ Rd W W.heap.size A m c L := by
  rw [hm] at h
  rcases h.2 with ⟨rfl, h0⟩ | ⟨g, cap, cur, rfl, _⟩
  · subst h0
    have : L = [] := List.eq_nil_of_length_eq_zero hm
    subst this
    exact ⟨none, 0, rfl, Or.inl ⟨rfl, rfl⟩, rfl, Nat.le_refl _, fun hh => absurd hh (by omega)⟩
  · exact ⟨_, _, rfl, Or.inr ⟨_, rfl⟩, Rd.of_own h⟩
/-- 'l[:k]' of such a slice. -/
theorem run_slice_upto {A : Option Addr} {n c k : Nat} (hA : (A = none ∧ c = 0) ∨ ∃ g, A = some ⟨g, 0, none⟩) (hk : k ≤ n) (hc : n ≤ c) (w : World) :
    (Instr.slice 26 (.slice A n c) none (some (.int .i64 (k : Nat))) none).run Tryd.prog w = .ok (.slice A k c) w := by
  rcases hA with ⟨rfl, rfl⟩ | ⟨g, rfl⟩
  · have hn : n = 0 := by omega
    have hk0 : k = 0 := by omega
    subst hn; subst hk0
    obtain ⟨i0, hi0, hz0, hz1, hz2⟩ := info_parts info_str
    simp [Instr.slice, run_underlying Tryd.underlying26, Instr.sliceBounds, run_sliceBound]
  · exact run_slice_to 26 9 g 0 n c k Tryd.underlying26 infoStr hk hc w

set_option maxRecDepth 100000 in
set_option maxHeartbeats 1000000 in
theorem extAcc_law (A : Option Addr) (n c : Nat) (L : List ByteArray) (i : Int) (w : World) (hR : Arg w A n L) (hn : n ≤ 9223372036854775807) (hT : Tab w) :
    Calls Tryd.prog 7 #[.slice A n c, .int .i64 i] w fun e w' => e = .returned (.bool true) ∧ Below w.heap.size w w' := by
  have N0 := Lib.hid (Now.start hT)
  have C0 := Lib.hid fun W (h : Now w W) => few_any A n c 25 L W (hR.below h.1) (by omega) hn
  have hF1 := fewL_le L 25
  have hF2 := fewL_small L 25
  obtain ⟨F, hF⟩ : ∃ F, F = fewL L 25 := ⟨_, rfl⟩
  rw [← hF] at C0 hF1 hF2
  obtain ⟨m, hm⟩ : ∃ m, F.length = m := ⟨_, rfl⟩
  have hm25 : m ≤ 25 := by omega
  have HM := Lib.hid hm
  have HF2 := Lib.hid hF2
  have CR := Lib.hid fun W A c k (h : Rd W W.heap.size A k c (F.take k)) (hk : k ≤ m) (hT : Tab W) => root_any m (F.take k) A k c _ W (by rw [List.length_take]; omega) h (Nat.le_refl _) (by omega) (small_take hF2 k) hT
  have CB := Lib.hid fun W => binary_any m W (by omega)
  obtain ⟨bn, hbn⟩ : ∃ bn, bn = binB m := ⟨_, rfl⟩
  rw [← hbn] at CB
  have hb40 : bn ≤ 5 := by rw [hbn]; exact binB_pow (by omega)
  have HBN := Lib.hid hbn
  have HTK : Hid (F.take m = F) := by show _ = _; rw [← hm]; exact List.take_length
  clear hR hn hT hF hF2 hm hbn hF1
  go_enter Tryd.func7, Tryd.ntmps7
  go_wp2_with fail
  refine (sane_any _ N0.out.tab).mono ?_
  rintro e W1 ⟨rfl, hb1⟩
  have N1 := Lib.hid (N0.out.step hb1)
  clear hb1
  go_wp2_with fail
  refine (C0.out _ N1.out).mono ?_
  rintro e W2 ⟨v2, rfl, ho2, hb2⟩
  have N2 := Lib.hid (N1.out.step hb2)
  obtain ⟨A2, c2, rfl, hA2, hR2⟩ := own_slice2 ho2 HM.out
  have HR2 := Lib.hid hR2
  have HSL := Lib.hid fun k (hk : k ≤ m) w => run_slice_upto hA2 hk hR2.2.1 w
  clear hb2 ho2 hA2 hR2
  go_wp2_with fail
  refine (CR.out _ _ _ m (by rw [HTK.out]; exact HR2.out) (Nat.le_refl _) N2.out.tab).mono ?_
  rw [HTK.out]
  rintro e W3 ⟨rfl, hb3⟩
  have N3 := Lib.hid (N2.out.step hb3); have HR3 := Lib.hid (HR2.out.step hb3)
  clear hb3 N2 HR2
  go_wp2_with fail
  go_loopw [7, 8, 9] (fun kk _ _ wr => ∃ k : Nat, kk = .int .i64 k ∧ k ≤ m + 1 ∧ Now w wr ∧ Rd wr wr.heap.size A2 m c2 F) (fun kk _ _ _ => m + 1 - (intOf kk).toNat)
  case atStart => exact ⟨0, rfl, by omega, N3.out, HR3.out⟩
  case round =>
    obtain ⟨k, rfl, hk, hN4, hR4⟩ := hrel
    have N4 := Lib.hid hN4; have HR4 := Lib.hid hR4
    clear hN4 hR4
    by_cases hlt : k ≤ m
    · have CE := Lib.hid (ext_calls F A2 m c2 _ k wr HR4.out (Nat.le_refl _) (by omega) hlt HF2.out N4.out.tab)
      have hlx := extX_bin F k (by rw [HM.out]; exact hlt)
      rw [HM.out, ← HBN.out] at hlx
      have HV := extX_accepted F k (by rw [HM.out]; exact hlt)
      rw [HM.out] at HV
      have SX := Lib.hid (max32 (extX_sizes F k))
      obtain ⟨X, hX⟩ : ∃ X, X = extX F k := ⟨_, rfl⟩
      rw [← hX] at CE hlx HV SX
      obtain ⟨lx, hlxe⟩ : ∃ lx, X.length = lx := ⟨_, rfl⟩
      rw [hlxe] at hlx
      have HLX := Lib.hid hlxe
      have HV := Lib.hid HV
      have hsl := HSL.out k hlt
      clear hX hlxe
      go_wp2_with fail
      refine CE.out.mono ?_
      rintro e W5 ⟨v5, rfl, ho5, hb5⟩
      have N5 := Lib.hid (N4.out.step hb5); have HR5 := Lib.hid (HR4.out.step hb5)
      obtain ⟨A5, c5, rfl, -, hX5⟩ := own_slice2 ho5 HLX.out
      have HX5 := Lib.hid hX5
      clear hb5 ho5 hX5 N4 HR4 CE
      go_wp2_with fail
      refine (CB.out _).mono ?_
      rintro e W6 ⟨rfl, rfl⟩
      go_wp2_with fail
      refine (CR.out _ _ _ k (HR5.out.take hlt) hlt N5.out.tab).mono ?_
      rintro e W6 ⟨rfl, hb6⟩
      have N6 := Lib.hid (N5.out.step hb6); have HR6 := Lib.hid (HR5.out.step hb6); have HX6 := Lib.hid (HX5.out.step hb6)
      clear hb6 N5 HR5 HX5
      go_wp2_with fail
      refine (verExt_any (rootB (F.take k)) (rootB F) k m _ lx _ _ X _ (by omega) HX6.out (Nat.le_refl _) (by omega) (root_max _) (root_max _) SX.out N6.out.tab).mono ?_
      rw [HV.out]
      rintro e W7 ⟨rfl, hb7⟩
      have N7 := Lib.hid (N6.out.step hb7); have HR7 := Lib.hid (HR6.out.step hb7)
      clear hb7 N6 HR6 HX6 hsl
      go_wp2
      go_roundw
      case rel => exact ⟨k + 1, by go_num, by omega, N7.out, HR7.out⟩
      case measure => simp [intOf]; omega
    · have hgt : m < k := by omega
      by_cases hin : 0 ≤ i ∧ i ≤ m
      · obtain ⟨hi0, hi1⟩ := hin
        obtain ⟨I, rfl⟩ := Int.eq_ofNat_of_zero_le hi0
        have CE := Lib.hid (ext_calls F A2 m c2 _ I wr HR4.out (Nat.le_refl _) (by omega) (by omega) HF2.out N4.out.tab)
        clear hi0
        have hi0 : I ≤ m := by omega
        go_wp2_with fail
        refine CE.out.mono ?_
        rintro e W5 ⟨v5, rfl, ho5, hb5⟩
        have N5 := Lib.hid (N4.out.step hb5)
        clear hb5 ho5 N4 HR4 CE
        go_wp2
        go_ret
        exact ⟨rfl, N5.out.1⟩
      · have CE := Lib.hid (ext_out A2 m c2 i wr hin)
        have HV := Lib.hid (fun P => extOk_out (old := rootB F) (root := rootB F) (P := P) hin)
        have CV := Lib.hid fun W A c (h : Rd W W.heap.size A 0 c []) (hT : Tab W) => verExt_any (rootB F) (rootB F) i m A 0 c _ [] W (by omega) h (Nat.le_refl _) (by omega) (root_max _) (root_max _) (fun x hx => by simp at hx) hT
        by_cases hi0 : i < 0
        · clear hin
          go_wp2_with fail
          refine CE.out.mono ?_
          rintro e W5 ⟨v5, rfl, ho5, hb5⟩
          have N5 := Lib.hid (N4.out.step hb5)
          obtain ⟨A5, c5, rfl, -, hX5⟩ := own_slice2 ho5 (m := 0) rfl
          have HX5 := Lib.hid hX5
          clear hb5 ho5 hX5 N4 HR4 CE
          go_wp2_with fail
          refine (CV.out _ _ _ HX5.out N5.out.tab).mono ?_
          rw [HV.out]
          rintro e W7 ⟨rfl, hb7⟩
          have N7 := Lib.hid (N5.out.step hb7)
          clear hb7 N5 HX5
          go_wp2
          go_ret
          exact ⟨rfl, N7.out.1⟩
        · have hi1 : decide (i ≤ (m : Int)) = false := decide_eq_false (by omega)
          clear hin
          go_wp2_with fail
          refine CE.out.mono ?_
          rintro e W5 ⟨v5, rfl, ho5, hb5⟩
          have N5 := Lib.hid (N4.out.step hb5)
          obtain ⟨A5, c5, rfl, -, hX5⟩ := own_slice2 ho5 (m := 0) rfl
          have HX5 := Lib.hid hX5
          clear hb5 ho5 hX5 N4 HR4 CE
          go_wp2_with fail
          refine (CV.out _ _ _ HX5.out N5.out.tab).mono ?_
          rw [HV.out]
          rintro e W7 ⟨rfl, hb7⟩
          have N7 := Lib.hid (N5.out.step hb7)
          clear hb7 N5 HX5
          go_wp2
          go_ret
          exact ⟨rfl, N7.out.1⟩
end Go.Proofs.YtpnhaoegnglooaaDoor
