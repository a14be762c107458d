/- The contract of DigestVerifyMatchesReference. Conditions: the argument reads; ints; the table holds what its text says. -/
import Derived.Test.YthaegodeijfbdaaDoorRefVer
import Derived.Test.YthaegodeijfbdaaDoorApp
namespace Go.Proofs.YthaegodeijfbdaaDoor
open Go.RowKit Go.Lib

set_option maxRecDepth 100000 in
set_option maxHeartbeats 1000000 in
theorem ver_law (old root : ByteArray) (num i : Int) (s : ByteArray) (A : Option Addr) (n c : Nat) (L : List ByteArray) (w : World) (hnum : num ≤ 9223372036854775807) (ho : old.size ≤ 9223372036854775807) (hr : root.size ≤ 9223372036854775807)
    (hR : Arg w A n L) (hn : n ≤ 9223372036854775807) (hT : Tab w) :
    Calls Tryd.prog 5 #[.string old, .string root, .int .i64 num, .int .i64 i, .string s, .slice A n c] w fun e w' => e = .returned (.bool true) ∧ Below w.heap.size w w' := by
  have N0 := Lib.hid (Now.start hT)
  have C0 := Lib.hid fun W (h : Now w W) => few_any A n c 70 L W (hR.below h.1) (by omega) hn
  have hF1 := fewL_le L 70
  have hF2 := fewL_max L 70
  obtain ⟨F, hF⟩ : ∃ F, F = fewL L 70 := ⟨_, rfl⟩
  rw [← hF] at C0 hF1 hF2
  obtain ⟨k, hk⟩ : ∃ k, F.length = k := ⟨_, rfl⟩
  have hk70 : k ≤ 70 := by omega
  have HK := Lib.hid hk
  obtain ⟨hif, hsl⟩ := cut_at (P := Tryd.prog) 9 Tryd.underlying9 s 60
  have hT1 := cut60_size s
  unfold cut60 at hT1
  obtain ⟨X, hX⟩ : ∃ T, T = s.extract 0 (min s.size 60) := ⟨_, rfl⟩
  rw [← hX] at hsl hT1
  obtain ⟨mm, hmm⟩ : ∃ mm, mm = min s.size 60 := ⟨_, rfl⟩
  rw [← hmm] at hif hsl
  rw [show ((60 : Nat) : Int) = 60 from rfl] at hif
  have hXs : Small X := by unfold Small; omega
  have V1 := Lib.hid fun W A c (h : Rd W W.heap.size A k c F) (hT : Tab W) => verify_any root num i X A k c _ F W hnum h (Nat.le_refl _) (by omega) hXs hF2 hT
  have V2 := Lib.hid fun W A c (h : Rd W W.heap.size A k c F) => refverify_any root num i X A k c _ F W hnum h (Nat.le_refl _) (by omega) (by omega) hF2
  have E1 := Lib.hid fun W A c (h : Rd W W.heap.size A k c F) (hT : Tab W) => verExt_any old root i num A k c _ F W hnum h (Nat.le_refl _) (by omega) ho hr hF2 hT
  have E2 := Lib.hid fun W A c (h : Rd W W.heap.size A k c F) => refverExt_any old root i num A k c _ F W hnum h (Nat.le_refl _) (by omega) ho hr hF2
  generalize verB root num i X F = b1 at *
  generalize extOk old i root num F = b2 at *
  have S1 := Lib.hid fun W h => sane_any W h
  clear hR hn hT hT1 hX hmm hF hF1 hF2 hk hXs ho hr hnum
  have q1 : (b1 == b1) = true := beq_self_eq_true _
  have q2 : (b2 == b2) = true := beq_self_eq_true _
  go_enter Tryd.func5, Tryd.ntmps5
  go_wp2_with fail
  refine (S1.out _ N0.out.tab).mono ?_
  rintro e W1 ⟨rfl, hb1⟩
  have N1 := Lib.hid (N0.out.step hb1)
  clear hb1
  go_wp2_with fail
  refine (C0.out _ N1.out).mono ?_
  rintro e W2 ⟨v2, rfl, ho2, hb2⟩
  have N2 := Lib.hid (N1.out.step hb2)
  obtain ⟨A2, c2, rfl, -, hR2⟩ := own_slice ho2 HK.out
  have HR2 := Lib.hid hR2
  clear hb2 ho2 hR2
  go_wp2_with fail
  refine (V1.out _ _ _ HR2.out N2.out.tab).mono ?_
  rintro e W3 ⟨rfl, hb3⟩
  have N3 := Lib.hid (N2.out.step hb3); have HR3 := Lib.hid (HR2.out.step hb3)
  clear hb3
  go_wp2_with fail
  refine (V2.out _ _ _ HR3.out).mono ?_
  rintro e W4 ⟨rfl, hb4⟩
  have N4 := Lib.hid (N3.out.step hb4); have HR4 := Lib.hid (HR3.out.step hb4)
  clear hb4
  go_wp2_with fail
  refine (E1.out _ _ _ HR4.out N4.out.tab).mono ?_
  rintro e W5 ⟨rfl, hb5⟩
  have N5 := Lib.hid (N4.out.step hb5); have HR5 := Lib.hid (HR4.out.step hb5)
  clear hb5
  go_wp2_with fail
  refine (E2.out _ _ _ HR5.out).mono ?_
  rintro e W6 ⟨rfl, hb6⟩
  have N6 := Lib.hid (N5.out.step hb6)
  clear hb6
  go_wp2_with fail
  go_ret
  exact ⟨rfl, N6.out.1⟩
end Go.Proofs.YthaegodeijfbdaaDoor
