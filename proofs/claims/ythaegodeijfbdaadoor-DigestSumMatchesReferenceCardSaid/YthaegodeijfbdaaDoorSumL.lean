/- The contract of DigestSumMatchesReference. Condition: the table holds what its text says. -/
import Derived.Test.YthaegodeijfbdaaDoorRefDig
namespace Go.Proofs.YthaegodeijfbdaaDoor
open Go.RowKit Go.Lib

set_option maxRecDepth 100000 in
set_option maxHeartbeats 1000000 in
theorem sum_law (s t : ByteArray) (w : World) (hT : Tab w) :
    Calls Tryd.prog 3 #[.string s, .string t] w fun e w' => e = .returned (.bool true) ∧ Below w.heap.size w w' := by
  have N0 := Lib.hid (Now.start hT)
  obtain ⟨hif, hsl⟩ := cut_at (P := Tryd.prog) 9 Tryd.underlying9 s 500
  obtain ⟨hif2, hsl2⟩ := cut_at (P := Tryd.prog) 9 Tryd.underlying9 t 500
  obtain ⟨m, hm⟩ : ∃ m, m = min s.size 500 := ⟨_, rfl⟩
  obtain ⟨X, hX⟩ : ∃ X, X = s.extract 0 (min s.size 500) := ⟨_, rfl⟩
  obtain ⟨m2, hm2⟩ : ∃ m, m = min t.size 500 := ⟨_, rfl⟩
  obtain ⟨Y, hY⟩ : ∃ X, X = t.extract 0 (min t.size 500) := ⟨_, rfl⟩
  have hXs : X.size ≤ 500 := by rw [hX, ByteArray.size_extract]; omega
  have hYs : Y.size ≤ 500 := by rw [hY, ByteArray.size_extract]; omega
  rw [← hX, ← hm] at hsl
  rw [← hm] at hif
  rw [← hY, ← hm2] at hsl2
  rw [← hm2] at hif2
  rw [show ((500 : Nat) : Int) = 500 from rfl] at hif hif2
  have hXm : Small X := by unfold Small; omega
  have hYm : Small Y := by unfold Small; omega
  have A1 := Lib.hid fun W (h : Now w W) => sumB_any X W hXm h.tab
  have A2 := Lib.hid fun W => refsum_any X W (by omega)
  have B1 := Lib.hid fun W (h : Now w W) => leafB_any Y W hYm h.tab
  have B2 := Lib.hid fun W => refleaf_any Y W (by omega)
  have C1 := Lib.hid fun W (h : Now w W) => nodeB_any X Y W hXm hYm h.tab
  have C2 := Lib.hid fun W => refnode_any X Y W (by omega) (by omega)
  have D1 := Lib.hid fun W (h : Now w W) => chainB_any Y X W hYm hXm h.tab
  have D2 := Lib.hid fun W => refchain_any Y X W (by omega) (by omega)
  have e1 : ((dg X.data.toList).toList == (dg X.data.toList).toList) = true := beq_self_eq_true _
  have e2 : ((leafB Y).toList == (leafB Y).toList) = true := beq_self_eq_true _
  have e3 : ((nodeB X Y).toList == (nodeB X Y).toList) = true := beq_self_eq_true _
  have e4 : ((chainB Y X).toList == (chainB Y X).toList) = true := beq_self_eq_true _
  have S1 := Lib.hid (sane_any w hT)
  clear hm hX hm2 hY hXm hYm hT hXs hYs
  go_enter Tryd.func3, Tryd.ntmps3
  go_wp2_with fail
  refine S1.out.mono ?_
  rintro e W1 ⟨rfl, hb⟩
  have N1 := Lib.hid (N0.out.step hb); clear hb
  go_wp2_with fail
  refine (A1.out _ N1.out).mono ?_
  rintro e W2 ⟨rfl, hb⟩
  have N2 := Lib.hid (N1.out.step hb); clear hb
  go_wp2_with fail
  refine (A2.out _).mono ?_
  rintro e W3 ⟨rfl, hb⟩
  have N3 := Lib.hid (N2.out.step hb); clear hb
  go_wp2_with fail
  refine (B1.out _ N3.out).mono ?_
  rintro e W4 ⟨rfl, hb⟩
  have N4 := Lib.hid (N3.out.step hb); clear hb
  go_wp2_with fail
  refine (B2.out _).mono ?_
  rintro e W5 ⟨rfl, hb⟩
  have N5 := Lib.hid (N4.out.step hb); clear hb
  go_wp2_with fail
  refine (C1.out _ N5.out).mono ?_
  rintro e W6 ⟨rfl, hb⟩
  have N6 := Lib.hid (N5.out.step hb); clear hb
  go_wp2_with fail
  refine (C2.out _).mono ?_
  rintro e W7 ⟨rfl, hb⟩
  have N7 := Lib.hid (N6.out.step hb); clear hb
  go_wp2_with fail
  refine (D1.out _ N7.out).mono ?_
  rintro e W8 ⟨rfl, hb⟩
  have N8 := Lib.hid (N7.out.step hb); clear hb
  go_wp2_with fail
  refine (D2.out _).mono ?_
  rintro e W9 ⟨rfl, hb⟩
  have N9 := Lib.hid (N8.out.step hb); clear hb
  go_wp2_with fail
  go_ret
  exact ⟨rfl, N9.out.1⟩
end Go.Proofs.YthaegodeijfbdaaDoor
