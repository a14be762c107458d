/- The contract of DigestTreeMatchesReference. Conditions: the argument reads; ints; the table holds what its text says. -/
import Derived.Test.YthaegodeijfbdaaDoorRefProof
import Derived.Test.YthaegodeijfbdaaDoorSameR
namespace Go.Proofs.YthaegodeijfbdaaDoor
open Go.RowKit Go.Lib

/-- What Proof and Extension return. -/
def proofX (L : List ByteArray) (i : Int) : List ByteArray × Int := if 0 ≤ i ∧ i < L.length then (proofB L i.toNat, 0) else ([], 2)
def extXI (L : List ByteArray) (m : Int) : List ByteArray × Int := if 0 ≤ m ∧ m ≤ L.length then (if m = 0 then [] else extB L m.toNat true, 0) else ([], 2)
section
variable {L : List ByteArray} {A : Option Addr} {n c B : Nat} {w : World}
theorem proof_all (i : Int) (hR : Rd w B A n c L) (hB : B ≤ w.heap.size) (hn : n ≤ 1099511627776) (hs : ∀ s ∈ L, Small s) (hT : Tab w) :
    Calls Tryd.prog 16 #[.slice A n c, .int .i64 i] w (OwnOut2 w (proofX L i).1 (proofX L i).2) := by
  have hl := hR.1
  unfold proofX
  by_cases h : 0 ≤ i ∧ i < L.length
  · rw [if_pos h]
    obtain ⟨j, rfl⟩ := Int.eq_ofNat_of_zero_le h.1
    exact proof_in L A n c B j w hR hB hn (by omega) hs hT
  · rw [if_neg h]
    exact proof_out L A n c i w (by omega)
theorem refproof_all (i : Int) (hR : Rd w B A n c L) (hB : B ≤ w.heap.size) (hn : n ≤ 1099511627776) (hs : Tiny L) :
    Calls Tryd.prog 17 #[.slice A n c, .int .i64 i] w (OwnOut2 w (proofX L i).1 (proofX L i).2) := by
  have hl := hR.1
  unfold proofX
  by_cases h : 0 ≤ i ∧ i < L.length
  · rw [if_pos h]
    obtain ⟨j, rfl⟩ := Int.eq_ofNat_of_zero_le h.1
    exact refproof_in L.length L A n c B j w (Nat.le_refl _) hR hB hn (by omega) hs
  · rw [if_neg h]
    exact refproof_out L A n c i w (by omega)
theorem ext_all (m : Int) (hR : Rd w B A n c L) (hB : B ≤ w.heap.size) (hn : n ≤ 1099511627776) (hs : ∀ s ∈ L, Small s) (hT : Tab w) :
    Calls Tryd.prog 18 #[.slice A n c, .int .i64 m] w (OwnOut2 w (extXI L m).1 (extXI L m).2) := by
  have hl := hR.1
  unfold extXI
  by_cases h : 0 ≤ m ∧ m ≤ L.length
  · rw [if_pos h]
    obtain ⟨j, rfl⟩ := Int.eq_ofNat_of_zero_le h.1
    by_cases h0 : j = 0
    · subst h0; exact ext_zero A n c w
    · rw [if_neg (by omega)]
      exact ext_in L A n c B j w hR hB hn (by omega) (by omega) hs hT
  · rw [if_neg h]
    exact ext_out A n c m w (by omega)
theorem refext_all (m : Int) (hR : Rd w B A n c L) (hB : B ≤ w.heap.size) (hn : n ≤ 1099511627776) (hs : Tiny L) :
    Calls Tryd.prog 19 #[.slice A n c, .int .i64 m] w (OwnOut2 w (extXI L m).1 (extXI L m).2) := by
  have hl := hR.1
  unfold extXI
  by_cases h : 0 ≤ m ∧ m ≤ L.length
  · rw [if_pos h]
    obtain ⟨j, rfl⟩ := Int.eq_ofNat_of_zero_le h.1
    by_cases h0 : j = 0
    · subst h0; exact refext_zero A n c w
    · rw [if_neg (by omega)]
      exact refext_in L A n c B j w hR hB hn (by omega) (by omega) hs
  · rw [if_neg h]
    exact refext_out A n c m w (by omega)
end
theorem proofX_len {L : List ByteArray} (i : Int) (h : L.length ≤ 1000) : (proofX L i).1.length ≤ 1099511627776 := by
  unfold proofX
  split
  · rename_i hi
    have h1 := proofB_length (L := L) (i := i.toNat) (by omega)
    have h2 := depth_le L.length L.length i.toNat 40 (Nat.le_refl _) (by omega)
    show (proofB L i.toNat).length ≤ _
    omega
  · exact Nat.zero_le _
theorem extXI_len {L : List ByteArray} (m : Int) (h : L.length ≤ 1000) : (extXI L m).1.length ≤ 1099511627776 := by
  unfold extXI
  split
  · dsimp only
    split
    · exact Nat.zero_le _
    · have h1 := extB_length L.length L m.toNat 40 true (Nat.le_refl _) (by omega)
      omega
  · exact Nat.zero_le _

set_option maxRecDepth 100000 in
set_option maxHeartbeats 1000000 in
theorem tree_law (A : Option Addr) (n c : Nat) (L : List ByteArray) (i m : Int) (w : World) (hR : Arg w A n L) (hn : n ≤ 9223372036854775807) (hT : Tab w) :
    Calls Tryd.prog 4 #[.slice A n c, .int .i64 i, .int .i64 m] w fun e w' => e = .returned (.bool true) ∧ Below w.heap.size w w' := by
  have N0 := Lib.hid (Now.start hT)
  have C0 := Lib.hid fun W (h : Now w W) => few_any A n c 40 L W (hR.below h.1) (by omega) hn
  have hF1 := fewL_le L 40
  have hF2 := fewL_small L 40
  have hF3 : Tiny (fewL L 40) := fun s hs => by
    unfold fewL at hs
    obtain ⟨x, _, rfl⟩ := List.mem_map.1 hs
    have := cut60_size x; omega
  obtain ⟨F, hF⟩ : ∃ F, F = fewL L 40 := ⟨_, rfl⟩
  rw [← hF] at C0 hF1 hF2 hF3
  obtain ⟨k, hk⟩ : ∃ k, F.length = k := ⟨_, rfl⟩
  have hk40 : k ≤ 40 := by omega
  have HK := Lib.hid hk
  have CP := Lib.hid fun W A c (h : Rd W W.heap.size A k c F) (hT : Tab W) => proof_all i h (Nat.le_refl _) (by omega) hF2 hT
  have CQ := Lib.hid fun W A c (h : Rd W W.heap.size A k c F) => refproof_all i h (Nat.le_refl _) (by omega) hF3
  have CX := Lib.hid fun W A c (h : Rd W W.heap.size A k c F) (hT : Tab W) => ext_all m h (Nat.le_refl _) (by omega) hF2 hT
  have CY := Lib.hid fun W A c (h : Rd W W.heap.size A k c F) => refext_all m h (Nat.le_refl _) (by omega) hF3
  have CR := Lib.hid fun W A c (h : Rd W W.heap.size A k c F) (hT : Tab W) => root_any k F A k c _ W (by omega) h (Nat.le_refl _) (by omega) hF2 hT
  have CS := Lib.hid fun W A c (h : Rd W W.heap.size A k c F) => refroot_any k F A k c _ W (by omega) h (Nat.le_refl _) (by omega) hF3
  have LP := Lib.hid (proofX_len (L := F) i (by omega))
  have LX := Lib.hid (extXI_len (L := F) m (by omega))
  generalize proofX F i = P at *
  generalize extXI F m = X at *
  obtain ⟨P, p⟩ := P
  obtain ⟨X, x⟩ := X
  dsimp only at *
  have CSP := Lib.hid fun W A1 c1 A2 c2 (h1 : Rd W W.heap.size A1 P.length c1 P) (h2 : Rd W W.heap.size A2 P.length c2 P) => refSame_any A1 P.length c1 P A2 P.length c2 P _ _ W h1 h2 LP.out LP.out
  have CSX := Lib.hid fun W A1 c1 A2 c2 (h1 : Rd W W.heap.size A1 X.length c1 X) (h2 : Rd W W.heap.size A2 X.length c2 X) => refSame_any A1 X.length c1 X A2 X.length c2 X _ _ W h1 h2 LX.out LX.out
  rw [decide_eq_true (rfl : P = P)] at CSP
  rw [decide_eq_true (rfl : X = X)] at CSX
  obtain ⟨R, hRt⟩ : ∃ R, R = rootB F := ⟨_, rfl⟩
  rw [← hRt] at CR CS
  have e1 : (R.toList == R.toList) = true := beq_self_eq_true _
  clear hR hn hT hF hF1 hF2 hF3 hk hRt
  go_enter Tryd.func4, Tryd.ntmps4
  go_wp2_with fail
  refine (sane_any _ N0.out.tab).mono ?_
  rintro e W1 ⟨rfl, hb1⟩
  have N1 := Lib.hid (N0.out.step hb1)
  clear hb1
  go_wp2_with fail
  refine (C0.out _ N1.out).mono ?_
  rintro e W2 ⟨v2, rfl, ho2, hb2⟩
  have N2 := Lib.hid (N1.out.step hb2)
  obtain ⟨A2, c2, rfl, -, hR2⟩ := own_slice ho2 HK.out
  have HR2 := Lib.hid hR2
  clear hb2 ho2 hR2
  go_wp2_with fail
  refine (CP.out _ _ _ HR2.out N2.out.tab).mono ?_
  rintro e W3 ⟨v3, rfl, ho3, hb3⟩
  obtain ⟨A3, c3, rfl, -, hR3⟩ := own_slice ho3 rfl
  have N3 := Lib.hid (N2.out.step hb3); have HR3 := Lib.hid (HR2.out.step hb3); have HP3 := Lib.hid hR3
  clear hb3 ho3 hR3
  go_wp2_with fail
  refine (CQ.out _ _ _ HR3.out).mono ?_
  rintro e W4 ⟨v4, rfl, ho4, hb4⟩
  obtain ⟨A4, c4, rfl, -, hR4⟩ := own_slice ho4 rfl
  have N4 := Lib.hid (N3.out.step hb4); have HR4 := Lib.hid (HR3.out.step hb4); have HP4 := Lib.hid (HP3.out.step hb4); have HQ4 := Lib.hid hR4
  clear hb4 ho4 hR4
  go_wp2_with fail
  refine (CX.out _ _ _ HR4.out N4.out.tab).mono ?_
  rintro e W5 ⟨v5, rfl, ho5, hb5⟩
  obtain ⟨A5, c5, rfl, -, hR5⟩ := own_slice ho5 rfl
  have N5 := Lib.hid (N4.out.step hb5); have HR5 := Lib.hid (HR4.out.step hb5); have HP5 := Lib.hid (HP4.out.step hb5); have HQ5 := Lib.hid (HQ4.out.step hb5); have HX5 := Lib.hid hR5
  clear hb5 ho5 hR5
  go_wp2_with fail
  refine (CY.out _ _ _ HR5.out).mono ?_
  rintro e W6 ⟨v6, rfl, ho6, hb6⟩
  obtain ⟨A6, c6, rfl, -, hR6⟩ := own_slice ho6 rfl
  have N6 := Lib.hid (N5.out.step hb6); have HR6 := Lib.hid (HR5.out.step hb6); have HP6 := Lib.hid (HP5.out.step hb6); have HQ6 := Lib.hid (HQ5.out.step hb6); have HX6 := Lib.hid (HX5.out.step hb6); have HY6 := Lib.hid hR6
  clear hb6 ho6 hR6
  go_wp2_with fail
  refine (CSP.out _ _ _ _ _ HP6.out HQ6.out).mono ?_
  rintro e W7 ⟨rfl, k7, rfl⟩
  have N7 := Lib.hid (N6.out.drewN k7); have HR7 := Lib.hid (HR6.out.drewN k7); have HX7 := Lib.hid (HX6.out.drewN k7); have HY7 := Lib.hid (HY6.out.drewN k7)
  go_wp2_with fail
  refine (CSX.out _ _ _ _ _ HX7.out HY7.out).mono ?_
  rintro e W8 ⟨rfl, k8, rfl⟩
  have N8 := Lib.hid (N6.out.drewN (k7 + k8)); have HR8 := Lib.hid (HR6.out.drewN (k7 + k8))
  go_wp2_with fail
  refine (CR.out _ _ _ HR8.out N8.out.tab).mono ?_
  rintro e W9 ⟨rfl, hb9⟩
  have N9 := Lib.hid (N8.out.step hb9); have HR9 := Lib.hid (HR8.out.step hb9)
  clear hb9
  go_wp2_with fail
  refine (CS.out _ _ _ HR9.out).mono ?_
  rintro e W10 ⟨rfl, hb10⟩
  have N10 := Lib.hid (N9.out.step hb10)
  clear hb10
  go_wp2_with fail
  go_ret
  exact ⟨rfl, N10.out.1⟩
end Go.Proofs.YthaegodeijfbdaaDoor
