/- The contract of DigestSplit. Conditions: the argument reads; the table holds what its text says. -/
import Derived.Test.YtpnhaoegnglooaaDoorApp
namespace Go.Proofs.YtpnhaoegnglooaaDoor
open Go.RowKit Go.Lib

theorem own_slice1 {W : World} {B m : Nat} {v : Value} {L : List ByteArray} (h : W.ownsRow B 9 1 v L.length (L.map sv)) (hm : L.length = m) (h0 : 0 < m) : ∃ b o c, v = .slice (some ⟨b, o, none⟩) m c ∧ Rd W W.heap.size (some ⟨b, o, none⟩) m c L := by
  obtain ⟨g, cap, hv, hR⟩ := own_shape h hm h0
  exact ⟨g, 0, cap, hv, hR⟩
theorem own_snoc1 {w : World} {base e n : Nat} {v : Value} {P : List ByteArray} {x : ByteArray} (h : w.ownsRow base e 1 v (n + 1) ((P ++ [x]).map sv)) : w.ownsRow base e 1 v (P ++ [x]).length ((P ++ [x]).map sv) := by
  have := h.1
  rw [List.length_map] at this
  rw [this, Nat.mul_one]; exact h

/-- What Extension returns for a beginning. -/
def extX (L : List ByteArray) (m : Nat) : List ByteArray := if m = 0 then [] else extB L m true
theorem extX_sizes (L : List ByteArray) (m : Nat) : ∀ x ∈ extX L m, x.size = 32 := by
  unfold extX; split
  · intro x hx; simp at hx
  · exact extB_sizes L.length L m true (Nat.le_refl _)
theorem extX_bin (L : List ByteArray) (m : Nat) (h : m ≤ L.length) : (extX L m).length ≤ 2 * binB L.length := by
  unfold extX; split
  · exact Nat.zero_le _
  · exact extB_bin L m (by omega)
theorem ext_calls (L : List ByteArray) (A : Option Addr) (n c B m : Nat) (w : World) (hR : Rd w B A n c L) (hB : B ≤ w.heap.size) (hn : n ≤ 1099511627776) (h2 : m ≤ n) (hs : ∀ s ∈ L, Small s) (hT : Tab w) :
    Calls Tryd.prog 24 #[.slice A n c, .int .i64 m] w (OwnOut2 w (extX L m) 0) := by
  unfold extX
  by_cases h0 : m = 0
  · subst h0; rw [if_pos rfl]; exact ext_zero A n c w
  · rw [if_neg h0]; exact ext_in L A n c B m w hR hB hn (by omega) h2 hs hT
/-- The extension of a beginning is accepted. -/
theorem extX_accepted (L : List ByteArray) (m : Nat) (h : m ≤ L.length) : extOk (rootB (L.take m)) m (rootB L) L.length (extX L m) = true := by
  have a1 : all32 [rootB (L.take m), rootB L] = true := all32_of fun x hx => by simp at hx; rcases hx with rfl | rfl <;> exact rootB_size _
  have a2 := all32_of (extX_sizes L m)
  by_cases h0 : m = 0
  · subst h0
    have := extOk_zero (old := rootB (L.take 0)) (root := rootB L) (n := (L.length : Int)) (P := extX L 0) (by omega) a1 a2
    rw [show ((0 : Nat) : Int) = 0 from rfl, this]
    unfold extX
    simp
  · rw [extOk_in (by omega) h a1 a2]
    unfold extX
    rw [if_neg h0, extB_accepted L.length L m true _ (by omega) h (Nat.le_refl _) (fun _ => rfl)]
    simp
theorem max32 {P : List ByteArray} (h : ∀ x ∈ P, x.size = 32) : ∀ x ∈ P, x.size ≤ 9223372036854775807 := fun x hx => by rw [h x hx]; omega
theorem root_max (L : List ByteArray) : (rootB L).size ≤ 9223372036854775807 := by rw [rootB_size]; omega

set_option maxRecDepth 100000 in
set_option maxHeartbeats 1000000 in
theorem split_law (A : Option Addr) (n c : Nat) (L : List ByteArray) (s : ByteArray) (w : World) (hR : Arg w A n L) (hn : n ≤ 9223372036854775807) (hT : Tab w) :
    Calls Tryd.prog 11 #[.slice A n c, .string s] w fun e w' => e = .returned (.bool true) ∧ Below w.heap.size w w' := by
  have N0 := Lib.hid (Now.start hT)
  have C0 := Lib.hid fun W (h : Now w W) => few_any A n c 40 L W (hR.below h.1) (by omega) hn
  have hF1 := fewL_le L 40
  have hF2 := fewL_small L 40
  obtain ⟨F, hF⟩ : ∃ F, F = fewL L 40 := ⟨_, rfl⟩
  rw [← hF] at C0 hF1 hF2
  obtain ⟨hif, hsl⟩ := cut_at (P := Tryd.prog) 9 Tryd.underlying9 s 60
  have hT1 := cut60_small s
  unfold cut60 at hT1
  obtain ⟨T, hT0⟩ : ∃ T, T = s.extract 0 (min s.size 60) := ⟨_, rfl⟩
  rw [← hT0] at hsl hT1
  obtain ⟨mm, hmm⟩ : ∃ mm, mm = min s.size 60 := ⟨_, rfl⟩
  rw [← hmm] at hif hsl
  rw [show ((60 : Nat) : Int) = 60 from rfl] at hif
  obtain ⟨m, hm⟩ : ∃ m, F.length = m := ⟨_, rfl⟩
  obtain ⟨M, hM⟩ : ∃ M, M = m + 1 := ⟨_, rfl⟩
  have hG : (F ++ [T]).length = M := by rw [List.length_append, hm, hM]; rfl
  have hG2 : ∀ x ∈ F ++ [T], Small x := by
    intro x hx
    rw [List.mem_append, List.mem_singleton] at hx
    rcases hx with hx | rfl
    · exact hF2 x hx
    · exact hT1
  have hG3 : (F ++ [T]).take m = F := by rw [← hm]; simp
  have HV := extX_accepted (F ++ [T]) m (by omega)
  rw [hG3, hG] at HV
  have HG0 : Hid (m = 0 → rootB (F ++ [T]) = leafB T ∧ rootB F = dg []) := fun h => by
    have : F = [] := List.eq_nil_of_length_eq_zero (by omega)
    subst this
    exact ⟨rootB_one T, rootB_nil⟩
  have HG1 : Hid (m ≠ 0 → rootB (F ++ [T]) = nodeB (rootB ((F ++ [T]).take (spl M))) (rootB ((F ++ [T]).drop (spl M)))) := fun h => by
    have := rootB_two (L := F ++ [T]) (by omega)
    rw [hG] at this; exact this
  obtain ⟨G, hGe⟩ : ∃ G, G = F ++ [T] := ⟨_, rfl⟩
  rw [← hGe] at hG hG2 HV HG0 HG1
  have HGE : Hid (F ++ [T] = G) := hGe.symm
  have LX := Lib.hid (extX_bin G m (by omega))
  have SX := Lib.hid (max32 (extX_sizes G m))
  obtain ⟨X, hX⟩ : ∃ X, X = extX G m := ⟨_, rfl⟩
  have CE := Lib.hid fun W A c (h : Rd W W.heap.size A M c G) (hT : Tab W) => ext_calls G A M c _ m W h (Nat.le_refl _) (by omega) (by omega) hG2 hT
  rw [← hX] at CE LX SX HV
  have HX : Hid (X.length ≤ 1099511627776) := by
    have : binB G.length ≤ 40 := binB_pow (by omega)
    have := LX.out
    show _ ≤ _; omega
  have CF := Lib.hid fun W A c (h : Rd W W.heap.size A m c F) (hT : Tab W) => root_any m F A m c _ W (by omega) h (Nat.le_refl _) (by omega) hF2 hT
  have CG := Lib.hid fun W A c (h : Rd W W.heap.size A M c G) (hT : Tab W) => root_any M G A M c _ W (by omega) h (Nat.le_refl _) (by omega) hG2 hT
  have CV := Lib.hid fun W A k c (h : Rd W W.heap.size A k c X) (hk : k ≤ 1099511627776) (hT : Tab W) => verExt_any (rootB F) (rootB G) m M A k c _ X W (by omega) h (Nat.le_refl _) hk (root_max _) (root_max _) SX.out hT
  have HV := Lib.hid HV
  have HM := Lib.hid hm
  have HMM := Lib.hid hM
  have hm40 : m ≤ 40 := by omega
  have HG := Lib.hid hG
  have HG2 := Lib.hid hG2
  have HT1 := Lib.hid hT1
  clear hR hn hT hT0 hmm hF hF2 hm hG3 hGe hX hG hG2 hT1 hM hF1
  go_enter Tryd.func11, Tryd.ntmps11
  go_wp2_with fail
  refine (sane_any _ N0.out.tab).mono ?_
  rintro e W1 ⟨rfl, hb1⟩
  have N1 := Lib.hid (N0.out.step hb1)
  clear hb1
  go_wp2_with fail
  refine (C0.out _ N1.out).mono ?_
  rintro e W2 ⟨v2, rfl, ho2, hb2⟩
  have N2 := Lib.hid (N1.out.step hb2)
  obtain ⟨A2, c2, rfl, hA2, hR2⟩ := own_slice ho2 HM.out
  have HR2 := Lib.hid hR2
  have HA2 := Lib.hid hA2
  clear hb2 ho2 hA2 hR2
  go_wp2_with (first
    | (at_builtin; refine wpList_append_strs _ rfl _ _ rfl W2.heap.size _ 0 [] rfl (own_lit0 _ (Nat.le_refl _)) A2 m c2 _ F rfl (HR2.out.step ((Below.refl _ _).alloc (Nat.le_refl _) _)) HA2.out (by omega) (by simp) ?_; intro v3 w3 ho3 hg3; rw [Nat.zero_add, List.nil_append] at ho3; have HO3 := Lib.hid ho3; have N3 := Lib.hid ((N2.out.alloc (.cells #[] 9)).grown hg3 (own_lit0 _ (Nat.le_refl _)) N2.out.size); have HR3 := Lib.hid ((HR2.out.below ((Below.refl _ _).alloc (Nat.le_refl _) (.cells #[] 9))).grown hg3 (own_lit0 _ (Nat.le_refl _)) (Nat.le_refl _) (by simp)); have hs3 : W2.heap.size ≤ w3.heap.size := Nat.le_trans (by simp) hg3.size; clear ho3 hg3)
    | (at_builtin; refine wpList_append_strs _ rfl _ _ rfl W2.heap.size v3 m F rfl (HO3.out.alloc _) (some ⟨w3.heap.size, 0, none⟩) 1 1 _ [T] rfl (read_one w3 T 9) (fun hh => by cases hh) (by omega) (by simp; omega) ?_; intro v4 w4 ho4 hg4; have N4 := Lib.hid ((N3.out.alloc (.cells #[.string T] 9)).grown hg4 (HO3.out.alloc _) N2.out.size); have HR4 := Lib.hid (((HR3.out.below ((Below.refl _ _).alloc hs3 (.cells #[.string T] 9))).grown hg4 (HO3.out.alloc _) (Nat.le_refl _) (by simp; omega)).more (B' := w4.heap.size) (Nat.le_trans (by simp; omega) hg4.size)); have ho5 := own_snoc1 ho4; rw [HGE.out] at ho5; obtain ⟨b, o, cG, rfl, hG4⟩ := own_slice1 ho5 HG.out (by have := HMM.out; omega); have HG4 := Lib.hid hG4; clear ho4 hg4 ho5 hG4))
  refine (CE.out _ _ _ HG4.out N4.out.tab).mono ?_
  rintro e W5 ⟨v5, rfl, ho5, hb5⟩
  have N5 := Lib.hid (N4.out.step hb5); have HR5 := Lib.hid (HR4.out.step hb5); have HG5 := Lib.hid (HG4.out.step hb5)
  obtain ⟨A5, c5, rfl, -, hX5⟩ := own_slice ho5 rfl
  have HX5 := Lib.hid hX5
  clear hb5 ho5 hX5 N4 HR4 HG4 N3 HR3 HO3 hs3
  go_wp2_with fail
  refine (CF.out _ _ _ HR5.out N5.out.tab).mono ?_
  rintro e W6 ⟨rfl, hb6⟩
  have N6 := Lib.hid (N5.out.step hb6); have HR6 := Lib.hid (HR5.out.step hb6); have HG6 := Lib.hid (HG5.out.step hb6); have HX6 := Lib.hid (HX5.out.step hb6)
  clear hb6 N5 HR5 HG5 HX5
  go_wp2_with fail
  refine (CG.out _ _ _ HG6.out N6.out.tab).mono ?_
  rintro e W7 ⟨rfl, hb7⟩
  have N7 := Lib.hid (N6.out.step hb7); have HR7 := Lib.hid (HR6.out.step hb7); have HG7 := Lib.hid (HG6.out.step hb7); have HX7 := Lib.hid (HX6.out.step hb7)
  clear hb7 N6 HR6 HG6 HX6
  go_wp2_with fail
  refine (CV.out _ _ _ _ HX7.out HX.out N7.out.tab).mono ?_
  rintro e W8 ⟨rfl, hb8⟩
  have N8 := Lib.hid (N7.out.step hb8); have HR8 := Lib.hid (HR7.out.step hb8); have HG8 := Lib.hid (HG7.out.step hb8)
  clear hb8 N7 HR7 HG7 HX7
  rw [HV.out]
  by_cases h0 : m = 0
  · obtain ⟨z1, z2⟩ := HG0.out h0
    have q0 : ((m : Int) == 0) = true := by rw [h0]; rfl
    have CG0 := CG.out
    have CF0 := CF.out
    rw [z1] at CG0
    rw [z2] at CF0
    have CG0 := Lib.hid CG0
    have CF0 := Lib.hid CF0
    have CS := Lib.hid fun W (hT : Tab W) => sumB_any ⟨#[]⟩ W (by unfold Small; decide) hT
    have CL := Lib.hid fun W (hT : Tab W) => leafB_any T W HT1.out hT
    clear h0 z1 z2 CG CF CV CE HG0 HG1
    go_wp2_with fail
    refine (CG0.out _ _ _ HG8.out N8.out.tab).mono ?_
    rintro e W9 ⟨rfl, hb9⟩
    have N9 := Lib.hid (N8.out.step hb9); have HR9 := Lib.hid (HR8.out.step hb9)
    clear hb9 N8 HR8 HG8
    go_wp2_with fail
    refine (CL.out _ N9.out.tab).mono ?_
    rintro e W10 ⟨rfl, hb10⟩
    have N10 := Lib.hid (N9.out.step hb10); have HR10 := Lib.hid (HR9.out.step hb10)
    clear hb10 N9 HR9
    go_wp2_with fail
    refine (CF0.out _ _ _ HR10.out N10.out.tab).mono ?_
    rintro e W11 ⟨rfl, hb11⟩
    have N11 := Lib.hid (N10.out.step hb11)
    clear hb11 N10 HR10
    go_wp2_with fail
    refine (CS.out _ N11.out.tab).mono ?_
    rintro e W12 ⟨rfl, hb12⟩
    have N12 := Lib.hid (N11.out.step hb12)
    clear hb12 N11
    go_wp2
    go_ret
    exact ⟨rfl, N12.out.1⟩
  · have z1 := HG1.out h0
    have q0 : ((m : Int) == 0) = false := by rw [beq_eq_false_iff_ne]; omega
    have hM2 : 2 ≤ M := by have := HMM.out; omega
    have hk := spl_lt hM2
    have hp := spl_pos M
    have HCS := Lib.hid fun w => left_any M w hM2 (by have := HMM.out; omega)
    obtain ⟨k, hke⟩ : ∃ k, k = spl M := ⟨_, rfl⟩
    rw [← hke] at hk hp HCS z1
    have hs1 := run_slice_to 26 9 b o M cG k Tryd.underlying26 infoStr (by omega) HG8.out.2.1
    have hs2 := run_slice_from 26 9 b o M cG k Tryd.underlying26 infoStr (by omega) HG8.out.2.1
    have C0 := CG.out
    rw [z1] at C0
    have C0 := Lib.hid C0
    have hM3 : M ≤ 41 := by have := HMM.out; omega
    have C1 := Lib.hid fun W (h : Rd W W.heap.size (some ⟨b, o, none⟩) M cG G) (hT : Tab W) => root_any M (G.take k) (some ⟨b, o, none⟩) k cG _ W (by rw [List.length_take]; omega) (h.take (by omega)) (Nat.le_refl _) (by omega) (small_take HG2.out k) hT
    have C2 := Lib.hid fun W (h : Rd W W.heap.size (some ⟨b, o, none⟩) M cG G) (hT : Tab W) => root_any M (G.drop k) (some ⟨b, o + k, none⟩) (M - k) (cG - k) _ W (by rw [List.length_drop]; have := HG.out; omega) (h.drop (by omega)) (Nat.le_refl _) (by omega) (small_drop HG2.out k) hT
    have C3 := Lib.hid fun W (hT : Tab W) => nodeB_any (rootB (G.take k)) (rootB (G.drop k)) W (small_root _) (small_root _) hT
    clear h0 z1 hke CG CF CV CE HG0 HG1 hM2 hif hsl
    go_wp2_with fail
    refine (HCS.out _).mono ?_
    rintro e w' ⟨rfl, rfl⟩
    go_wp2_with fail
    have N9 := Lib.hid N8.out.drew; have HG9 := Lib.hid HG8.out.drew
    refine wp_region_any (by kernel_rfl) ?_
    (try (change wpAny _ _ _ _ _ _ _ (World.drew _)))
    refine wpAny_takeL 0 (some 66) (.bool true) rfl (by kernel_rfl) (by kernel_rfl) (by kernel_rfl) (by kernel_rfl) (fun _ _ _ h => h) (Or.inl ⟨by kernel_rfl, by (intro w; go_simp)⟩) ?_
    refine wpAny_takeL 1 (some 67) (.bool true) rfl (by kernel_rfl) (by kernel_rfl) (by kernel_rfl) (by kernel_rfl) (fun _ _ _ h => h) (Or.inl ⟨by kernel_rfl, by (intro w; go_simp)⟩) ?_
    refine wpAny_takeL 2 (some 68) (.slice (some ⟨b, o, none⟩) M cG) rfl (by kernel_rfl) (by kernel_rfl) (by kernel_rfl) (by kernel_rfl) (fun _ _ _ h => h) (Or.inl ⟨by kernel_rfl, by (intro w; go_simp)⟩) ?_
    refine wpAny_takeL 4 (some 70) (.slice (some ⟨b, o, none⟩) M cG) rfl (by kernel_rfl) (by kernel_rfl) (by kernel_rfl) (by kernel_rfl) (fun _ _ _ h => h) (Or.inl ⟨by kernel_rfl, by (intro w; go_simp)⟩) ?_
    refine wpAny_takeL 5 (some 71) (.int .i64 k) rfl (by kernel_rfl) (by kernel_rfl) (by kernel_rfl) (by kernel_rfl) (fun _ _ _ h => h) (Or.inl ⟨by kernel_rfl, by (intro w; go_simp)⟩) ?_
    refine wpAny_takeL 6 (some 72) (.slice (some ⟨b, o, none⟩) k cG) rfl (by kernel_rfl) (by kernel_rfl) (by kernel_rfl) (by kernel_rfl) (fun _ _ _ h => h) (Or.inl ⟨by kernel_rfl, by (intro w; go_simp)⟩) ?_
    refine wpAny_takeL 8 (some 74) (.slice (some ⟨b, o, none⟩) M cG) rfl (by kernel_rfl) (by kernel_rfl) (by kernel_rfl) (by kernel_rfl) (fun _ _ _ h => h) (Or.inl ⟨by kernel_rfl, by (intro w; go_simp)⟩) ?_
    refine wpAny_takeL 9 (some 75) (.int .i64 k) rfl (by kernel_rfl) (by kernel_rfl) (by kernel_rfl) (by kernel_rfl) (fun _ _ _ h => h) (Or.inl ⟨by kernel_rfl, by (intro w; go_simp)⟩) ?_
    refine wpAny_takeL 10 (some 76) (.slice (some ⟨b, o + k, none⟩) (M - k) (cG - k)) rfl (by kernel_rfl) (by kernel_rfl) (by kernel_rfl) (by kernel_rfl) (fun _ _ _ h => h) (Or.inl ⟨by kernel_rfl, by (intro w; go_simp)⟩) ?_
    refine wpAny_callL 3 (some 69) 27 [.tmp 68] #[26] rfl (by kernel_rfl) (by kernel_rfl) (by kernel_rfl) (by kernel_rfl) enters_Root (C0.out _ _ _ HG9.out N9.out.tab) (by kernel_rfl) ?_
    rintro e w1 ⟨rfl, hb1⟩
    refine ⟨_, rfl, ?_⟩
    have N10 := Lib.hid (N9.out.step hb1); have HG10 := Lib.hid (Rd.step HG9.out hb1); clear hb1 N9 HG9
    refine wpAny_callL 7 (some 73) 27 [.tmp 72] #[26] rfl (by kernel_rfl) (by kernel_rfl) (by kernel_rfl) (by kernel_rfl) enters_Root (C1.out _ HG10.out N10.out.tab) (by kernel_rfl) ?_
    rintro e w2 ⟨rfl, hb2⟩
    refine ⟨_, rfl, ?_⟩
    have N11 := Lib.hid (N10.out.step hb2); have HG11 := Lib.hid (Rd.step HG10.out hb2); clear hb2 N10 HG10
    refine wpAny_callL 11 (some 77) 27 [.tmp 76] #[26] rfl (by kernel_rfl) (by kernel_rfl) (by kernel_rfl) (by kernel_rfl) enters_Root (C2.out _ HG11.out N11.out.tab) (by kernel_rfl) ?_
    rintro e w3 ⟨rfl, hb3⟩
    refine ⟨_, rfl, ?_⟩
    have N12 := Lib.hid (N11.out.step hb3); clear hb3 N11 HG11
    refine wpAny_callL 12 (some 78) 17 [.tmp 73, .tmp 77] #[9, 9] rfl (by kernel_rfl) (by kernel_rfl) (by kernel_rfl) (by kernel_rfl) enters_Node (C3.out _ N12.out.tab) (by kernel_rfl) ?_
    rintro e w4 ⟨rfl, hb4⟩
    refine ⟨_, rfl, ?_⟩
    have N13 := Lib.hid (N12.out.step hb4); clear hb4 N12
    refine wpAny_takeL 13 (some 79) (.bool true) rfl (by kernel_rfl) (by kernel_rfl) (by kernel_rfl) (by kernel_rfl) (fun _ _ _ h => h) (Or.inl ⟨by kernel_rfl, by (intro w; go_simp)⟩) ?_
    refine wpAny_takeL 14 (some 80) (.bool true) rfl (by kernel_rfl) (by kernel_rfl) (by kernel_rfl) (by kernel_rfl) (fun _ _ _ h => h) (Or.inl ⟨by kernel_rfl, by (intro w; go_simp)⟩) ?_
    refine wpAny_takeL 15 (some 4) (.bool true) rfl (by kernel_rfl) (by kernel_rfl) (by kernel_rfl) (by kernel_rfl) (fun _ _ _ h => h) (Or.inl ⟨by kernel_rfl, by (intro w; go_simp)⟩) ?_
    refine wpAny_done (by kernel_rfl) ?_ _
    go_wp2
    go_ret
    exact ⟨by kernel_rfl, N13.out.1⟩
end Go.Proofs.YtpnhaoegnglooaaDoor
