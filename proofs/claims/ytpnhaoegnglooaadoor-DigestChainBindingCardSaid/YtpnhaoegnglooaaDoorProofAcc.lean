/- The contract of DigestProofAccepted. Conditions: the argument reads; the number is of its Go type; the table holds what its text says. -/
import Derived.Test.YtpnhaoegnglooaaDoorExtAcc
namespace Go.Proofs.YtpnhaoegnglooaaDoor
open Go.RowKit Go.Lib

theorem verB_own {L : List ByteArray} {k : Nat} (h : k < L.length) : verB (rootB L) (L.length : Nat) (k : Nat) L[k] (proofB L k) = true := by
  rw [verB_in h (all32_of (proofB_sizes L.length L k (Nat.le_refl _))), proofB_accepted L.length L k L[k] (List.getElem?_eq_getElem h) (Nat.le_refl _)]
  simp
theorem verB_len {root s : ByteArray} {n i : Nat} {P : List ByteArray} (hi : i < n) (h : P.length ≠ depth n i) : verB root n i s P = false := by
  rcases ha : all32 P with _ | _
  · exact verB_not ha
  · rw [verB_in hi ha]
    have : (valueB n i s P).2 = false := by
      rw [← Bool.not_eq_true]
      exact fun e => h ((valueB_ok (by omega) hi).1 e)
    rw [this]; rfl
/-- 'l[k:]', wherever it ends. -/
theorem run_slice_drop (b o n c k : Nat) (hk : k ≤ n) (hc : n ≤ c) : ∃ A', (∀ w, (Instr.slice 26 (.slice (some ⟨b, o, none⟩) n c) (some (.int .i64 (k : Nat))) none none).run Tryd.prog w = .ok (.slice A' (n - k) (c - k)) w) ∧
    ∀ (W : World) (B : Nat) (L : List ByteArray), Rd W B (some ⟨b, o, none⟩) n c L → Rd W B A' (n - k) (c - k) (L.drop k) := by
  by_cases h : k < n
  · exact ⟨some ⟨b, o + k, none⟩, run_slice_from 26 9 b o n c k Tryd.underlying26 infoStr h hc, fun W B L hR => hR.drop h⟩
  · have hkn : k = n := by omega
    subst hkn
    have hz : ∀ w, (sizeOf 9).run Tryd.prog w = .ok 1 w := by
      obtain ⟨i0, hi0, hz0, hz1, hz2⟩ := info_parts info_str
      intro w; simp [sizeOf, typeInfo, hi0, hz1]
    by_cases h2 : c = k
    · subst h2
      refine ⟨some ⟨b, o, none⟩, fun w => ?_, fun W B L hR => ⟨by rw [List.length_drop, ← hR.1], Nat.le_refl _, fun hh => absurd hh (by omega)⟩⟩
      simp [Instr.slice, run_underlying Tryd.underlying26, Instr.sliceBounds, run_sliceBound, hz]
    · refine ⟨some ⟨b, o + k, none⟩, fun w => ?_, fun W B L hR => ⟨by rw [List.length_drop, ← hR.1], by omega, fun hh => absurd hh (by omega)⟩⟩
      have h3 : (⟨b, o, none⟩ : Addr).add k = ⟨b, o + k, none⟩ := by unfold Addr.add; split <;> simp_all
      simp [Instr.slice, run_underlying Tryd.underlying26, Instr.sliceBounds, run_sliceBound, h2, hz, h3]

/-- The one cell of a literal while another row grows. -/
theorem read_lit_grown {W w3 : World} {g0 g1 k cp : Nat} {x : ByteArray} (h : Rd W W.heap.size (some ⟨g1, 0, none⟩) 1 1 [x]) (hg : W.grownBy w3 (Value.slice (some ⟨g0, 0, none⟩) k cp).ownBlock) (hne : g1 ≠ g0) : Rd w3 w3.heap.size (some ⟨g1, 0, none⟩) 1 1 [x] :=
  ⟨rfl, Nat.le_refl _, fun _ => ⟨g1, 0, rfl, Nat.lt_of_lt_of_le (h.at_ (i := 0) (by simp)).1 hg.size, fun i hi => by
    have h2 := h.at_ (i := i) hi
    rw [World.cell?_of_block (a := ⟨g1, 0 + i, none⟩) (hg.block g1 h2.1 (fun e => hne (by injection e)))]
    exact h2.2⟩⟩
theorem own_shape1 {W : World} {B n : Nat} {v : Value} {P : List ByteArray} {x : ByteArray} (h : W.ownsRow B 9 1 v (n + 1) ((P ++ [x]).map sv)) : ∃ g cap, v = .slice (some ⟨g, 0, none⟩) (n + 1) cap ∧ Rd W W.heap.size (some ⟨g, 0, none⟩) (n + 1) cap (P ++ [x]) := by
  have hl : (P ++ [x]).length = n + 1 := by simpa using h.1
  rw [← hl] at h
  exact own_shape h hl (by omega)
theorem own_lit0' (w : World) {B s : Nat} (hs : s = w.heap.size) (h : B ≤ s) : (w.alloc (.cells #[] 9)).ownsRow B 9 1 (.slice (some ⟨s, 0, none⟩) 0 0) 0 (([] : List ByteArray).map sv) := by subst hs; exact own_lit0 w h
theorem read_one' (w : World) (x : ByteArray) (t : TypeId) {s : Nat} (hs : s = w.heap.size) : Rd (w.alloc (.cells #[.string x] t)) (w.alloc (.cells #[.string x] t)).heap.size (some ⟨s, 0, none⟩) 1 1 [x] := by subst hs; exact read_one w x t
theorem enters_Verify : ∀ args w, (callFunc 29 args).run Tryd.prog w = .ok (.enter 29 args) w := enters_of Tryd.func29 (by kernel_rfl) rfl

set_option maxRecDepth 100000 in
set_option maxHeartbeats 1000000 in
theorem proofAcc_law (A : Option Addr) (n c : Nat) (L : List ByteArray) (i : Int) (w : World) (hR : Arg w A n L) (hn : n ≤ 9223372036854775807) (hT : Tab w) :
    Calls Tryd.prog 6 #[.slice A n c, .int .i64 i] w fun e w' => e = .returned (.bool true) ∧ Below w.heap.size w w' := by
  have N0 := Lib.hid (Now.start hT)
  have C0 := Lib.hid fun W (h : Now w W) => few_any A n c 40 L W (hR.below h.1) (by omega) hn
  have hF1 := fewL_le L 40
  have hF2 := fewL_small L 40
  obtain ⟨F, hF⟩ : ∃ F, F = fewL L 40 := ⟨_, rfl⟩
  rw [← hF] at C0 hF1 hF2
  obtain ⟨m, hm⟩ : ∃ m, F.length = m := ⟨_, rfl⟩
  have hm40 : m ≤ 40 := by omega
  have HM := Lib.hid hm
  have HF2 := Lib.hid hF2
  have CR := Lib.hid fun W A c (h : Rd W W.heap.size A m c F) (hT : Tab W) => root_any m F A m c _ W (by omega) h (Nat.le_refl _) (by omega) hF2 hT
  have CB := Lib.hid fun W => binary_any m W (by omega)
  obtain ⟨bn, hbn⟩ : ∃ bn, bn = binB m := ⟨_, rfl⟩
  rw [← hbn] at CB
  have hb40 : bn ≤ 6 := by rw [hbn]; exact binB_pow (by omega)
  have HBN := Lib.hid hbn
  clear hR hn hT hF hF2 hm hbn hF1
  go_enter Tryd.func6, Tryd.ntmps6
  go_wp2_with fail
  refine (sane_any _ N0.out.tab).mono ?_
  rintro e W1 ⟨rfl, hb1⟩
  have N1 := Lib.hid (N0.out.step hb1)
  clear hb1
  go_wp2_with fail
  refine (C0.out _ N1.out).mono ?_
  rintro e W2 ⟨v2, rfl, ho2, hb2⟩
  have N2 := Lib.hid (N1.out.step hb2)
  obtain ⟨A2, c2, rfl, hA2, hR2⟩ := own_slice2 ho2 HM.out
  have HR2 := Lib.hid hR2
  clear hb2 ho2 hA2 hR2
  go_wp2_with fail
  refine (CR.out _ _ _ HR2.out N2.out.tab).mono ?_
  rintro e W3 ⟨rfl, hb3⟩
  have N3 := Lib.hid (N2.out.step hb3); have HR3 := Lib.hid (HR2.out.step hb3)
  clear hb3 N2 HR2
  go_wp2_with fail
  go_loopw [7, 8, 9] (fun kk _ _ wr => ∃ k : Nat, kk = .int .i64 k ∧ k ≤ m ∧ Now w wr ∧ Rd wr wr.heap.size A2 m c2 F) (fun kk _ _ _ => m - (intOf kk).toNat)
  case atStart => exact ⟨0, rfl, by omega, N3.out, HR3.out⟩
  case round =>
    obtain ⟨k, rfl, hk, hN4, hR4⟩ := hrel
    have N4 := Lib.hid hN4; have HR4 := Lib.hid hR4
    clear hN4 hR4
    by_cases hlt : k < m
    · have hkF : k < F.length := by rw [HM.out]; exact hlt
      have CE := Lib.hid (proof_in F A2 m c2 _ k wr HR4.out (Nat.le_refl _) (by omega) hlt HF2.out N4.out.tab)
      have hlx := proofB_length hkF
      have hdb := depth_bin (n := m) (i := k)
      rw [HM.out] at hlx
      rw [← HBN.out, ← hlx] at hdb
      have HV := verB_own hkF
      rw [HM.out] at HV
      have SX := Lib.hid (max32 (proofB_sizes F.length F k (Nat.le_refl _)))
      obtain ⟨b, o, hA2, hbs, hcell⟩ := HR4.out.2.2 (by omega)
      subst hA2
      have HC := Lib.hid (HR4.out.at_ hkF)
      have HSx := Lib.hid (HF2.out F[k] (List.getElem_mem hkF))
      obtain ⟨x, hx⟩ : ∃ x, x = F[k] := ⟨_, rfl⟩
      rw [← hx] at HV HC HSx
      obtain ⟨X, hX⟩ : ∃ X, X = proofB F k := ⟨_, rfl⟩
      rw [← hX] at CE hdb HV SX
      obtain ⟨lx, hlxe⟩ : ∃ lx, X.length = lx := ⟨_, rfl⟩
      rw [hlxe] at hdb
      have HLX := Lib.hid hlxe
      have HV := Lib.hid HV
      have q1 : (0 : Int) ≤ (k : Int) := by omega
      have q2 : (k : Int) < (m : Int) := by omega
      clear hX hlxe hcell hx hlx hkF
      go_wp2_with fail
      refine CE.out.mono ?_
      rintro e W5 ⟨v5, rfl, ho5, hb5⟩
      have N5 := Lib.hid (N4.out.step hb5); have HR5 := Lib.hid (HR4.out.step hb5)
      obtain ⟨A5, c5, rfl, -, hX5⟩ := own_slice2 ho5 HLX.out
      have HX5 := Lib.hid hX5
      have hc5 : W5.cell? ⟨b, o + k, none⟩ = some (.string x) := (hb5.cell (p := ⟨b, o + k, none⟩) HC.out.1).trans HC.out.2
      clear hb5 ho5 hX5 N4 HR4 CE HC
      go_wp2_with fail
      refine (CB.out _).mono ?_
      rintro e W6 ⟨rfl, rfl⟩
      go_wp2_with fail
      refine (verify_any (rootB F) m k x _ lx _ _ X _ (by omega) HX5.out (Nat.le_refl _) (by omega) HSx.out SX.out N5.out.tab).mono ?_
      rw [HV.out]
      rintro e W7 ⟨rfl, hb7⟩
      have N7 := Lib.hid (N5.out.step hb7); have HR7 := Lib.hid (HR5.out.step hb7)
      clear hb7 N5 HR5 HX5 hc5
      go_wp2
      go_roundw
      case rel => exact ⟨k + 1, by go_num, by omega, N7.out, HR7.out⟩
      case measure => simp [intOf]; omega
    · have hgt : m ≤ k := by omega
      by_cases hin : 0 ≤ i ∧ i < m
      · obtain ⟨hi0, hi1⟩ := hin
        obtain ⟨I, rfl⟩ := Int.eq_ofNat_of_zero_le hi0
        clear hi0
        have hlt : I < m := by omega
        have hkF : I < F.length := by rw [HM.out]; exact hlt
        have CE := Lib.hid (proof_in F A2 m c2 _ I wr HR4.out (Nat.le_refl _) (by omega) hlt HF2.out N4.out.tab)
        have hlx := proofB_length hkF
        have hdb := depth_bin (n := m) (i := I)
        rw [HM.out] at hlx
        rw [← HBN.out, ← hlx] at hdb
        have SX := Lib.hid (proofB_sizes F.length F I (Nat.le_refl _))
        obtain ⟨b, o, hA2, hbs, hcell⟩ := HR4.out.2.2 (by omega)
        subst hA2
        have HSx := Lib.hid (HF2.out F[I] (List.getElem_mem hkF))
        have HX := Lib.hid fun W (h : Rd W W.heap.size (some ⟨b, o, none⟩) m c2 F) => h.at_ hkF
        obtain ⟨x, hx⟩ : ∃ x, x = F[I] := ⟨_, rfl⟩
        rw [← hx] at HX HSx
        obtain ⟨X, hX⟩ : ∃ X, X = proofB F I := ⟨_, rfl⟩
        rw [← hX] at CE hlx hdb SX
        have HV1 := Lib.hid (verB_len (root := rootB F) (s := x) (P := X ++ [rootB F]) hlt (by rw [List.length_append, List.length_singleton]; omega))
        have HV2 := Lib.hid fun h => verB_len (root := rootB F) (s := x) (P := X.drop 1) hlt (by rw [List.length_drop]; intro hh; have : 0 < X.length := h; omega)
        obtain ⟨lx, hlxe⟩ : ∃ lx, X.length = lx := ⟨_, rfl⟩
        rw [hlxe] at hdb HV2
        have HLX := Lib.hid hlxe
        have q1 : (0 : Int) ≤ (I : Int) := by omega
        have q2 : (I : Int) < (m : Int) := by omega
        clear hX hlxe hcell hx hlx hkF
        go_wp2_with fail
        refine CE.out.mono ?_
        rintro e W5 ⟨v5, rfl, ho5, hb5⟩
        have N5 := Lib.hid (N4.out.step hb5); have HR5 := Lib.hid (HR4.out.step hb5)
        obtain ⟨A5, c5, rfl, hA5, hX5⟩ := own_slice2 ho5 HLX.out
        have HX5 := Lib.hid hX5
        have HC5 := HX.out _ HR5.out
        have hc5 := HC5.2
        have HC5 := Lib.hid HC5.1
        clear hb5 ho5 hX5 N4 HR4 CE
        go_wp2_with fail
        have HA5 : Hid (A5 = none → c5 = 0) := fun hh => by
          rcases hA5 with ⟨_, h⟩ | ⟨g, h⟩
          · exact h
          · rw [h] at hh; cases hh
        have SX2 : Hid (∀ y ∈ X ++ [rootB F], y.size ≤ 9223372036854775807) := fun y hy => by
          rw [List.mem_append, List.mem_singleton] at hy
          rcases hy with hy | rfl
          · rw [SX.out y hy]; omega
          · exact root_max _
        clear hA5
        have HK := Lib.hid fun W (h : Below W5.heap.size W5 W) => (h.cell (p := ⟨b, o + I, none⟩) HC5.out).trans hc5
        have b0 := (Below.refl W5.heap.size W5).drew
        go_region_held3 (fun w' => w'.cell? ⟨b, o + I, none⟩ = some (.string x)) (first | exact HK.out _ b0 | exact HK.out _ (b0.alloc b0.size _) | exact HK.out _ ((b0.alloc b0.size _).alloc (by simp <;> omega) _))
          (first
            | (refine step_append_strs rfl _ _ rfl W5.heap.size _ 0 [] (by kernel_rfl) (own_lit0' (s := W5.heap.size + 1) (W5.drew.alloc (.cells #[.string (rootB F)] 9)) (by simp) (by omega)) A5 lx c5 W5.heap.size X (by kernel_rfl) (HX5.out.below ((b0.alloc (by simp) _).alloc (by simp) _)) HA5.out (by omega) (by simp <;> omega) ?_; intro v3 w3 ho3 hg3; have hb3 := ((b0.alloc (by simp) (.cells #[.string (rootB F)] 9)).alloc (by simp) (.cells #[] 9)).grown hg3 (by simp <;> omega) (own_base (own_lit0' (s := W5.heap.size + 1) (W5.drew.alloc (.cells #[.string (rootB F)] 9)) (by simp) (by omega))); rw [Nat.zero_add, List.nil_append] at ho3; have hl1 := read_lit_grown (Rd.step (read_one W5.drew (rootB F) 9) ((Below.refl _ _).alloc (Nat.le_refl _) (.cells #[] 9))) hg3 (by simp); have b0 := hb3)
            | (refine step_append_strs rfl _ _ rfl W5.heap.size _ 0 [] (by kernel_rfl) ((own_lit0 W5.drew (by simp)).alloc (.cells #[.string (rootB F)] 9)) A5 lx c5 W5.heap.size X (by kernel_rfl) (HX5.out.below ((b0.alloc (by simp) _).alloc (by simp) _)) HA5.out (by omega) (by simp <;> omega) ?_; intro v3 w3 ho3 hg3; have hb3 := ((b0.alloc (by simp) (.cells #[] 9)).alloc (by simp) (.cells #[.string (rootB F)] 9)).grown hg3 (by simp <;> omega) (own_base (own_lit0 W5.drew (by simp))); rw [Nat.zero_add, List.nil_append] at ho3; have hl1 := read_lit_grown (read_one' (s := W5.heap.size + 1) (W5.drew.alloc (.cells #[] 9)) (rootB F) 9 (by simp)) hg3 (by simp); have b0 := hb3)
            | (refine step_append_strs rfl _ _ rfl W5.heap.size _ 0 [] (by kernel_rfl) (own_lit0 W5.drew (by simp)) A5 lx c5 W5.heap.size X (by kernel_rfl) (HX5.out.below (b0.alloc (by simp) _)) HA5.out (by omega) (by simp) ?_; intro v3 w3 ho3 hg3; have hb3 := (b0.alloc (by simp) (.cells #[] 9)).grown hg3 (by simp) (own_base (own_lit0 W5.drew (by simp))); rw [Nat.zero_add, List.nil_append] at ho3; have b0 := hb3)
            | (refine step_append_strs rfl _ _ rfl W5.heap.size v3 lx X (by kernel_rfl) ho3 _ 1 1 _ [rootB F] (by kernel_rfl) hl1 (fun hh => by cases hh) (by omega) hb3.size ?_; intro v4 w4 ho4 hg4; have hb4 := hb3.grown hg4 hb3.size (own_base ho3); obtain ⟨g4, c4, rfl, hR4⟩ := own_shape1 ho4; have b0 := hb4)
            | (refine step_append_strs rfl _ _ rfl W5.heap.size v3 lx X (by kernel_rfl) (ho3.alloc _) _ 1 1 _ [rootB F] (by kernel_rfl) (read_one w3 (rootB F) 9) (fun hh => by cases hh) (by omega) (by have := hb3.size; simp; omega) ?_; intro v4 w4 ho4 hg4; have hb4 := (hb3.alloc hb3.size (.cells #[.string (rootB F)] 9)).grown hg4 (by have := hb3.size; simp; omega) (own_base ho3); obtain ⟨g4, c4, rfl, hR4⟩ := own_shape1 ho4; have b0 := hb4)
            | (refine step_call rfl 29 _ _ rfl enters_Verify (verify_any (rootB F) m I x _ (lx + 1) _ _ (X ++ [rootB F]) _ (by omega) hR4 (Nat.le_refl _) (by omega) HSx.out SX2.out (N5.out.tab.below hb4 (Nat.le_refl _))) (by kernel_rfl) ?_; rintro e w5 ⟨he, hb5⟩; rw [HV1.out] at he; subst he; refine ⟨_, rfl, ?_⟩; have hb6 := hb4.trans (hb5.mono hb4.size); have b0 := hb6))
        all_goals
          have N6 := Lib.hid (N5.out.step b0); have HX6 := Lib.hid (Rd.step HX5.out b0); have hc6 := HK.out _ b0
          clear HK HX5 N5 HR5
          by_cases hl0 : 0 < lx
          · obtain ⟨b5, o5, hA5, -, -⟩ := HX6.out.2.2 hl0
            subst hA5
            obtain ⟨A7, hs7, hR7⟩ := run_slice_drop b5 o5 lx c5 1 hl0 HX6.out.2.1
            have HX7 := Lib.hid (hR7 _ _ _ HX6.out)
            rw [show ((1 : Nat) : Int) = 1 from rfl] at hs7
            have hV := HV2.out hl0
            have HV := Lib.hid hV
            have SX3 : Hid (∀ y ∈ X.drop 1, y.size ≤ 9223372036854775807) := fun y hy => by rw [SX.out y (List.mem_of_mem_drop hy)]; omega
            have b1 := (Below.refl w5.heap.size w5).drew
            have HK2 := Lib.hid fun W (h : Below w5.heap.size w5 W) => (h.cell (p := ⟨b, o + I, none⟩) (Nat.lt_of_lt_of_le HC5.out b0.size)).trans hc6
            clear hR7 hV
            go_wp2_with fail
            go_region_held3 (fun w' => w'.cell? ⟨b, o + I, none⟩ = some (.string x)) (exact HK2.out _ b1)
              ((refine step_callg (by kernel_rfl) 29 _ _ rfl enters_Verify (verify_any (rootB F) m I x _ (lx - 1) _ _ (X.drop 1) _ (by omega) HX7.out.drew (Nat.le_refl _) (by omega) HSx.out SX3.out (N6.out.drew.tab)) (by kernel_rfl) ?_; rintro e w7 ⟨he, hb7⟩; rw [HV.out] at he; subst he; refine ⟨_, rfl, ?_⟩; have b1 := b1.trans (hb7.mono b1.size)))
            all_goals
              have N7 := Lib.hid (N6.out.step b1)
              clear HK2 b1
              go_wp2
              go_ret
              exact ⟨rfl, N7.out.1⟩
          · have hl1 : lx = 0 := by omega
            subst hl1
            go_wp2_with fail
            go_quiet (fail)
            go_wp2
            go_ret
            exact ⟨rfl, (N6.out.drewN _).1⟩
      · have CE := Lib.hid (proof_out F A2 m c2 i wr hin)
        have HV := Lib.hid (verB_out (root := rootB F) (s := ⟨#[]⟩) (P := []) hin)
        have CV := Lib.hid fun W (hT : Tab W) => verify_any (rootB F) m i ⟨#[]⟩ none 0 0 W.heap.size [] W (by omega) Rd.nil (Nat.le_refl _) (by omega) (by unfold Small; decide) (fun x hx => by simp at hx) hT
        by_cases hi0 : i < 0
        · clear hin
          go_wp2_with fail
          refine CE.out.mono ?_
          rintro e W5 ⟨v5, rfl, ho5, hb5⟩
          have N5 := Lib.hid (N4.out.step hb5)
          obtain ⟨A5, c5, rfl, -, hX5⟩ := own_slice2 ho5 (m := 0) rfl
          clear hb5 ho5 hX5 N4 HR4 CE
          go_wp2_with fail
          refine (CV.out _ N5.out.tab).mono ?_
          rw [HV.out]
          rintro e W7 ⟨rfl, hb7⟩
          have N7 := Lib.hid (N5.out.step hb7)
          clear hb7 N5
          go_wp2
          go_ret
          exact ⟨rfl, N7.out.1⟩
        · have hi1 : decide (i < (m : Int)) = false := decide_eq_false (by omega)
          clear hin
          go_wp2_with fail
          refine CE.out.mono ?_
          rintro e W5 ⟨v5, rfl, ho5, hb5⟩
          have N5 := Lib.hid (N4.out.step hb5)
          obtain ⟨A5, c5, rfl, -, hX5⟩ := own_slice2 ho5 (m := 0) rfl
          clear hb5 ho5 hX5 N4 HR4 CE
          go_wp2_with fail
          refine (CV.out _ N5.out.tab).mono ?_
          rw [HV.out]
          rintro e W7 ⟨rfl, hb7⟩
          have N7 := Lib.hid (N5.out.step hb7)
          clear hb7 N5
          go_wp2
          go_ret
          exact ⟨rfl, N7.out.1⟩
end Go.Proofs.YtpnhaoegnglooaaDoor
