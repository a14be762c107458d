/- The contracts of the statements' helper heads and of the reference's Same. Conditions: the slices read and are short; the strings are no longer than 1,000 bytes; the table holds what its text says. -/
import Derived.Test.YtpnhaoegnglooaaDoorExtBinding
import Derived.Laws.BytesArg
namespace Go.Proofs.YtpnhaoegnglooaaDoor
open Go.RowKit Go.Lib

theorem zero_at (W : World) (g : Nat) (h : ∀ j, j < 32 → W.cell? ⟨g, j, none⟩ = some (.int .u8 0)) : (convert 43 9 (.slice (some ⟨g, 0, none⟩) 32 32)).run Tryd.prog W = .ok (.string zero32) W := by
  have := run_convert_bytes_back (P := Tryd.prog) W 43 9 5 ⟨g, 0, none⟩ 32 (List.replicate 32 0) Tryd.underlying43 Tryd.underlying5 Tryd.underlying9 (fun j hj => by
    have e : (⟨g, 0, none⟩ : Addr).add j = ⟨g, j, none⟩ := by unfold Addr.add; split <;> simp_all
    rw [List.length_replicate] at hj
    rw [e, h j hj, List.getElem_replicate]; rfl)
  exact this
theorem zeros_new (w : World) (t : TypeId) : ∀ j, j < 32 → (w.alloc (.cells (Array.replicate 32 (.int .u8 0)) t)).cell? ⟨w.heap.size, j, none⟩ = some (.int .u8 0) := fun j hj => (Blk.new w t _).cell (by rw [Array.getElem?_replicate, if_pos hj])
theorem zero_conv (w : World) (t : TypeId) : (convert 43 9 (.slice (some ⟨w.heap.size, 0, none⟩) 32 32)).run Tryd.prog (w.alloc (.cells (Array.replicate 32 (.int .u8 0)) t)) = .ok (.string zero32) (w.alloc (.cells (Array.replicate 32 (.int .u8 0)) t)) :=
  zero_at _ _ (zeros_new w t)
theorem make32 (w : World) : (Instr.makeSlice 43 (.int .i64 32) (.int .i64 32)).run Tryd.prog w = .ok (.slice (some ⟨w.heap.size, 0, none⟩) 32 32) (w.alloc (.cells (Array.replicate 32 (.int .u8 0)) 5)) := by kernel_rfl

theorem take_rev {L : List ByteArray} {i : Nat} (h : i < L.length) : (L.take (i + 1)).reverse = L[i] :: (L.take i).reverse := by
  rw [List.take_succ_eq_append_getElem h, List.reverse_append]; rfl

set_option maxRecDepth 100000 in
set_option maxHeartbeats 1000000 in
theorem heads_any (A : Option Addr) (n c : Nat) (L : List ByteArray) (w : World) (hR : Rd w w.heap.size A n c L) (hn : n ≤ 1000) (hL : ∀ x ∈ L, x.size ≤ 1000) (hT : Tab w) :
    Calls Tryd.prog 36 #[.slice A n c] w (Two w (strsR L.reverse, headR L.reverse)) := by
  have N0 := Lib.hid (Now.start hT)
  have HR := Lib.hid hR; have HL := Lib.hid hL
  have hmk := make32
  have hcv := zero_conv w
  clear hR hL hT
  go_enter Tryd.func36, Tryd.ntmps36
  go_wp2_with fail
  clear hmk hcv
  go_loopw [4, 5, 6] (fun hh oo ii wr => ∃ (i : Nat) (h : ByteArray), ii = .int .i64 i ∧ i ≤ n ∧ hh = .string h ∧ h.size ≤ 32 ∧ Hid (h = headR (L.take i).reverse) ∧ Hid (wr.ownsRow w.heap.size 9 1 oo i ((strsR (L.take i).reverse).map sv)) ∧ Now w wr) (fun _ _ ii _ => n - (intOf ii).toNat)
  case atStart => exact ⟨0, zero32, rfl, by omega, rfl, by rw [zero32_size]; omega, rfl, World.ownsRow_nil _ _ _ _, (N0.out.alloc _)⟩
  case round =>
    obtain ⟨i, h, rfl, hi, rfl, hh, HH, HO, hN⟩ := hrel
    have N1 := Lib.hid hN
    clear hN
    by_cases hlt : i < n
    · have e1 : i < L.length := by have := HR.out.1; omega
      obtain ⟨b, o, rfl, hb, k1⟩ := HR.out.2.2 (by omega)
      have hc0 : wr.cell? ⟨b, o + i, none⟩ = some (.string L[i]) := (N1.out.1.cell (p := ⟨b, o + i, none⟩) hb).trans (k1 i e1)
      have HC := Lib.hid fun W (hw : Below wr.heap.size wr W) => (hw.cell (p := ⟨b, o + i, none⟩) (Nat.lt_of_lt_of_le hb N1.out.size)).trans hc0
      have hx1 := HL.out L[i] (List.getElem_mem e1)
      have hst := take_rev e1
      have hlen : (strsR (L.take i).reverse).length = i := by rw [strsR_length, List.length_reverse, List.length_take]; omega
      obtain ⟨x, hx⟩ : ∃ x, x = L[i] := ⟨_, rfl⟩
      rw [← hx] at hst hc0 hx1 HC
      have HST := Lib.hid hst
      obtain ⟨X, hX⟩ : ∃ X, X = strsR (L.take i).reverse := ⟨_, rfl⟩
      have ho := HO.out
      rw [← hX] at hlen ho
      rw [← hlen] at ho
      obtain ⟨A5, c5, rfl, hA5, hX5⟩ := own_slice ho hlen
      have HX5 := Lib.hid hX5; have HA5 := Lib.hid hA5; have HXE := Lib.hid hX; have HLEN := Lib.hid hlen
      have CC := Lib.hid fun W (hT : Tab W) => chainB_any h x W (small_32 hh) (by unfold Small; omega) hT
      have q1 : (0 : Int) ≤ (i : Int) := by omega
      have q2 : (i : Int) < (n : Int) := by omega
      have hsz := N1.out.size
      clear hx k1 e1 hst hlen ho hX hX5 hA5 HO
      go_wp2_with (at_builtin; refine wpList_append_strs _ rfl _ _ rfl w.heap.size _ 1 [⟨#[2]⟩ ++ h ++ x] rfl (own_lit1 wr (⟨#[2]⟩ ++ h ++ x) hsz) A5 i c5 _ X rfl (HX5.out.below ((Below.refl _ _).alloc (Nat.le_refl _) _)) HA5.out (by omega) (by simp; omega) ?_; intro v3 w3 ho3 hg3; have hb3 := ((Below.refl wr.heap.size wr).alloc (Nat.le_refl _) (.cells #[.string (⟨#[2]⟩ ++ h ++ x)] 9)).grown hg3 (by simp) (own_base (own_lit1 wr (⟨#[2]⟩ ++ h ++ x) (Nat.le_refl _))); have HO3 := Lib.hid ho3; have hc3 := HC.out _ hb3; have N3 := Lib.hid (N1.out.step hb3); clear ho3 hg3 hb3)
      refine (CC.out _ N3.out.tab).mono ?_
      rintro e w4 ⟨rfl, hb4⟩
      have N4 := Lib.hid (N3.out.step hb4)
      have HO4 := Lib.hid (own_below HO3.out hb4 (Nat.le_refl _))
      clear hb4 hc3 hc0
      go_wp2
      go_roundw
      case rel =>
        refine ⟨i + 1, _, by go_num, by omega, rfl, by rw [chainB, dg_size]; omega, ?_, ?_, N4.out⟩
        · show _ = _
          rw [HST.out, headR, ← HH.out]
        · show World.ownsRow _ _ _ _ _ _ _
          rw [HST.out, strsR, ← HXE.out, ← HH.out, ← cat3]
          have := HO4.out
          rw [show 1 + i = i + 1 from by omega] at this
          exact this
      case measure => simp [intOf]; omega
    · have e1 : L.take i = L := List.take_of_length_le (by have := HR.out.1; omega)
      have h1 := HH.out
      have h2 := HO.out
      rw [e1] at h1 h2
      have hlen : (strsR L.reverse).length = i := by rw [strsR_length, List.length_reverse]; have := HR.out.1; omega
      have H1 := Lib.hid h1; have H2 := Lib.hid h2; have H3 := Lib.hid hlen
      clear e1 h1 h2 hlen HH HO
      go_wp2
      go_ret2
      exact ⟨_, by dsimp only; rw [← H1.out]; rfl, by dsimp only; rw [H3.out]; exact H2.out, N1.out.1⟩

set_option maxRecDepth 100000 in
set_option maxHeartbeats 1000000 in
theorem refSame_any (A1 : Option Addr) (n1 c1 : Nat) (L1 : List ByteArray) (A2 : Option Addr) (n2 c2 : Nat) (L2 : List ByteArray) (B1 B2 : Nat) (w : World) (h1 : Rd w B1 A1 n1 c1 L1) (h2 : Rd w B2 A2 n2 c2 L2) (l1 : n1 ≤ 1099511627776) (l2 : n2 ≤ 1099511627776) :
    Calls Tryd.prog 26 #[.slice A1 n1 c1, .slice A2 n2 c2] w fun e w' => e = .returned (.bool (decide (L1 = L2))) ∧ ∃ k, w' = w.drewN k := by
  have H1 := Lib.hid h1; have H2 := Lib.hid h2
  clear h1 h2
  by_cases hn : n1 = n2
  · subst hn
    have HD : Hid (n1 = L1.length ∧ n1 = L2.length) := ⟨H1.out.1, H2.out.1⟩
    go_enter Tryd.func26, Tryd.ntmps26
    go_wp2_with fail
    go_loopw [5] (fun ii wr => ∃ i : Nat, ii = .int .i64 i ∧ i ≤ n1 ∧ Hid (L1.take i = L2.take i) ∧ ∃ k, wr = w.drewN k) (fun ii _ => n1 - (intOf ii).toNat)
    case atStart => exact ⟨0, rfl, by omega, by show _ = _; simp, 0, rfl⟩
    case round =>
      obtain ⟨i, rfl, hi, HE, k, rfl⟩ := hrel
      by_cases hlt : i < n1
      · have e1 : i < L1.length := by have := HD.out.1; omega
        have e2 : i < L2.length := by have := HD.out.2; omega
        obtain ⟨b1, o1, rfl, hb1, k1⟩ := H1.out.2.2 (by omega)
        obtain ⟨b2, o2, rfl, hb2, k2⟩ := H2.out.2.2 (by omega)
        have hc1 : w.cell? ⟨b1, o1 + i, none⟩ = some (.string L1[i]) := k1 i e1
        have hc2 : w.cell? ⟨b2, o2 + i, none⟩ = some (.string L2[i]) := k2 i e2
        have q1 : (0 : Int) ≤ (i : Int) := by omega
        have q2 : (i : Int) < (n1 : Int) := by omega
        by_cases hxy : L1[i] = L2[i]
        · have HE2 : Hid (L1.take (i + 1) = L2.take (i + 1)) := by
            show _ = _
            rw [List.take_succ_eq_append_getElem e1, List.take_succ_eq_append_getElem e2, HE.out, hxy]
          rw [hxy] at hc1
          obtain ⟨y, hy⟩ : ∃ y, y = L2[i] := ⟨_, rfl⟩
          rw [← hy] at hc1 hc2
          have t2 : (y.toList != y.toList) = false := by simp
          clear hxy hy k1 k2 e1 e2
          go_wp2_with fail
          go_quiet (fail)
          go_wp2
          go_roundw
          case rel => exact ⟨i + 1, by go_num, by omega, HE2.out, _, rfl⟩
          case measure => simp [intOf]; omega
        · have HE2 : Hid (decide (L1 = L2) = false) := decide_eq_false fun h => hxy (by subst h; rfl)
          obtain ⟨x, hx⟩ : ∃ x, x = L1[i] := ⟨_, rfl⟩
          obtain ⟨y, hy⟩ : ∃ y, y = L2[i] := ⟨_, rfl⟩
          rw [← hx] at hc1 hxy
          rw [← hy] at hc2 hxy
          have t1 : (x.toList == y.toList) = false := by rw [str_beq]; exact decide_eq_false hxy
          have t2 : (x.toList != y.toList) = true := by rw [bne, t1]; rfl
          clear hxy hx hy k1 k2 e1 e2
          go_wp2_with fail
          go_quiet (fail)
          go_wp2
          go_ret
          exact ⟨by rw [HE2.out]; rfl, _, World.drewN_drewN _ _ _⟩
      · have HE2 : Hid (decide (L1 = L2) = true) := decide_eq_true (by
          have := HE.out
          rw [List.take_of_length_le (by have := HD.out.1; omega), List.take_of_length_le (by have := HD.out.2; omega)] at this
          exact this)
        go_wp2
        go_ret
        exact ⟨by rw [HE2.out]; rfl, _, rfl⟩
  · have HE2 : Hid (decide (L1 = L2) = false) := decide_eq_false fun h => hn (by rw [H1.out.1, H2.out.1, h])
    have t1 : ((n1 : Int) == (n2 : Int)) = false := by rw [beq_eq_false_iff_ne]; omega
    have t2 : ((n1 : Int) != (n2 : Int)) = true := by rw [bne, t1]; rfl
    clear hn
    go_enter Tryd.func26, Tryd.ntmps26
    go_wp2
    go_ret
    exact ⟨by rw [HE2.out]; rfl, 0, rfl⟩
end Go.Proofs.YtpnhaoegnglooaaDoor
