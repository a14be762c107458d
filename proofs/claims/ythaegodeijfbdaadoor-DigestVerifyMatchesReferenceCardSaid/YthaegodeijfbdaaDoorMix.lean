/- The contract of mix: the eight words behind a block. Conditions: the words are words, the table holds what its text says. -/
import Derived.Test.YthaegodeijfbdaaDoorSched
namespace Go.Proofs.YthaegodeijfbdaaDoor
open Go.RowKit Go.Lib

/-- The table of the program, as its text lays it. -/
def Tab (w : World) : Prop := 0 < w.heap.size ∧ ∀ i, i < 64 → w.cell? ⟨0, i, none⟩ = some (.int .u32 (kk.getD i 0 : Nat))
theorem Tab.below {w w' : World} {B : Nat} (h : Tab w) (hb : Below B w w') (hB : w.heap.size ≤ B) : Tab w' :=
  ⟨Nat.lt_of_lt_of_le h.1 hb.size, fun i hi => (hb.cell (p := ⟨0, i, none⟩) (Nat.lt_of_lt_of_le h.1 hB)).trans (h.2 i hi)⟩

theorem not_word {x : Nat} (h : x < 4294967296) : 4294967295 ^^^ x = 4294967295 - x := by
  have e := congrArg BitVec.toNat (BitVec.allOnes_xor (x := BitVec.ofNat 32 x))
  rw [BitVec.toNat_xor, BitVec.toNat_not, BitVec.toNat_ofNat, BitVec.toNat_allOnes, Nat.mod_eq_of_lt (by simpa using h)] at e
  exact e
theorem bits_not {x : Nat} (h : x < 4294967296) : bits .xor .u32 IntKind.u32.max (x : Int) = ((4294967295 - x : Nat) : Int) := by
  have e := u32_xor_nat 4294967295 x (by omega) h
  rw [not_word h] at e
  exact e
theorem t_bits {a b c d e f g h k v : Nat} (le : e < 4294967296) (lf : f < 4294967296) (lg : g < 4294967296) :
    ((h : Int) + bits .xor .u32 (bits .xor .u32 (rotr e 6 : Nat) (rotr e 11 : Nat)) (rotr e 25 : Nat) + bits .xor .u32 (bits .and .u32 (e : Nat) (f : Nat)) (bits .and .u32 (bits .xor .u32 IntKind.u32.max (e : Nat)) (g : Nat)) + (k : Nat) + (v : Nat)) % 4294967296 =
      (tW ⟨a, b, c, d, e, f, g, h⟩ k v : Nat) := by
  rw [u32_xor_nat _ _ (rotr_lt le) (rotr_lt le), u32_xor_nat _ _ (xor_lt (rotr_lt le) (rotr_lt le)) (rotr_lt le), bits_not le, u32_and_nat _ _ le lf, u32_and_nat _ _ (by omega) lg, u32_xor_nat _ _ (and_lt le) (and_lt (by omega))]
  unfold tW
  dsimp only
  omega
theorem u_bits {a b c d e f g h : Nat} (la : a < 4294967296) (lb : b < 4294967296) (lc : c < 4294967296) :
    (bits .xor .u32 (bits .xor .u32 (rotr a 2 : Nat) (rotr a 13 : Nat)) (rotr a 22 : Nat) + bits .xor .u32 (bits .xor .u32 (bits .and .u32 (a : Nat) (b : Nat)) (bits .and .u32 (a : Nat) (c : Nat))) (bits .and .u32 (b : Nat) (c : Nat))) % 4294967296 =
      (uW ⟨a, b, c, d, e, f, g, h⟩ : Nat) := by
  rw [u32_xor_nat _ _ (rotr_lt la) (rotr_lt la), u32_xor_nat _ _ (xor_lt (rotr_lt la) (rotr_lt la)) (rotr_lt la), u32_and_nat _ _ la lb, u32_and_nat _ _ la lc, u32_and_nat _ _ lb lc, u32_xor_nat _ _ (and_lt la) (and_lt la), u32_xor_nat _ _ (xor_lt (and_lt la) (and_lt la)) (and_lt lb)]
  unfold uW
  dsimp only
  omega
theorem val_u32 {x y : Int} (h : x = y) : Value.int .u32 x = .int .u32 y := by rw [h]

/-- The eight words while the first j have been added to. -/
def part8 (s t : S8) (j : Nat) : List Nat := (List.range 8).map fun i => if i < j then (s.words.getD i 0 + t.words.getD i 0) % 4294967296 else s.words.getD i 0
theorem part8_zero (s t : S8) : ((part8 s t 0).map wv).toArray = #[.int .u32 s.a, .int .u32 s.b, .int .u32 s.c, .int .u32 s.d, .int .u32 s.e, .int .u32 s.f, .int .u32 s.g, .int .u32 s.h] := rfl
theorem part8_full (s t : S8) : part8 s t 8 = (add8 s t).words := rfl
theorem part8_at (s t : S8) : ∀ j : Fin 8, ((part8 s t j.val).map wv).toArray[j.val]? = some (.int .u32 (s.words.getD j.val 0 : Nat)) := by
  intro j
  match j with
  | 0 => rfl
  | 1 => rfl
  | 2 => rfl
  | 3 => rfl
  | 4 => rfl
  | 5 => rfl
  | 6 => rfl
  | 7 => rfl
theorem part8_set (s t : S8) : ∀ j : Fin 8, ((part8 s t j.val).map wv).toArray.setIfInBounds j.val (wv ((s.words.getD j.val 0 + t.words.getD j.val 0) % 4294967296)) = ((part8 s t (j.val + 1)).map wv).toArray := by
  intro j
  match j with
  | 0 => rfl
  | 1 => rfl
  | 2 => rfl
  | 3 => rfl
  | 4 => rfl
  | 5 => rfl
  | 6 => rfl
  | 7 => rfl
theorem index8 (t : S8) : ∀ (j : Fin 8) (w : World), (Instr.index 52 (.agg #[.int .u32 t.a, .int .u32 t.b, .int .u32 t.c, .int .u32 t.d, .int .u32 t.e, .int .u32 t.f, .int .u32 t.g, .int .u32 t.h]) (.int .i64 j.val)).run Tryd.prog w = .ok (.int .u32 (t.words.getD j.val 0 : Nat)) w := by
  intro j w
  match j with
  | 0 => exact (fun (w : World) => (by kernel_rfl : (Instr.index 52 (.agg #[.int .u32 t.a, .int .u32 t.b, .int .u32 t.c, .int .u32 t.d, .int .u32 t.e, .int .u32 t.f, .int .u32 t.g, .int .u32 t.h]) (.int .i64 0)).run Tryd.prog w = .ok (.int .u32 (t.a : Nat)) w)) w
  | 1 => exact (fun (w : World) => (by kernel_rfl : (Instr.index 52 (.agg #[.int .u32 t.a, .int .u32 t.b, .int .u32 t.c, .int .u32 t.d, .int .u32 t.e, .int .u32 t.f, .int .u32 t.g, .int .u32 t.h]) (.int .i64 1)).run Tryd.prog w = .ok (.int .u32 (t.b : Nat)) w)) w
  | 2 => exact (fun (w : World) => (by kernel_rfl : (Instr.index 52 (.agg #[.int .u32 t.a, .int .u32 t.b, .int .u32 t.c, .int .u32 t.d, .int .u32 t.e, .int .u32 t.f, .int .u32 t.g, .int .u32 t.h]) (.int .i64 2)).run Tryd.prog w = .ok (.int .u32 (t.c : Nat)) w)) w
  | 3 => exact (fun (w : World) => (by kernel_rfl : (Instr.index 52 (.agg #[.int .u32 t.a, .int .u32 t.b, .int .u32 t.c, .int .u32 t.d, .int .u32 t.e, .int .u32 t.f, .int .u32 t.g, .int .u32 t.h]) (.int .i64 3)).run Tryd.prog w = .ok (.int .u32 (t.d : Nat)) w)) w
  | 4 => exact (fun (w : World) => (by kernel_rfl : (Instr.index 52 (.agg #[.int .u32 t.a, .int .u32 t.b, .int .u32 t.c, .int .u32 t.d, .int .u32 t.e, .int .u32 t.f, .int .u32 t.g, .int .u32 t.h]) (.int .i64 4)).run Tryd.prog w = .ok (.int .u32 (t.e : Nat)) w)) w
  | 5 => exact (fun (w : World) => (by kernel_rfl : (Instr.index 52 (.agg #[.int .u32 t.a, .int .u32 t.b, .int .u32 t.c, .int .u32 t.d, .int .u32 t.e, .int .u32 t.f, .int .u32 t.g, .int .u32 t.h]) (.int .i64 5)).run Tryd.prog w = .ok (.int .u32 (t.f : Nat)) w)) w
  | 6 => exact (fun (w : World) => (by kernel_rfl : (Instr.index 52 (.agg #[.int .u32 t.a, .int .u32 t.b, .int .u32 t.c, .int .u32 t.d, .int .u32 t.e, .int .u32 t.f, .int .u32 t.g, .int .u32 t.h]) (.int .i64 6)).run Tryd.prog w = .ok (.int .u32 (t.g : Nat)) w)) w
  | 7 => exact (fun (w : World) => (by kernel_rfl : (Instr.index 52 (.agg #[.int .u32 t.a, .int .u32 t.b, .int .u32 t.c, .int .u32 t.d, .int .u32 t.e, .int .u32 t.f, .int .u32 t.g, .int .u32 t.h]) (.int .i64 7)).run Tryd.prog w = .ok (.int .u32 (t.h : Nat)) w)) w
theorem words_lt {s : S8} (h : s.ok) : ∀ j : Fin 8, s.words.getD j.val 0 < 4294967296 := by
  intro j
  obtain ⟨h0, h1, h2, h3, h4, h5, h6, h7⟩ := h
  match j with
  | 0 => exact h0
  | 1 => exact h1
  | 2 => exact h2
  | 3 => exact h3
  | 4 => exact h4
  | 5 => exact h5
  | 6 => exact h6
  | 7 => exact h7
theorem info8 : (Tryd.prog.info? 52).map (·.size) = some 8 := by kernel_rfl

/-- The first n rounds, field by field. -/
theorem rnds_at (s : S8) (bl : List UInt8) (hs : s.ok) (n : Nat) : ∃ a b c d e f g h : Nat, rnds s (sched bl 64) n = ⟨a, b, c, d, e, f, g, h⟩ ∧
    a < 4294967296 ∧ b < 4294967296 ∧ c < 4294967296 ∧ d < 4294967296 ∧ e < 4294967296 ∧ f < 4294967296 ∧ g < 4294967296 ∧ h < 4294967296 := by
  have h := rnds_ok hs (sched bl 64) n
  generalize rnds s (sched bl 64) n = t at *
  exact ⟨t.a, t.b, t.c, t.d, t.e, t.f, t.g, t.h, rfl, h⟩

set_option maxRecDepth 100000 in
set_option maxHeartbeats 2000000 in
theorem mix_any (s : S8) (bl : List UInt8) (F : Array Value) (w : World) (hs : s.ok) (hF : F = ((sched bl 64).map wv).toArray) (hT : Tab w) :
    Calls Tryd.prog 43 #[.agg #[.int .u32 s.a, .int .u32 s.b, .int .u32 s.c, .int .u32 s.d, .int .u32 s.e, .int .u32 s.f, .int .u32 s.g, .int .u32 s.h], .agg F] w fun e w' =>
      e = .returned (.agg ((mixS s bl).words.map wv).toArray) ∧ Below w.heap.size w w' := by
  have HF := Lib.hid fun (i : Nat) (hi : i < 64) => (show F[i]? = some (.int .u32 ((sched bl 64).getD i 0 : Nat)) from by
    rw [hF, List.getElem?_toArray, List.getElem?_map, List.getD_eq_getElem?_getD, List.getElem?_eq_getElem (show i < (sched bl 64).length by rw [sched_length]; omega)]; rfl)
  have HT := Lib.hid hT; clear hF hT
  go_enter Tryd.func43, Tryd.ntmps43
  go_wp2
  go_quiet (fail)
  go_wp2
  go_quiet (fail)
  go_wp2
  go_loopw [5, 6, 7, 8, 9, 10, 11, 12, 13, 14, 15, 34] (fun va vb vc vd ve vf vg vh _ _ _ ii wr => ∃ (i a b c d e f g h : Nat), ii = .int .i64 i ∧ i ≤ 64 ∧
      va = .int .u32 a ∧ vb = .int .u32 b ∧ vc = .int .u32 c ∧ vd = .int .u32 d ∧ ve = .int .u32 e ∧ vf = .int .u32 f ∧ vg = .int .u32 g ∧ vh = .int .u32 h ∧ Hid (rnds s (sched bl 64) i = ⟨a, b, c, d, e, f, g, h⟩) ∧
      Blk wr w.heap.size 52 #[.int .u32 s.a, .int .u32 s.b, .int .u32 s.c, .int .u32 s.d, .int .u32 s.e, .int .u32 s.f, .int .u32 s.g, .int .u32 s.h] ∧
      Blk wr (w.heap.size + 1) 58 F ∧ (∃ R, Blk wr (w.heap.size + 1 + 1) 52 R ∧ R.size = 8) ∧ Below w.heap.size w wr)
    (fun _ _ _ _ _ _ _ _ _ _ _ ii _ => 64 - (intOf ii).toNat)
  case atStart =>
    obtain ⟨h1, h2, h3, h4⟩ := blk3 w 52 58 52 #[.int .u32 s.a, .int .u32 s.b, .int .u32 s.c, .int .u32 s.d, .int .u32 s.e, .int .u32 s.f, .int .u32 s.g, .int .u32 s.h] F #[.int .u32 0, .int .u32 0, .int .u32 0, .int .u32 0, .int .u32 0, .int .u32 0, .int .u32 0, .int .u32 0]
    exact ⟨0, s.a, s.b, s.c, s.d, s.e, s.f, s.g, s.h, rfl, by omega, rfl, rfl, rfl, rfl, rfl, rfl, rfl, rfl, Lib.hid rfl, h1, h2, ⟨_, h3, rfl⟩, below_drewN (below_drewN h4 _) _⟩
  case round =>
    obtain ⟨i, a, b, c, d, e, f, g, o, rfl, hi, rfl, rfl, rfl, rfl, rfl, rfl, rfl, rfl, HR, hbS, hbF, hbR, hbw⟩ := hrel
    by_cases hlt : i < 64
    · obtain ⟨a', b', c', d', e', f', g', h', hr, la, lb, lc, ld, le, lf, lg, lh⟩ := rnds_at s bl hs i
      rw [HR.out] at hr
      obtain ⟨rfl, rfl, rfl, rfl, rfl, rfl, rfl, rfl⟩ : a = a' ∧ b = b' ∧ c = c' ∧ d = d' ∧ e = e' ∧ f = f' ∧ g = g' ∧ o = h' := by simpa using hr
      clear hr
      have cK := (HT.out.below hbw (Nat.le_refl _)).2 i hlt
      have cW := hbF.cell (HF.out i hlt)
      have lK := kk_at i
      have lW := sched_at bl 64 i
      obtain ⟨K, hK⟩ : ∃ K, K = kk.getD i 0 := ⟨_, rfl⟩
      obtain ⟨V, hV⟩ : ∃ V, V = (sched bl 64).getD i 0 := ⟨_, rfl⟩
      rw [← hK] at cK lK
      rw [← hV] at cW lW
      have HK := Lib.hid hK; have HV := Lib.hid hV; clear hK hV
      have q1 : (0 : Int) ≤ (i : Int) := by omega
      have q2 : (i : Int) < 64 := by omega
      go_wp2
      go_quiet ((go_at_call 51; exact Calls.quiet_of (right_at e _ _ le (by omega) (by omega))))
      go_wp2_with fail
      refine (right_at a _ _ la (by omega) (by omega)).mono ?_
      rintro e1 w1 ⟨rfl, k1, rfl⟩
      go_wp2_with fail
      refine (right_at a _ _ la (by omega) (by omega)).mono ?_
      rintro e1 w1 ⟨rfl, k2, rfl⟩
      go_wp2_with fail
      refine (right_at a _ _ la (by omega) (by omega)).mono ?_
      rintro e1 w1 ⟨rfl, k3, rfl⟩
      go_wp2
      go_roundw
      case rel =>
        refine ⟨i + 1, (tW ⟨a, b, c, d, e, f, g, o⟩ K V + uW ⟨a, b, c, d, e, f, g, o⟩) % 4294967296, a, b, c, (d + tW ⟨a, b, c, d, e, f, g, o⟩ K V) % 4294967296, e, f, g, by go_num, by omega, val_u32 ?_, rfl, rfl, rfl, val_u32 ?_, rfl, rfl, rfl, ?_, hbS, hbF, hbR, below_drewN hbw _⟩
        · rw [t_bits (a := a) (b := b) (c := c) (d := d) le lf lg, u_bits (d := d) (e := e) (f := f) (g := g) (h := o) la lb lc]; omega
        · rw [t_bits (a := a) (b := b) (c := c) (d := d) le lf lg]; omega
        · show rnds s (sched bl 64) (i + 1) = _
          rw [rnds, HR.out, ← HK.out, ← HV.out]; rfl
      case measure => simp [intOf]; omega
    · have hi64 : i = 64 := by omega
      obtain ⟨t, ht⟩ : ∃ t : S8, t = ⟨a, b, c, d, e, f, g, o⟩ := ⟨_, rfl⟩
      have hmix : Hid (mixS s bl = add8 s t) := by show _ = _; rw [mixS, ht, ← HR.out, hi64]
      have ht8 : t.ok := by rw [ht, ← HR.out]; exact rnds_ok hs _ _
      obtain ⟨rfl, rfl, rfl, rfl, rfl, rfl, rfl, rfl⟩ : t.a = a ∧ t.b = b ∧ t.c = c ∧ t.d = d ∧ t.e = e ∧ t.f = f ∧ t.g = g ∧ t.h = o := by rw [ht]; exact ⟨rfl, rfl, rfl, rfl, rfl, rfl, rfl, rfl⟩
      have HS8 := Lib.hid hs; have HT8 := Lib.hid ht8
      clear HF HT HR ht ht8 hi64 hbF hi hs
      obtain ⟨wo, rfl⟩ : ∃ wo : World, wo = wr := ⟨_, rfl⟩
      go_wp2
      go_loopw [16, 17, 106] (fun _ _ jj wr => ∃ j : Nat, jj = .int .i64 j ∧ j ≤ 8 ∧ Blk wr w.heap.size 52 ((part8 s t j).map wv).toArray ∧ (∃ R, Blk wr (w.heap.size + 1 + 1) 52 R ∧ R.size = 8) ∧ Below w.heap.size w wr)
        (fun _ _ jj _ => 8 - (intOf jj).toNat)
      case atStart => exact ⟨0, rfl, by omega, hbS, hbR, hbw⟩
      case round =>
        clear hbS hbR hbw
        obtain ⟨j, rfl, hj, hbS, hbR, hbw⟩ := hrel
        by_cases hlt2 : j < 8
        · have cj := hbS.cell (part8_at s t ⟨j, hlt2⟩)
          have fj := hbS.frozen j
          have ij := index8 t ⟨j, hlt2⟩
          have l1 := words_lt HS8.out ⟨j, hlt2⟩
          have l2 := words_lt HT8.out ⟨j, hlt2⟩
          have st := part8_set s t ⟨j, hlt2⟩
          dsimp only at cj ij l1 l2 st
          obtain ⟨x, hx⟩ : ∃ x, x = s.words.getD j 0 := ⟨_, rfl⟩
          obtain ⟨y, hy⟩ : ∃ y, y = t.words.getD j 0 := ⟨_, rfl⟩
          rw [← hx] at cj l1 st
          rw [← hy] at ij l2 st
          have ST := Lib.hid st
          clear hx hy st
          go_wp2
          go_roundw
          case rel => exact ⟨j + 1, by go_num, by omega, (by rw [← ST.out]; exact hbS.set j _), (by obtain ⟨R, h1, h2⟩ := hbR; exact ⟨R, h1.far (by show w.heap.size + 1 + 1 ≠ w.heap.size; omega) _, h2⟩), hbw.setCell (Nat.le_refl _) _⟩
          case measure => simp [intOf]; omega
        · have hS : Blk wr w.heap.size 52 ((mixS s bl).words.map wv).toArray := by
            rw [hmix.out, ← part8_full, show 8 = j from by omega]; exact hbS
          obtain ⟨Z, hZ⟩ : ∃ Z, Z = ((mixS s bl).words.map wv).toArray := ⟨_, rfl⟩
          have hZ1 : Z.size = 8 := by rw [hZ]; rfl
          have hZ2 : Z.all (·.oneCell') = true := by rw [hZ]; exact wv_one _
          rw [← hZ] at hS
          have HZ := Lib.hid hZ; have HS := Lib.hid hS; have HR := Lib.hid hbR; have HZ2 := Lib.hid hZ2; have HZ1 := Lib.hid hZ1
          clear hZ hbS hS hbR hZ2 hZ1
          obtain ⟨R, hR1, hR2⟩ := HR.out
          have HR1 := Lib.hid hR1; have HR2 := Lib.hid hR2; clear hR1 hR2
          go_wp2_with (first
            | (refine wpList_load_row rfl 52 (.tmp 2) rfl w.heap.size rfl 52 Z (0, 0) _ HS.out Tryd.underlying52 rfl (info8.trans (congrArg some HZ1.out.symm)) ?_)
            | (refine wpList_store_row rfl 52 (.tmp 4) (.tmp 117) rfl (w.heap.size + 1 + 1) Z rfl rfl 52 R HR1.out (info8.trans (congrArg some HZ1.out.symm)) (HR2.out.trans HZ1.out.symm) HZ2.out ?_))
          refine bodyPost_ret (results_cell_row rfl _ _ (w.heap.size + 1 + 1) 52 Z (0, 0) _ rfl (HR1.out.setRow Z) Tryd.underlying52 rfl (info8.trans (congrArg some HZ1.out.symm))) rfl ?_
          exact ⟨by rw [← HZ.out], below_setRow hbw (by omega) _⟩
end Go.Proofs.YthaegodeijfbdaaDoor
