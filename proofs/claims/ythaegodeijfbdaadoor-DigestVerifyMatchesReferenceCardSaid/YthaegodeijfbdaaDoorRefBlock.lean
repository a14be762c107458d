/- The contract of the reference's block. Conditions: eight words and a block of 64 bytes that read. -/
import Derived.Test.YthaegodeijfbdaaDoorRefExt
namespace Go.Proofs.YthaegodeijfbdaaDoor
open Go.RowKit Go.Lib

theorem info_u32 : (Tryd.prog.info? 38).map (fun i => (i.zero, i.size, i.bytes)) = some (some (.int .u32 0), 1, 4) := by kernel_rfl
/-- A list of words that the call itself has made. -/
def WordsOut (w : World) (l : List Nat) (e : Ending) (w' : World) : Prop := ∃ v, e = .returned v ∧ w'.ownsRow w.heap.size 38 1 v l.length (l.map wv) ∧ Below w.heap.size w w'
theorem own_pos {W : World} {B e n : Nat} {v : Value} {xs : List Value} (h : W.ownsRow B e 1 v n xs) (h0 : 0 < n) : ∃ g c, v = .slice (some ⟨g, 0, none⟩) n c := by
  obtain ⟨k, rfl⟩ : ∃ k, n = k + 1 := ⟨n - 1, by omega⟩
  exact ownsRow_succ h
theorem own_word {W : World} {B e n g c : Nat} {l : List Nat} (h : W.ownsRow B e 1 (.slice (some ⟨g, 0, none⟩) n c) n (l.map wv)) {j : Nat} (hj : j < n) : W.cell? ⟨g, j, none⟩ = some (.int .u32 (l.getD j 0 : Nat)) := by
  have hl : l.length = n := by have := h.1; simpa using this
  rw [h.cellAt j (by omega), List.getElem?_map, List.getD_eq_getElem?_getD, List.getElem?_eq_getElem (show j < l.length by omega)]; rfl
theorem own_val {W : World} {B e n : Nat} {v : Value} {xs : List Value} {x y : Int} (h : W.ownsRow B e 1 v n (xs ++ [.int .u32 x])) (he : x = y) : W.ownsRow B e 1 v n (xs ++ [.int .u32 y]) := by subst he; exact h
theorem new8 (w : World) (ty : TypeId) (x0 x1 x2 x3 x4 x5 x6 x7 : Int) (t : S8) (h0 : x0 = (t.a : Nat)) (h1 : x1 = (t.b : Nat)) (h2 : x2 = (t.c : Nat)) (h3 : x3 = (t.d : Nat)) (h4 : x4 = (t.e : Nat)) (h5 : x5 = (t.f : Nat)) (h6 : x6 = (t.g : Nat)) (h7 : x7 = (t.h : Nat)) :
    ∀ j v, (t.words.map wv)[j]? = some v → (w.alloc (.cells #[.int .u32 x0, .int .u32 x1, .int .u32 x2, .int .u32 x3, .int .u32 x4, .int .u32 x5, .int .u32 x6, .int .u32 x7] ty)).cell? ⟨w.heap.size, j, none⟩ = some v := fun j v hj => by
  subst h0; subst h1; subst h2; subst h3; subst h4; subst h5; subst h6; subst h7
  have e : (#[Value.int .u32 (t.a : Nat), .int .u32 (t.b : Nat), .int .u32 (t.c : Nat), .int .u32 (t.d : Nat), .int .u32 (t.e : Nat), .int .u32 (t.f : Nat), .int .u32 (t.g : Nat), .int .u32 (t.h : Nat)] : Array Value) = (t.words.map wv).toArray := rfl
  rw [e]
  exact (Blk.new w ty _).cell (by rw [List.getElem?_toArray]; exact hj)
theorem add8_take (s t : S8) : ∀ j : Fin 8, (add8 s t).words.take (j.val + 1) = (add8 s t).words.take j.val ++ [(s.words.getD j.val 0 + t.words.getD j.val 0) % 4294967296] := by
  intro j
  match j with
  | 0 => rfl
  | 1 => rfl
  | 2 => rfl
  | 3 => rfl
  | 4 => rfl
  | 5 => rfl
  | 6 => rfl
  | 7 => rfl
theorem words_at (t : S8) : ∀ j : Fin 8, (t.words.map wv)[j.val]? = some (.int .u32 (t.words.getD j.val 0 : Nat)) := by
  intro j
  match j with
  | 0 => rfl
  | 1 => rfl
  | 2 => rfl
  | 3 => rfl
  | 4 => rfl
  | 5 => rfl
  | 6 => rfl
  | 7 => rfl
theorem own_lt {W : World} {B e n g c : Nat} {xs : List Value} (h : W.ownsRow B e 1 (.slice (some ⟨g, 0, none⟩) n c) n xs) : g < W.heap.size := (h.lt g rfl).2

theorem constants_out (w : World) : Calls Tryd.prog 46 #[] w fun e w' => ∃ bk, e = .returned (.slice (some ⟨bk, 0, none⟩) 64 64) ∧ bk < w'.heap.size ∧ Hid (∀ j, j < 64 → w'.cell? ⟨bk, j, none⟩ = some (.int .u32 (kk.getD j 0 : Nat))) ∧ Below w.heap.size w w' := by
  refine (constants_any w).mono ?_
  rintro e w' ⟨rfl, rfl⟩
  refine ⟨_, rfl, by simp, fun j hj => ?_, (Below.refl _ _).alloc (Nat.le_refl _) _⟩
  refine (Blk.new w _ _).cell ?_
  rw [List.getElem?_toArray, List.getElem?_map, List.getD_eq_getElem?_getD, List.getElem?_eq_getElem (show j < kk.length by simpa [kk] using hj)]; rfl

set_option maxRecDepth 100000 in
set_option maxHeartbeats 4000000 in
theorem block_any (s : S8) (bl : List UInt8) (B : Array Value) (bh ch bb ob cb : Nat) (w : World) (hs : s.ok) (hB : B = (bl.map bv).toArray) (hl : bl.length = 64) (h1 : bh < w.heap.size) (h2 : bb < w.heap.size)
    (hH : ∀ j v, (s.words.map wv)[j]? = some v → w.cell? ⟨bh, j, none⟩ = some v) (hC : ∀ j v, B[j]? = some v → w.cell? ⟨bb, ob + j, none⟩ = some v) :
    Calls Tryd.prog 30 #[.slice (some ⟨bh, 0, none⟩) 8 ch, .slice (some ⟨bb, ob, none⟩) 64 cb] w (WordsOut w (mixS s bl).words) := by
  have AT := Lib.hid fun (i : Nat) (hi : i < 16) => word_at hB hl hi
  have HH := Lib.hid hH; have HC := Lib.hid hC; have HS8 := Lib.hid hs
  obtain ⟨i0, hi0, hz0, hz1, hz2⟩ := info_parts info_u32
  clear hB hH hC hl hs
  go_enter Tryd.func30, Tryd.ntmps30
  go_wp2
  go_loopw [5, 6] (fun vv ii wr => ∃ i : Nat, ii = .int .i64 i ∧ i ≤ 16 ∧ wr.ownsRow w.heap.size 38 1 vv i ((sched bl i).map wv) ∧ Below w.heap.size w wr) (fun _ ii _ => 16 - (intOf ii).toNat)
  case atStart => exact ⟨0, rfl, by omega, World.ownsRow_nil _ _ _ _, Below.refl _ _⟩
  case round =>
    obtain ⟨i, rfl, hi, hown, hb⟩ := hrel
    have hbs := hb.size
    by_cases hlt : i < 16
    · obtain ⟨x0, x1, x2, x3, d0, d1, d2, d3, l0, l1, l2, l3, hw⟩ := AT.out i hlt
      have HK := Lib.hid fun W (h : Below w.heap.size w W) => (⟨(h.cell (p := ⟨bb, ob + 4 * i, none⟩) h2).trans (HC.out _ _ d0), (h.cell (p := ⟨bb, ob + (4 * i + 1), none⟩) h2).trans (HC.out _ _ d1), (h.cell (p := ⟨bb, ob + (4 * i + 2), none⟩) h2).trans (HC.out _ _ d2), (h.cell (p := ⟨bb, ob + (4 * i + 3), none⟩) h2).trans (HC.out _ _ d3)⟩ :
        W.cell? ⟨bb, ob + 4 * i, none⟩ = some (.int .u8 x0) ∧ W.cell? ⟨bb, ob + (4 * i + 1), none⟩ = some (.int .u8 x1) ∧ W.cell? ⟨bb, ob + (4 * i + 2), none⟩ = some (.int .u8 x2) ∧ W.cell? ⟨bb, ob + (4 * i + 3), none⟩ = some (.int .u8 x3))
      have bK := hb.drew
      have HS1 : Hid ((sched bl (i + 1)).map wv = (sched bl i).map wv ++ [wv (word bl i)]) := by show _ = _; rw [sched, if_pos hlt, List.map_append]; rfl
      have HW := Lib.hid hw
      have p1 : (0 : Int) ≤ 4 * (i : Int) := by omega
      have p2 : 4 * (i : Int) < 64 := by omega
      have p3 : (0 : Int) ≤ 4 * (i : Int) + 1 := by omega
      have p4 : 4 * (i : Int) + 1 < 64 := by omega
      have p5 : (0 : Int) ≤ 4 * (i : Int) + 2 := by omega
      have p6 : 4 * (i : Int) + 2 < 64 := by omega
      have p7 : (0 : Int) ≤ 4 * (i : Int) + 3 := by omega
      have p8 : 4 * (i : Int) + 3 < 64 := by omega
      have r1 : IntKind.i64.wrap (4 * (i : Int)) = 4 * (i : Int) := IntWalk.i64_in _ (by omega)
      have r2 : IntKind.i64.wrap (4 * (i : Int) + 1) = 4 * (i : Int) + 1 := IntWalk.i64_in _ (by omega)
      have r3 : IntKind.i64.wrap (4 * (i : Int) + 2) = 4 * (i : Int) + 2 := IntWalk.i64_in _ (by omega)
      have r4 : IntKind.i64.wrap (4 * (i : Int) + 3) = 4 * (i : Int) + 3 := IntWalk.i64_in _ (by omega)
      have t1 : (4 * (i : Int)).toNat = 4 * i := by omega
      have t2 : (4 * (i : Int) + 1).toNat = 4 * i + 1 := by omega
      have t3 : (4 * (i : Int) + 2).toNat = 4 * i + 2 := by omega
      have t4 : (4 * (i : Int) + 3).toNat = 4 * i + 3 := by omega
      have w0 : IntKind.u32.wrap (x0 : Int) = x0 := IntWalk.u32_in _ ⟨by omega, by omega⟩
      have w1 : IntKind.u32.wrap (x1 : Int) = x1 := IntWalk.u32_in _ ⟨by omega, by omega⟩
      have w2 : IntKind.u32.wrap (x2 : Int) = x2 := IntWalk.u32_in _ ⟨by omega, by omega⟩
      have w3 : IntKind.u32.wrap (x3 : Int) = x3 := IntWalk.u32_in _ ⟨by omega, by omega⟩
      have w4 : IntKind.u32.wrap ((x0 : Int) * 16777216) = x0 * 16777216 := IntWalk.u32_in _ ⟨by omega, by omega⟩
      have w5 : IntKind.u32.wrap ((x1 : Int) * 65536) = x1 * 65536 := IntWalk.u32_in _ ⟨by omega, by omega⟩
      have w6 : IntKind.u32.wrap ((x2 : Int) * 256) = x2 * 256 := IntWalk.u32_in _ ⟨by omega, by omega⟩
      clear d0 d1 d2 d3 hw
      go_wp2_with fail
      go_region_held3 (fun w' => w'.cell? ⟨bb, ob + 4 * i, none⟩ = some (.int .u8 x0) ∧ w'.cell? ⟨bb, ob + (4 * i + 1), none⟩ = some (.int .u8 x1) ∧ w'.cell? ⟨bb, ob + (4 * i + 2), none⟩ = some (.int .u8 x2) ∧ w'.cell? ⟨bb, ob + (4 * i + 3), none⟩ = some (.int .u8 x3)) (first | exact HK.out _ bK | exact HK.out _ (bK.alloc bK.size _))
        (first
          | (refine step_append_own rfl _ _ 39 rfl w.heap.size 38 i0 (.int .u32 0) 1 4 Tryd.underlying39 hi0 hz0 hz1 hz2 rfl (by decide) _ _ _ (by kernel_rfl) (hown.drew.alloc _) ⟨wr.heap.size, 0, none⟩ 1 1 [_] (by kernel_rfl) rfl (cell_one_new _ _ _) (by simp [Value.oneCell']) (by unfold maxLen; omega) (by omega) (by simp; omega) ?_; intro v3 W3 ho3 hg3; have bK := (bK.alloc bK.size _).grown hg3 (by simp; omega) (own_base hown)))
      all_goals
        clear HK
        have bF := Lib.hid bK
        rw [HW.out] at ho3
        have HO3 := Lib.hid ho3
        clear ho3 hg3 bK
        go_wp2
        go_roundw
        case rel => exact ⟨i + 1, by go_num, by omega, (by rw [HS1.out]; exact HO3.out), bF.out⟩
        case measure => simp [intOf]; omega
    · have hi16 : i = 16 := by omega
      rw [hi16] at hown
      have HO := Lib.hid hown; have HB := Lib.hid hb
      have hge : 16 ≤ i := by omega
      clear hown hb hbs hi16 hlt hi AT HC
      obtain ⟨wo, rfl⟩ : ∃ wo : World, wo = wr := ⟨_, rfl⟩
      go_wp2
      go_loopw [5, 7, 8, 9] (fun vv ii _ _ wr => ∃ (i g c : Nat), ii = .int .i64 i ∧ 16 ≤ i ∧ i ≤ 64 ∧ vv = .slice (some ⟨g, 0, none⟩) i c ∧ wr.ownsRow w.heap.size 38 1 vv i ((sched bl i).map wv) ∧ Below w.heap.size w wr) (fun _ ii _ _ _ => 64 - (intOf ii).toNat)
      case atStart =>
        obtain ⟨g, c, rfl⟩ := own_pos HO.out (by omega)
        exact ⟨16, g, c, rfl, by omega, by omega, rfl, HO.out, HB.out⟩
      case round =>
        obtain ⟨i, g, c, rfl, hi1, hi2, rfl, hown, hb⟩ := hrel
        have hbs := hb.size
        have hg := own_lt hown
        by_cases hlt : i < 64
        · obtain ⟨a, b, e, d, ea, eb, ec, ed, la, lb, lc, ld, hx⟩ := next_at bl hi1
          have ca := own_word hown (j := i - 16) (by omega)
          have cb' := own_word hown (j := i - 15) (by omega)
          have cc := own_word hown (j := i - 7) (by omega)
          have cd := own_word hown (j := i - 2) (by omega)
          rw [ea] at ca; rw [eb] at cb'; rw [ec] at cc; rw [ed] at cd
          have HS1 : Hid ((sched bl (i + 1)).map wv = (sched bl i).map wv ++ [.int .u32 ((a + sx b + e + sy d) % 4294967296 : Nat)]) := by
            show _ = _
            rw [sched, List.map_append, ← hx]; rfl
          have hX := sx_bits lb
          have hY := sy_bits ld
          have lx := sx_lt lb
          have ly := sy_lt ld
          have HCA := Lib.hid ca; have HCC := Lib.hid cc
          have HKa := Lib.hid fun W (h : Below wr.heap.size wr W) => (h.cell (p := ⟨g, i - 16, none⟩) hg).trans ca
          have HKc := Lib.hid fun W (h : Below wr.heap.size wr W) => (h.cell (p := ⟨g, i - 7, none⟩) hg).trans cc
          have q1 : (0 : Int) ≤ (i : Int) - 15 := by omega
          have q2 : (i : Int) - 15 < (i : Int) := by omega
          have q3 : (0 : Int) ≤ (i : Int) - 2 := by omega
          have q4 : (i : Int) - 2 < (i : Int) := by omega
          have q5 : IntKind.i64.wrap ((i : Int) - 15) = (i : Int) - 15 := IntWalk.i64_in _ (by omega)
          have q6 : IntKind.i64.wrap ((i : Int) - 2) = (i : Int) - 2 := IntWalk.i64_in _ (by omega)
          have q7 : ((i : Int) - 15).toNat = i - 15 := by omega
          have q8 : ((i : Int) - 2).toNat = i - 2 := by omega
          have p1 : (15 : Int) ≤ (i : Int) := by omega
          have p2 : (2 : Int) ≤ (i : Int) := by omega
          clear ea eb ec ed hx ca cc
          go_wp2
          go_quiet ((go_at_call 45; exact Calls.quiet_of (rotated_at b _ _ lb (by omega) (by omega))))
          go_wp2
          clear hX q1 q2 q5 q7 p1
          go_quiet ((go_at_call 45; exact quiet_on (rotated_at d _ _ ld (by omega) (by omega))))
          clear hY q3 q4 q6 q8 p2
          have r1 : (0 : Int) ≤ (i : Int) - 16 := by omega
          have r2 : (i : Int) - 16 < (i : Int) := by omega
          have r3 : (0 : Int) ≤ (i : Int) - 7 := by omega
          have r4 : (i : Int) - 7 < (i : Int) := by omega
          have r5 : IntKind.i64.wrap ((i : Int) - 16) = (i : Int) - 16 := IntWalk.i64_in _ (by omega)
          have r6 : IntKind.i64.wrap ((i : Int) - 7) = (i : Int) - 7 := IntWalk.i64_in _ (by omega)
          have r7 : ((i : Int) - 16).toNat = i - 16 := by omega
          have r8 : ((i : Int) - 7).toNat = i - 7 := by omega
          have r9 : (16 : Int) ≤ (i : Int) := by omega
          have r0 : (7 : Int) ≤ (i : Int) := by omega
          have ca := HCA.out
          have cc := HCC.out
          go_wp2_with fail
          go_region_law (refine step_append_own rfl _ _ 39 rfl w.heap.size 38 i0 (.int .u32 0) 1 4 Tryd.underlying39 hi0 hz0 hz1 hz2 rfl (by decide) _ _ _ (by kernel_rfl) (own_below hown ((below_drewN (Below.refl wr.heap.size wr) _).alloc (by simp) _) (Nat.le_refl _)) ⟨wr.heap.size, 0, none⟩ 1 1 [_] (by kernel_rfl) rfl (cell_one_new _ _ _) (by simp [Value.oneCell']) (by unfold maxLen; omega) (by omega) (by simp; omega) ?_; intro v3 W3 ho3 hg3; have bN := (((below_drewN hb _).alloc (by simp; omega) _)).grown hg3 (by simp; omega) (own_base hown))
          all_goals
            have ho4 := own_val (y := ((a + sx b + e + sy d) % 4294967296 : Nat)) ho3 (by (try simp only [IntKind.wrap_u32]); omega)
            obtain ⟨g3, c3, rfl⟩ := own_pos ho4 (by omega)
            have HO4 := Lib.hid ho4
            clear ho3 hg3 ho4
            go_wp2
            go_roundw
            case rel => exact ⟨i + 1, g3, c3, by go_num, by omega, by omega, rfl, (by rw [HS1.out]; exact HO4.out), bN⟩
            case measure => simp [intOf]; omega
        · have hi64 : i = 64 := by omega
          have hWc : ∀ j, j < 64 → wr.cell? ⟨g, j, none⟩ = some (.int .u32 ((sched bl 64).getD j 0 : Nat)) := fun j hj => by
            rw [← hi64]; exact own_word hown (by omega)
          have HWC := Lib.hid hWc
          have hge2 : 64 ≤ i := by omega
          have HB2 := Lib.hid hb
          have HHr : Hid (∀ j v, (s.words.map wv)[j]? = some v → wr.cell? ⟨bh, j, none⟩ = some v) := fun j v hv => (hb.cell (p := ⟨bh, j, none⟩) h1).trans (HH.out j v hv)
          clear hWc hown hi64 hi1 hi2 hlt HO HB HH
          subst_vars
          go_wp2_with fail
          refine (constants_out _).mono ?_
          rintro e W1 ⟨bk, rfl, hz1', HK1, hb1⟩
          have HCS : Hid (∀ j u, (s.words.map wv)[j]? = some u → W1.cell? ((⟨bh, 0, none⟩ : Addr).add j) = some u) := fun j u hj => by
            have e : (⟨bh, 0, none⟩ : Addr).add j = ⟨bh, j, none⟩ := by unfold Addr.add; split <;> simp_all
            rw [e]
            have hj8 : bh < wr.heap.size := Nat.lt_of_lt_of_le h1 hbs
            exact (hb1.cell (p := ⟨bh, j, none⟩) hj8).trans (HHr.out j u hj)
          have H1C : Hid (∀ u ∈ s.words.map wv, u.oneCell' = true) := fun u hu => by
            obtain ⟨x, _, rfl⟩ := List.mem_map.1 hu
            rfl
          go_wp2_with (at_builtin; refine wpList_append_own _ rfl _ _ 39 rfl W1.heap.size 38 i0 (.int .u32 0) 1 4 Tryd.underlying39 hi0 hz0 hz1 hz2 rfl (by decide) _ 0 [] rfl (World.ownsRow_nil _ _ _ _) ⟨bh, 0, none⟩ 8 ch (s.words.map wv) rfl rfl HCS.out H1C.out (by unfold maxLen; omega) (by omega) (Nat.le_refl _) ?_; intro v2 W2 ho2 hg2 _)
          have b2 : Below W1.heap.size W1 W2 := (Below.refl _ _).grown hg2 (Nat.le_refl _) (fun k hk => by cases hk)
          rw [Nat.zero_add, List.nil_append] at ho2
          obtain ⟨gv0, cv0, rfl⟩ := own_pos ho2 (by omega)
          have HV0 : Hid (∀ j v, (s.words.map wv)[j]? = some v → W2.cell? ⟨gv0, j, none⟩ = some v) := fun j v hv => by
            have hj : j < 8 := by
              have h3 := (List.getElem?_eq_some_iff.1 hv).1
              rw [List.length_map] at h3; exact h3
            rw [own_word ho2 hj]
            have := words_at s ⟨j, hj⟩
            dsimp only at this
            rw [← hv, this]
          have hgv0 := own_lt ho2
          have b02 : Below wr.heap.size wr W2 := hb1.trans (b2.mono hb1.size)
          have HK2 : Hid (∀ j, j < 64 → W2.cell? ⟨bk, j, none⟩ = some (.int .u32 (kk.getD j 0 : Nat))) := fun j hj => (b2.cell (p := ⟨bk, j, none⟩) hz1').trans (HK1.out j hj)
          have HW2 : Hid (∀ j, j < 64 → W2.cell? ⟨g, j, none⟩ = some (.int .u32 ((sched bl 64).getD j 0 : Nat))) := fun j hj => (b02.cell (p := ⟨g, j, none⟩) hg).trans (HWC.out j hj)
          have HH2 : Hid (∀ j v, (s.words.map wv)[j]? = some v → W2.cell? ⟨bh, j, none⟩ = some v) := fun j v hv => (b02.cell (p := ⟨bh, j, none⟩) (Nat.lt_of_lt_of_le h1 hbs)).trans (HHr.out j v hv)
          have hk2 : bk < W2.heap.size := Nat.lt_of_lt_of_le hz1' b2.size
          have hg2' : g < W2.heap.size := Nat.lt_of_lt_of_le hg b02.size
          have hh2 : bh < W2.heap.size := Nat.lt_of_lt_of_le (Nat.lt_of_lt_of_le h1 hbs) b02.size
          have HBw : Hid (Below w.heap.size w W2) := HB2.out.trans (b02.mono hbs)
          clear ho2 hg2 b2 b02 HCS H1C HK1 HWC HHr HB2 hb1 hz1'
          go_wp2
          go_loopw [11, 12, 13, 14, 15, 16] (fun vv ii _ _ _ _ w3 => ∃ (i gv cv : Nat) (t : S8), ii = .int .i64 i ∧ i ≤ 64 ∧ vv = .slice (some ⟨gv, 0, none⟩) 8 cv ∧ gv < w3.heap.size ∧ Hid (t = rnds s (sched bl 64) i) ∧ Hid (∀ j v, (t.words.map wv)[j]? = some v → w3.cell? ⟨gv, j, none⟩ = some v) ∧ Below W2.heap.size W2 w3) (fun _ ii _ _ _ _ _ => 64 - (intOf ii).toNat)
          case atStart => exact ⟨0, gv0, cv0, s, rfl, by omega, rfl, hgv0, rfl, HV0.out, Below.refl _ _⟩
          case round =>
            obtain ⟨i3, gv, cv, t, rfl, hi3, rfl, hgv, HT, HV, hb3⟩ := hrel
            have hbs3 := hb3.size
            by_cases hlt3 : i3 < 64
            · obtain ⟨a, b, c', d, e, f, g', o, hr, la, lb, lc, ld, le, lf, lg, lh⟩ := rnds_at s bl HS8.out i3
              have ht : t = ⟨a, b, c', d, e, f, g', o⟩ := HT.out.trans hr
              subst ht
              have c0 : wr.cell? ⟨gv, 0, none⟩ = some (.int .u32 (a : Nat)) := HV.out 0 _ rfl
              have c1 : wr.cell? ⟨gv, 1, none⟩ = some (.int .u32 (b : Nat)) := HV.out 1 _ rfl
              have c2 : wr.cell? ⟨gv, 2, none⟩ = some (.int .u32 (c' : Nat)) := HV.out 2 _ rfl
              have c3 : wr.cell? ⟨gv, 3, none⟩ = some (.int .u32 (d : Nat)) := HV.out 3 _ rfl
              have c4 : wr.cell? ⟨gv, 4, none⟩ = some (.int .u32 (e : Nat)) := HV.out 4 _ rfl
              have c5 : wr.cell? ⟨gv, 5, none⟩ = some (.int .u32 (f : Nat)) := HV.out 5 _ rfl
              have c6 : wr.cell? ⟨gv, 6, none⟩ = some (.int .u32 (g' : Nat)) := HV.out 6 _ rfl
              have c7 : wr.cell? ⟨gv, 7, none⟩ = some (.int .u32 (o : Nat)) := HV.out 7 _ rfl
              have cK := (hb3.cell (p := ⟨bk, i3, none⟩) hk2).trans (HK2.out i3 hlt3)
              have cW := (hb3.cell (p := ⟨g, i3, none⟩) hg2').trans (HW2.out i3 hlt3)
              have lK := kk_at i3
              have lW := sched_at bl 64 i3
              obtain ⟨K, hK⟩ : ∃ K, K = kk.getD i3 0 := ⟨_, rfl⟩
              obtain ⟨V, hV⟩ : ∃ V, V = (sched bl 64).getD i3 0 := ⟨_, rfl⟩
              rw [← hK] at cK lK
              rw [← hV] at cW lW
              have HNX : Hid (rnd ⟨a, b, c', d, e, f, g', o⟩ K V = rnds s (sched bl 64) (i3 + 1)) := by show _ = _; rw [rnds, hr, hK, hV]
              have HKS := Lib.hid fun W (hw : Below wr.heap.size wr W) => (⟨(hw.cell (p := ⟨gv, 1, none⟩) hgv).trans c1, (hw.cell (p := ⟨gv, 2, none⟩) hgv).trans c2, (hw.cell (p := ⟨gv, 3, none⟩) hgv).trans c3, (hw.cell (p := ⟨gv, 5, none⟩) hgv).trans c5, (hw.cell (p := ⟨gv, 6, none⟩) hgv).trans c6⟩ :
                W.cell? ⟨gv, 1, none⟩ = some (.int .u32 (b : Nat)) ∧ W.cell? ⟨gv, 2, none⟩ = some (.int .u32 (c' : Nat)) ∧ W.cell? ⟨gv, 3, none⟩ = some (.int .u32 (d : Nat)) ∧ W.cell? ⟨gv, 5, none⟩ = some (.int .u32 (f : Nat)) ∧ W.cell? ⟨gv, 6, none⟩ = some (.int .u32 (g' : Nat)))
              have q1 : (0 : Int) ≤ (i3 : Int) := by omega
              have q2 : (i3 : Int) < 64 := by omega
              have q3 : (i3 : Int) < (i : Int) := by omega
              clear hK hV hr HT HV
              go_wp2
              go_quiet ((go_at_call 45; exact Calls.quiet_of (rotated_at e _ _ le (by omega) (by omega))))
              go_wp2
              go_quiet ((go_at_call 45; exact quiet_on (rotated_at a _ _ la (by omega) (by omega))))
              go_wp2_with fail
              go_region_held3 (fun w' => w'.cell? ⟨gv, 1, none⟩ = some (.int .u32 (b : Nat)) ∧ w'.cell? ⟨gv, 2, none⟩ = some (.int .u32 (c' : Nat)) ∧ w'.cell? ⟨gv, 3, none⟩ = some (.int .u32 (d : Nat)) ∧ w'.cell? ⟨gv, 5, none⟩ = some (.int .u32 (f : Nat)) ∧ w'.cell? ⟨gv, 6, none⟩ = some (.int .u32 (g' : Nat)))
                (first | exact HKS.out _ ((below_drewN (below_drewN (Below.refl _ _) _) _).drew) | exact HKS.out _ (below_drewN (Below.refl _ _) _) | exact HKS.out _ ((below_drewN (Below.refl _ _) _).alloc (by simp) _)) (fail)
              all_goals
                clear HKS
                go_wp2
                go_roundw
                case rel =>
                  refine ⟨i3 + 1, wr.heap.size, 8, rnd ⟨a, b, c', d, e, f, g', o⟩ K V, by go_num, by omega, rfl, by simp, HNX.out, new8 _ _ _ _ _ _ _ _ _ _ _ ?_ rfl rfl rfl ?_ rfl rfl rfl, (below_drewN hb3 _).alloc (by simp; omega) _⟩
                  · (try simp only [IntKind.wrap_u32])
                    rw [t_bits (a := a) (b := b) (c := c') (d := d) le lf lg, u_bits (d := d) (e := e) (f := f) (g := g') (h := o) la lb lc]; show _ = (((_ : Nat) % _ : Nat) : Int); omega
                  · (try simp only [IntKind.wrap_u32])
                    rw [t_bits (a := a) (b := b) (c := c') (d := d) le lf lg]; show _ = (((d + tW ⟨a, b, c', d, e, f, g', o⟩ K V) % 4294967296 : Nat) : Int); omega
                case measure => simp [intOf]; omega
            · have hi64 : i3 = 64 := by omega
              have hmix : Hid ((mixS s bl).words = (add8 s t).words) := by show _ = _; rw [mixS, HT.out, hi64]
              have hge3 : 64 ≤ i3 := by omega
              have htok : t.ok := by rw [HT.out]; exact rnds_ok HS8.out _ _
              have HTOK := Lib.hid htok
              have HHv : Hid (∀ j v, (s.words.map wv)[j]? = some v → wr.cell? ⟨bh, j, none⟩ = some v) := fun j v hv => (hb3.cell (p := ⟨bh, j, none⟩) hh2).trans (HH2.out j v hv)
              have hh3 : bh < wr.heap.size := Nat.lt_of_lt_of_le hh2 hbs3
              have HBx : Hid (Below w.heap.size w wr) := HBw.out.trans (hb3.mono (by have := HBw.out.size; omega))
              obtain ⟨W3, rfl⟩ : ∃ W3 : World, W3 = wr := ⟨_, rfl⟩
              clear hi64 htok HT HK2 HW2 HH2 HBw hlt3 hi3
              go_wp2
              go_loopw [17, 18] (fun vv ii wr => ∃ j : Nat, ii = .int .i64 j ∧ j ≤ 8 ∧ wr.ownsRow W3.heap.size 38 1 vv j (((add8 s t).words.take j).map wv) ∧ Below W3.heap.size W3 wr) (fun _ ii _ => 8 - (intOf ii).toNat)
              case atStart => exact ⟨0, rfl, by omega, World.ownsRow_nil _ _ _ _, Below.refl _ _⟩
              case round =>
                obtain ⟨j, rfl, hj, hown, hb4⟩ := hrel
                have hbs4 := hb4.size
                by_cases hlt4 : j < 8
                · have l1 := words_lt HS8.out ⟨j, hlt4⟩
                  have l2 := words_lt HTOK.out ⟨j, hlt4⟩
                  have w1 := words_at s ⟨j, hlt4⟩
                  have w2 := words_at t ⟨j, hlt4⟩
                  have st := add8_take s t ⟨j, hlt4⟩
                  dsimp only at l1 l2 w1 w2 st
                  obtain ⟨x, hx⟩ : ∃ x, x = s.words.getD j 0 := ⟨_, rfl⟩
                  obtain ⟨y, hy⟩ : ∃ y, y = t.words.getD j 0 := ⟨_, rfl⟩
                  rw [← hx] at l1 w1 st
                  rw [← hy] at l2 w2 st
                  have HS1 : Hid (((add8 s t).words.take (j + 1)).map wv = ((add8 s t).words.take j).map wv ++ [.int .u32 ((x + y) % 4294967296 : Nat)]) := by show _ = _; rw [st, List.map_append]; rfl
                  have HKS := Lib.hid fun W (hw : Below W3.heap.size W3 W) => (⟨(hw.cell (p := ⟨bh, j, none⟩) hh3).trans (HHv.out _ _ w1), (hw.cell (p := ⟨gv, j, none⟩) hgv).trans (HV.out _ _ w2)⟩ :
                    W.cell? ⟨bh, j, none⟩ = some (.int .u32 (x : Nat)) ∧ W.cell? ⟨gv, j, none⟩ = some (.int .u32 (y : Nat)))
                  have bK := hb4.drew
                  have q1 : (0 : Int) ≤ (j : Int) := by omega
                  have q2 : (j : Int) < 8 := by omega
                  clear hx hy w1 w2 st
                  go_wp2_with fail
                  go_region_held3 (fun w' => w'.cell? ⟨bh, j, none⟩ = some (.int .u32 (x : Nat)) ∧ w'.cell? ⟨gv, j, none⟩ = some (.int .u32 (y : Nat))) (first | exact HKS.out _ bK | exact HKS.out _ (bK.alloc bK.size _))
                    (first
                      | (refine step_append_own rfl _ _ 39 rfl W3.heap.size 38 i0 (.int .u32 0) 1 4 Tryd.underlying39 hi0 hz0 hz1 hz2 rfl (by decide) _ _ _ (by kernel_rfl) (hown.drew.alloc _) ⟨wr.heap.size, 0, none⟩ 1 1 [_] (by kernel_rfl) rfl (cell_one_new _ _ _) (by simp [Value.oneCell']) (by unfold maxLen; omega) (by omega) (by simp; omega) ?_; intro v3 W5 ho3 hg3; have bK := (bK.alloc bK.size _).grown hg3 (by simp; omega) (own_base hown)))
                  all_goals
                    clear HKS
                    have ho4 := own_val (y := ((x + y) % 4294967296 : Nat)) ho3 (by (try simp only [IntKind.wrap_u32]); omega)
                    have HO4 := Lib.hid ho4
                    have HB4 := Lib.hid bK
                    clear ho3 hg3 ho4 bK
                    go_wp2
                    go_roundw
                    case rel => exact ⟨j + 1, by go_num, by omega, (by rw [HS1.out]; exact HO4.out), HB4.out⟩
                    case measure => simp [intOf]; omega
                · have hj8 : j = 8 := by omega
                  have hfin : wr.ownsRow w.heap.size 38 1 u17 (mixS s bl).words.length ((mixS s bl).words.map wv) := by
                    rw [hmix.out]
                    rw [hj8] at hown
                    exact own_more hown HBx.out.size
                  have HF := Lib.hid hfin
                  clear hj8 hfin hown
                  go_wp2
                  go_ret
                  exact ⟨_, rfl, HF.out, HBx.out.trans (hb4.mono HBx.out.size)⟩
end Go.Proofs.YthaegodeijfbdaaDoor
