/- The contracts of plus and minus of amounts. Conditions: the amounts read, and have at most 1,000 groups; for minus, the second is not greater. -/
import Derived.Test.YtgpppjfgdbloiaaCarry
namespace Go.Proofs.Ytgpppjfgdbloiaa
open Go.RowKit Go.Lib

theorem bd_set {L : List Int} {i : Nat} {x N M : Int} (h : i < L.length) (hb : ∀ c ∈ L, -N ≤ c ∧ c ≤ N) (hx : -M ≤ x ∧ x ≤ M) : ∀ c ∈ L.set i (L[i] + x), -(N + M) ≤ c ∧ c ≤ N + M := by
  intro c hc
  rcases List.mem_or_eq_of_mem_set hc with h1 | rfl
  · have := hb c h1; omega
  · have := hb L[i] (List.getElem_mem _); omega
theorem grps_pad {X k : Nat} (h : glen X ≤ k) : grps X (glen X) ++ List.replicate (k - glen X) 0 = grps X k := by
  apply List.ext_getElem
  · simp [grps_length]; omega
  · intro i h1 h2
    rw [grps_at]
    rcases Nat.lt_or_ge i (glen X) with h3 | h3
    · rw [List.getElem_append_left (by rw [grps_length]; exact h3), grps_at]
    · rw [List.getElem_append_right (by rw [grps_length]; exact h3), List.getElem_replicate, dg4_far h3]; rfl
theorem grps_bd (X k : Nat) : ∀ c ∈ grps X k, -10000 ≤ c ∧ c ≤ 10000 := by
  intro c hc
  simp [grps] at hc
  obtain ⟨i, _, rfl⟩ := hc
  have := dg4_lt X i
  omega
/-- copy of an amount into new columns. -/
theorem run_copy_am {w : World} {A : Option Addr} {c X g k : Nat} (dT sT ty : TypeId) (hu : Try.prog.underlying dT = some (.slice 3)) (hg : Blk w g 3 (zc k)) (hA : Am w A (glen X) c X) (hk : glen X ≤ k) :
    (Builtin.copy_ #[dT, sT] ty #[.slice (some ⟨g, 0, none⟩) k k, .slice A (glen X) c]).run Try.prog w = .ok (.int .i64 (glen X : Nat)) (w.setRow g ((grps X k).map iv).toArray) := by
  unfold zc at hg
  obtain ⟨i, hi, hz, hs, hb⟩ := info_of info_i64
  obtain ⟨n, hn⟩ : ∃ n, n = glen X := ⟨_, rfl⟩
  have hp := grps_pad hk
  rw [← hn] at hA hk hp ⊢
  by_cases h0 : 0 < n
  · obtain ⟨b, o, rfl, hbl, hc⟩ := hA.2 h0
    have hlen : ((grps X n).map iv).length = n := by rw [List.length_map, grps_length]
    have h := run_copy_row (P := Try.prog) w dT sT ty 3 g 0 k k ⟨b, o, none⟩ n c ((List.replicate k (0 : Int)).map iv).toArray 3 ((grps X n).map iv) hu (by rw [hi]; simp [hs]) hg
      (by rw [hlen]; exact (Nat.min_eq_left hk).symm) (by
        intro j v hj
        have hj2 : j < n := by
          have := (List.getElem?_eq_some_iff.1 hj).1
          rwa [hlen] at this
        have e : (⟨b, o, none⟩ : Addr).add j = ⟨b, o + j, none⟩ := by unfold Addr.add; split <;> simp_all
        rw [e, hc j hj2]
        rw [List.getElem?_map, List.getElem?_eq_getElem (by rw [grps_length]; exact hj2)] at hj
        rw [Option.map_some, grps_at] at hj
        exact hj) (by rw [hlen]; simp; omega) (by
        intro v hv
        obtain ⟨x, _, rfl⟩ := List.mem_map.1 hv
        rfl)
    rw [hlen] at h
    rw [h]
    have e : (((List.replicate k (0 : Int)).map iv).toArray.toList.take 0 ++ (grps X n).map iv ++ ((List.replicate k (0 : Int)).map iv).toArray.toList.drop (0 + n)).toArray = ((grps X k).map iv).toArray := by
      rw [← hp, List.map_append]
      simp
    rw [e]; rfl
  · obtain rfl : n = 0 := by omega
    have hX : grps X 0 ++ List.replicate k 0 = grps X k := hp
    have e2 : w.setRow g ((grps X k).map iv).toArray = w := by
      rw [← hX]; exact setRow_self w g _ _ (0, 0) hg
    rw [e2]
    cases A with
    | none => simp [Builtin.copy_, run_underlying hu, Builtin.lenOf, Builtin.firstCells, sizeOf, typeInfo, hi, storeCells]; rfl
    | some a => simp [Builtin.copy_, run_underlying hu, Builtin.lenOf, Builtin.firstCells, sizeOf, typeInfo, hi, storeCells, loadCells, loadCellsFrom]; rfl

set_option maxRecDepth 100000 in
theorem aplus_any (A A' : Option Addr) (c c' X Y : Nat) (w : World) (hA : Am w A (glen X) c X) (hB : Am w A' (glen Y) c' Y) (hX : glen X ≤ 1000) (hY : glen Y ≤ 1000) :
    Calls Try.prog 65 #[.slice A (glen X) c, .slice A' (glen Y) c'] w (OutN (X + Y) w) := by
  obtain ⟨k, hk⟩ : ∃ k, k = max (glen X) (glen Y) + 1 := ⟨_, rfl⟩
  have hmk := fun w => run_make_ints 44 Try.underlying44 k k (Nat.le_refl _) (by omega) w
  have hcp := run_copy_am (c := c) 44 51 3 Try.underlying44 (Blk.new w 3 (zc k)) (hA.below ((Below.refl _ _).alloc (Nat.le_refl _) _)) (show glen X ≤ k by omega)
  have hsum : X + Y < 10000 ^ k := by
    rw [hk, Nat.pow_succ]
    have h1 := Nat.lt_of_lt_of_le (lt_glen X) (Nat.pow_le_pow_right (show 0 < 10000 by omega) (Nat.le_max_left (glen X) (glen Y)))
    have h2 := Nat.lt_of_lt_of_le (lt_glen Y) (Nat.pow_le_pow_right (show 0 < 10000 by omega) (Nat.le_max_right (glen X) (glen Y)))
    omega
  have hcX : colv (grps X k) = X := colv_full (Nat.lt_of_le_of_lt (Nat.le_add_right X Y) hsum)
  have hmod : Y % 10000 ^ glen Y = Y := Nat.mod_eq_of_lt (lt_glen Y)
  have hb1 : Below w.heap.size w ((w.alloc (.cells (zc k) 3)).setRow w.heap.size ((grps X k).map iv).toArray) := below_setRow ((Below.refl _ _).alloc (Nat.le_refl _) _) (Nat.le_refl _) _
  have hg1 : Blk ((w.alloc (.cells (zc k) 3)).setRow w.heap.size ((grps X k).map iv).toArray) w.heap.size 3 ((grps X k).map iv).toArray := (Blk.new w 3 (zc k)).setRow _
  have hk3 : k ≤ 3000 := by omega
  have hm : glen Y ≤ k := by omega
  have h2 : (((glen X : Nat) : Int) + 1 = k ∧ ((glen Y : Nat) : Int) ≤ ((glen X : Nat) : Int)) ∨ (((glen Y : Nat) : Int) + 1 = k ∧ ((glen X : Nat) : Int) < ((glen Y : Nat) : Int)) := by omega
  obtain ⟨w0, hw0⟩ : ∃ w0, w0 = (w.alloc (.cells (zc k) 3)).setRow w.heap.size ((grps X k).map iv).toArray := ⟨_, rfl⟩
  rw [← hw0] at hcp hb1 hg1
  have HA := Lib.hid hA; have HB := Lib.hid hB; have HK := Lib.hid hk; have HS := Lib.hid hsum; have HCX := Lib.hid hcX; have HM := Lib.hid hmod; have HB1 := Lib.hid hb1; have HG1 := Lib.hid hg1
  clear hA hB hk hsum hcX hmod hb1 hg1 hw0
  rcases h2 with ⟨e1, q1⟩ | ⟨e1, q1⟩
  all_goals
    go_enter Try.func65, Try.ntmps65
    go_wp2
    clear e1 q1 hmk hcp
    go_loopw [20] (fun ii wr => ∃ (i : Nat) (L : List Int), ii = .int .i64 i ∧ i ≤ glen Y ∧ Hid (L.length = k ∧ colv L = X + (Y % 10000 ^ i : Nat) ∧ ∀ c ∈ L, -(10000 * ((i : Int) + 1)) ≤ c ∧ c ≤ 10000 * ((i : Int) + 1)) ∧ Blk wr w.heap.size 3 (L.map iv).toArray ∧ Below w.heap.size w wr)
      (fun ii _ => glen Y - (intOf ii).toNat)
    case atStart => exact ⟨0, _, rfl, Nat.zero_le _, ⟨grps_length _ _, by rw [HCX.out, Nat.pow_zero, Nat.mod_one]; simp, by simpa using grps_bd X k⟩, HG1.out, HB1.out⟩
    case round =>
      obtain ⟨i, L, rfl, hi, HL, hG, hbl⟩ := hrel
      by_cases hlt : i < glen Y
      · obtain ⟨b, o, rfl, hb, hc⟩ := (HB.out.below hbl).2 (by omega)
        have hcell := hc i hlt
        have hil : i < L.length := by rw [HL.out.1]; omega
        have c0 := hG.cell (iv_at hil)
        have f0 := hG.frozen i
        have hd := dg4_lt Y i
        have hy := HL.out.2.2 L[i] (List.getElem_mem _)
        obtain ⟨d, hd2⟩ : ∃ d, d = dg4 Y i := ⟨_, rfl⟩
        rw [← hd2] at hcell hd
        obtain ⟨y, hy2⟩ : ∃ y, y = L[i] := ⟨_, rfl⟩
        rw [← hy2] at c0 hy
        rw [iv] at c0
        have p1 : (0 : Int) ≤ (i : Int) := by omega
        have p2 : (i : Int) < ((glen Y : Nat) : Int) := by omega
        have p3 : (i : Int) < (k : Int) := by omega
        have HL2 : Hid ((L.set i (y + d)).length = k ∧ colv (L.set i (y + d)) = X + (Y % 10000 ^ (i + 1) : Nat) ∧ ∀ c ∈ L.set i (y + d), -(10000 * (((i + 1 : Nat) : Int) + 1)) ≤ c ∧ c ≤ 10000 * (((i + 1 : Nat) : Int) + 1)) := by
          refine ⟨by rw [List.length_set, HL.out.1], ?_, ?_⟩
          · rw [colv_set L i _ hil, HL.out.2.1, ← hy2, mod_succ4, ← hd2]
            push_cast
            grind
          · have := bd_set (L := L) (i := i) (x := d) (N := 10000 * ((i : Int) + 1)) (M := 10000) hil HL.out.2.2 (by omega)
            rw [← hy2] at this
            intro c hc; have := this c hc; omega
        clear hc hy2 hd2 HL
        go_wp2
        go_roundw
        case rel => exact ⟨i + 1, _, by go_num, by omega, HL2, by rw [← iv_set]; exact hG.set i _, hbl.setCell (Nat.le_refl _) _⟩
        case measure => simp [intOf]; omega
      · obtain rfl : i = glen Y := by omega
        have hcar := carried_any w.heap.size w.heap.size k (X + Y) L wr hG HL.out.1 hk3 (by rw [HL.out.2.1, HM.out]; omega) HS.out (by intro c hc; have := HL.out.2.2 c hc; omega) (Nat.le_refl _)
        have HC := Lib.hid hcar
        clear hcar hG
        go_wp2_with (go_at_call 74; refine HC.out.mono ?_; rintro e w2 ⟨rfl, hA2, hb2⟩)
        go_ret
        exact ⟨_, _, rfl, hA2, hbl.trans hb2⟩
end Go.Proofs.Ytgpppjfgdbloiaa
