/- WireSumBurst answers true, and changes nothing that lay in memory. Conditions: the integers are of their Go types, the table holds what its text says. -/
import Derived.Test.YtolpkbjbklcdgaaDoorLaw9
namespace Go.Proofs.YtolpkbjbklcdgaaDoor
open Go.RowKit Go.Lib

theorem xor_value (y : UInt8) (k : Nat) : bits .xor .u8 (y.toNat : Int) (2 ^ (k % 8) % 256) = ((y ^^^ UInt8.ofNat (2 ^ (k % 8))).toNat : Nat) := by
  have h1 : 2 ^ (k % 8) < 256 := Nat.lt_of_le_of_lt (Nat.pow_le_pow_right (by omega) (show k % 8 ≤ 7 by omega)) (by decide)
  have h2 : ((2 : Int) ^ (k % 8) % 256) = ((2 ^ (k % 8) : Nat) : Int) := by
    have e : ((2 ^ (k % 8) : Nat) : Int) = (2 : Int) ^ (k % 8) := Int.natCast_pow 2 (k % 8)
    rw [← e]
    generalize 2 ^ (k % 8) = q at h1
    omega
  rw [h2, u8_xor_nat _ _ (UInt8.toNat_lt _) h1, UInt8.toNat_xor, UInt8.toNat_ofNat', Nat.mod_eq_of_lt h1]

/-- One bit more of a pattern. -/
theorem pat_yes {v i : Nat} (h : v / 2 ^ i % 2 = 1) : v % 2 ^ (i + 1) = v % 2 ^ i ^^^ 2 ^ i := by
  apply Nat.eq_of_testBit_eq
  intro j
  rw [Nat.testBit_xor, Nat.testBit_mod_two_pow, Nat.testBit_mod_two_pow, Nat.testBit_two_pow]
  have hv : v.testBit i = true := by rw [Nat.testBit_eq_decide_div_mod_eq]; simpa using h
  by_cases hj : i = j
  · subst hj; simp [hv]
  · by_cases h1 : j < i
    · simp [h1, hj, Nat.lt_succ_of_lt h1]
    · have h2 : ¬ j < i + 1 := by omega
      simp [h1, h2, hj]
theorem pat_no {v i : Nat} (h : ¬ v / 2 ^ i % 2 = 1) : v % 2 ^ (i + 1) = v % 2 ^ i := by
  apply Nat.eq_of_testBit_eq
  intro j
  rw [Nat.testBit_mod_two_pow, Nat.testBit_mod_two_pow]
  have hv : v.testBit i = false := by rw [Nat.testBit_eq_decide_div_mod_eq]; simpa using h
  by_cases hj : i = j
  · subst hj; simp [hv]
  · by_cases h1 : j < i
    · simp [h1, Nat.lt_succ_of_lt h1]
    · have h2 : ¬ j < i + 1 := by omega
      simp [h1, h2]
theorem pat_ne {v i : Nat} (h : v / 2 ^ i % 2 = 1) : v % 2 ^ (i + 1) ≠ 0 := by
  intro h0
  have hv : v.testBit i = true := by rw [Nat.testBit_eq_decide_div_mod_eq]; simpa using h
  have := congrArg (fun x => x.testBit i) h0
  simp only [Nat.testBit_mod_two_pow] at this
  simp [hv] at this

theorem bit_int {v i : Nat} : ((v : Int) / 2 ^ i).tmod 2 = ((v / 2 ^ i % 2 : Nat) : Int) := by
  rw [Int.tmod_eq_emod_of_nonneg (Int.ediv_nonneg (by omega) (by exact_mod_cast Nat.zero_le (2 ^ i)))]
  simp
theorem bit_yes {v i : Nat} (h : v / 2 ^ i % 2 = 1) : (((v : Int) / 2 ^ i).tmod 2 == 1) = true := by rw [bit_int, h]; rfl
theorem bit_no {v i : Nat} (h : ¬ v / 2 ^ i % 2 = 1) : (((v : Int) / 2 ^ i).tmod 2 == 1) = false := by rw [bit_int, beq_eq_false_iff_ne]; omega
/-- A byte of a string with one bit turned. -/
def flip (L : List UInt8) (k : Nat) : List UInt8 := L.set (k / 8) (L.getD (k / 8) 0 ^^^ UInt8.ofNat (2 ^ (k % 8)))
theorem num_flip {L : List UInt8} {k : Nat} (h : k < 8 * L.length) : num (flip L k) = num L ^^^ 2 ^ k := by
  have hx : (UInt8.ofNat (2 ^ (k % 8))).toNat = 2 ^ (k % 8) := by
    rw [UInt8.toNat_ofNat']
    exact Nat.mod_eq_of_lt (Nat.lt_of_le_of_lt (Nat.pow_le_pow_right (by omega) (show k % 8 ≤ 7 by omega)) (by decide))
  unfold flip
  rw [num_set _ _ _ (by omega), hx, Nat.shiftLeft_eq, ← Nat.pow_add, show k % 8 + 8 * (k / 8) = k from by omega]
theorem num_step {L : List UInt8} {l0 : List UInt8} {f i v : Nat} (h : f + i < 8 * L.length) (hb : v / 2 ^ i % 2 = 1) (hn : num L = num l0 ^^^ ((v % 2 ^ i) <<< f)) :
    num (flip L (f + i)) = num l0 ^^^ ((v % 2 ^ (i + 1)) <<< f) := by
  rw [num_flip h, hn, pat_yes hb, Nat.shiftLeft_xor_distrib, Nat.xor_assoc, Nat.shiftLeft_eq (2 ^ i), ← Nat.pow_add, Nat.add_comm f i]

theorem ret_bool {b : Bool} (h : b = true) : Ending.returned (.bool b) = .returned (.bool true) := by rw [h]

/-- What []byte(s) leaves: a block whose first cells are the bytes. -/
theorem bytes_block {P : Program} (src dst e : TypeId) (s : ByteArray) (hs : P.underlying src = some .string) (hd : P.underlying dst = some (.slice e)) (he : P.underlying e = some (.int .u8)) (w : World) :
    ∃ (cap N : Nat) (cs : Array Value) (W1 : World), (convert src dst (.string s)).run P w = .ok (.slice (some ⟨w.heap.size, 0, none⟩) s.size cap) W1 ∧ W1.heap[w.heap.size]? = some (.cells cs e (N, N + 1)) ∧ cs.size = N ∧ s.size ≤ N ∧
      (∀ j, j < s.size → cs[j]? = some (bv (s.data.toList.getD j 0))) ∧ Below w.heap.size w W1 := by
  refine ⟨grownCap w s.size 0 e, _, bytesRow s (grownCap w s.size 0 e), _, run_bytes_of_string w src dst e s hs hd he, ?_, rfl, ?_, ?_, ((Below.refl _ w).drew).alloc (Nat.le_refl _) _⟩
  · exact World.alloc_heap_new w.drew _
  · unfold bytesRow
    rw [Array.size_append, Array.size_map]
    exact Nat.le_add_right _ _
  · intro j hj
    rw [bytesRow_at s _ j hj]
    have : s.data.toList[j]? = some s.data[j] := by rw [Array.getElem?_toList]; exact Array.getElem?_eq_getElem hj
    rw [List.getD_eq_getElem?_getD, this]
    rfl

theorem heap_store' {w : World} {g i : Nat} {cs : Array Value} {t : TypeId} {u : Value} {fr : Nat × Nat} (h : w.heap[g]? = some (.cells cs t fr)) :
    (w.setCell ⟨g, i, none⟩ u).heap[g]? = some (.cells (cs.setIfInBounds i u) t fr) := by
  simp [World.setCell, Array.getElem?_modify, h]
theorem heap_cell' {w : World} {g i : Nat} {cs : Array Value} {t : TypeId} {fr : Nat × Nat} (h : w.heap[g]? = some (.cells cs t fr)) : w.cell? ⟨g, i, none⟩ = cs[i]? := by
  simp [World.cell?, h]
theorem heap_free' {w : World} {g i N : Nat} {cs : Array Value} {t : TypeId} (h : w.heap[g]? = some (.cells cs t (N, N + 1))) (hi : i < N) : w.frozen? ⟨g, i, none⟩ = false := by
  simp [World.frozen?, h]; omega

set_option maxRecDepth 100000 in
set_option maxHeartbeats 2000000 in
theorem law8_any (s : ByteArray) (a : Int) (v : Nat) (w : World) (ha0 : -9223372036854775808 ≤ a) (ha1 : a ≤ 9223372036854775807) (hv : v < 4294967296) (hT : Tab w) :
    Calls Tryd.prog 8 #[.string s, .int .i64 a, .int .u32 v] w fun e w' => e = .returned (.bool true) ∧ Below w.heap.size w w' := by
  obtain ⟨T, m, hm1, hm2, hm3, hTe, hif, hsl⟩ := cut_at (P := Tryd.prog) 9 Tryd.underlying9 s 300 (by omega)
  subst hm3
  have HTE := Lib.hid hTe; clear hTe
  have BB := Lib.hid (bytes_block (P := Tryd.prog) 9 38 5 T Tryd.underlying9 Tryd.underlying38 Tryd.underlying5)
  have HT := Lib.hid hT; clear hT
  by_cases hn0 : T.size = 0
  · have hz : (((T.size : Nat) : Int) == 0) = true := by rw [hn0]; rfl
    clear hn0
    go_enter Tryd.func8, Tryd.ntmps8
    go_wp2_with fail
    refine (sane_any _ HT.out).mono ?_
    rintro e w1 ⟨rfl, b1⟩
    obtain ⟨cap, N, cs0, WA, hrun, -, -, -, -, hbA⟩ := BB.out w1
    have bA := Below_step b1 hbA (Nat.le_refl _)
    clear b1 hbA
    go_wp2
    go_ret
    exact ⟨rfl, bA⟩
  · have hz : (((T.size : Nat) : Int) == 0) = false := by rw [beq_eq_false_iff_ne]; omega
    by_cases hv0 : v = 0
    · subst hv0
      clear hn0
      go_enter Tryd.func8, Tryd.ntmps8
      go_wp2_with fail
      refine (sane_any _ HT.out).mono ?_
      rintro e w1 ⟨rfl, b1⟩
      obtain ⟨cap, N, cs0, WA, hrun, -, -, -, -, hbA⟩ := BB.out w1
      have bA := Below_step b1 hbA (Nat.le_refl _)
      clear b1 hbA
      go_wp2
      go_ret
      exact ⟨rfl, bA⟩
    · have hvz : ((v : Int) == 0) = false := by rw [beq_eq_false_iff_ne]; omega
      obtain ⟨f, hf⟩ : ∃ f : Nat, (f : Int) = pickV a (8 * T.size) := ⟨(pickV a (8 * T.size)).toNat, by have := pickV_range (c := a) (n := 8 * T.size) (by omega); omega⟩
      have hf1 : f < 8 * T.size := by have := pickV_range (c := a) (n := 8 * T.size) (by omega); omega
      have P1 := Lib.hid fun w => pick_any a (8 * T.size) w ha0 ha1 (by omega) (by omega)
      rw [← hf] at P1
      clear hf hn0 hv0
      go_enter Tryd.func8, Tryd.ntmps8
      go_wp2_with fail
      refine (sane_any _ HT.out).mono ?_
      rintro e w1 ⟨rfl, b1⟩
      obtain ⟨cap, N, cs0, WA, hrun, hblk, hcs0, hN, hcells0, hbA⟩ := BB.out w1
      have bA := Below_step b1 hbA (Nat.le_refl _)
      have HBLK := Lib.hid hblk; have HCS0 := Lib.hid hcs0; have HCE := Lib.hid hcells0
      clear hbA hblk hcs0 hcells0
      go_wp2_with fail
      refine (P1.out _).mono ?_
      rintro e w' ⟨rfl, rfl⟩
      clear hrun hz hvz
      go_wp2_with fail
      go_loopw [10, 11, 12] (fun ch ii _ wr => ∃ (i : Nat) (cs : Array Value) (L : List UInt8), ii = .int .i64 i ∧ ch = .bool (decide (v % 2 ^ i ≠ 0)) ∧ i ≤ 32 ∧ f + i ≤ 8 * T.size ∧ Hid (wr.heap[w1.heap.size]? = some (.cells cs 5 (N, N + 1)) ∧ cs.size = N ∧ L.length = T.size ∧
          (∀ j, j < T.size → cs[j]? = some (bv (L.getD j 0))) ∧ num L = num T.data.toList ^^^ ((v % 2 ^ i) <<< f)) ∧ Below w.heap.size w wr)
        (fun _ ii _ _ => 32 - (intOf ii).toNat)
      case atStart => exact ⟨0, cs0, T.data.toList, rfl, by simp [Nat.mod_one], by omega, by omega, Lib.hid ⟨HBLK.out, HCS0.out, rfl, HCE.out, by simp [Nat.mod_one]⟩, bA⟩
      case round =>
        obtain ⟨i, cs, L, rfl, rfl, hi, hfi, H, hbw⟩ := hrel
        by_cases hgo : i < 32 ∧ f + i < 8 * T.size
        · obtain ⟨hi2, hfi2⟩ := hgo
          by_cases hbit : v / 2 ^ i % 2 = 1
          · have hbt : (((v : Int) / 2 ^ i).tmod 2 == 1) = true := bit_yes hbit
            obtain ⟨hb, hcs, hL, hcell, hnum⟩ := H.out
            have hk8 : (f + i) / 8 < T.size := by omega
            have hk8' : ((f : Int) + i) / 8 < T.size := by omega
            have hk9 : 0 ≤ ((f : Int) + i) / 8 := by omega
            obtain ⟨y, hy⟩ : ∃ y : UInt8, y = L.getD ((f + i) / 8) 0 := ⟨_, rfl⟩
            have hc1 : wr.cell? ⟨w1.heap.size, (f + i) / 8, none⟩ = some (.int .u8 y.toNat) := by rw [heap_cell' hb, hcell _ hk8, hy]; rfl
            have hc2 : wr.frozen? ⟨w1.heap.size, (f + i) / 8, none⟩ = false := heap_free' hb (by omega)
            have HY := Lib.hid hy
            clear hb hcs hL hcell hnum hy
            go_wp2_with fail
            go_region
            go_wp2_with fail
            go_roundw
            case rel =>
              obtain ⟨hb, hcs, hL, hcell, hnum⟩ := H.out
              refine ⟨i + 1, _, flip L (f + i), by go_num, ?_, by omega, by omega, Lib.hid ⟨heap_store' hb, by simp [hcs], by simp [flip, hL], ?_, num_step (by omega) hbit hnum⟩, (hbw.setCell (p := ⟨w1.heap.size, (f + i) / 8, none⟩) b1.size _).drew⟩
              · have := pat_ne hbit
                simp [this]
              · intro j hj
                rw [Array.getElem?_setIfInBounds]
                unfold flip
                rw [List.getD_eq_getElem?_getD, List.getElem?_set]
                by_cases hji : (f + i) / 8 = j
                · rw [if_pos hji, if_pos hji, if_pos (by omega), if_pos (by omega)]
                  rw [← HY.out, xor_value]
                  rfl
                · rw [if_neg hji, if_neg hji]
                  have := hcell j hj
                  rw [List.getD_eq_getElem?_getD] at this
                  exact this
            case measure => simp [intOf]; omega
          · have hbt : (((v : Int) / 2 ^ i).tmod 2 == 1) = false := bit_no hbit
            go_wp2_with fail
            go_roundw
            case rel =>
              obtain ⟨hb, hcs, hL, hcell, hnum⟩ := H.out
              refine ⟨i + 1, cs, L, by go_num, ?_, by omega, by omega, Lib.hid ⟨hb, hcs, hL, hcell, by rw [pat_no hbit]; exact hnum⟩, hbw⟩
              rw [pat_no hbit]; simp
            case measure => simp [intOf]; omega
        · obtain ⟨hb, hcs, hL, hcell, hnum⟩ := H.out
          have hp : v % 2 ^ i < 4294967296 := Nat.lt_of_le_of_lt (Nat.mod_le _ _) hv
          have hburst := crc_burst T.data.toList L f (v % 2 ^ i) hL (by show f ≤ 8 * T.size; omega) hp hnum
          have hcv : ∀ (k : Nat), (convert 38 9 (.slice (some ⟨w1.heap.size, 0, none⟩) T.size cap)).run Tryd.prog (wr.drewN k) = .ok (.string ⟨L.toArray⟩) (wr.drewN k) := by
            intro k
            have h := run_convert_bytes_back (P := Tryd.prog) (wr.drewN k) 38 9 5 ⟨w1.heap.size, 0, none⟩ cap L Tryd.underlying38 Tryd.underlying5 Tryd.underlying9 (fun j hj => by
              have e1 : (⟨w1.heap.size, 0, none⟩ : Addr).add j = ⟨w1.heap.size, j, none⟩ := by unfold Addr.add; split <;> simp_all
              rw [e1]
              have h3 : wr.cell? ⟨w1.heap.size, j, none⟩ = cs[j]? := heap_cell' hb
              have h4 : (wr.drewN k).cell? ⟨w1.heap.size, j, none⟩ = wr.cell? ⟨w1.heap.size, j, none⟩ := rfl
              rw [h4, h3, hcell j (by omega), List.getD_eq_getElem?_getD, List.getElem?_eq_getElem hj]; rfl)
            rw [hL] at h
            exact h
          obtain ⟨M, hM⟩ : ∃ M : ByteArray, M = ⟨L.toArray⟩ := ⟨_, rfl⟩
          rw [← hM] at hcv
          have hMs : M.size ≤ maxLen := by rw [hM]; show L.length ≤ _; rw [hL]; unfold maxLen; omega
          have hTs : (s.extract 0 T.size).size ≤ maxLen := by rw [ByteArray.size_extract]; unfold maxLen; omega
          have hTl : T.data.toList = List.take T.size s.data.toList := by
            have h : T.data.toList = (s.extract 0 T.size).data.toList := congrArg (fun x : ByteArray => x.data.toList) HTE.out
            rw [extract_list] at h
            exact h
          have hcm : crc M.data.toList = crc T.data.toList ↔ v % 2 ^ i = 0 := by rw [hM]; exact hburst
          have hlast : ((!decide (v % 2 ^ i = 0)) == (((crc M.data.toList : Nat) : Int) != ((crc T.data.toList : Nat) : Int))) = true := by
            by_cases h0 : v % 2 ^ i = 0
            · rw [hcm.2 h0]; simp [h0]
            · have hne : ¬ crc M.data.toList = crc T.data.toList := fun h => h0 (hcm.1 h)
              have h1 : (((crc M.data.toList : Nat) : Int) == ((crc T.data.toList : Nat) : Int)) = false := by rw [beq_eq_false_iff_ne]; intro h; exact hne (by exact_mod_cast h)
              rw [bne, h1]; simp [h0]
          rw [hTl] at hlast
          have SZ := Lib.hid (And.intro hMs hTs)
          have TW := Lib.hid (HT.out.below hbw (Nat.le_refl _))
          have HBW := Lib.hid hbw
          have HLAST := Lib.hid hlast
          clear hburst hp hb hcs hL hcell hnum hM hMs hTs hTl hcm hlast hsl H hbw
          by_cases hi32 : i < 32
          · have hfe : ¬ f + i < 8 * T.size := fun h => hgo ⟨hi32, h⟩
            go_wp2_with fail
            go_quiet ((go_at_call 21; exact Calls.quiet_of_same (sum_q _ _ (by first | exact SZ.out.1 | exact SZ.out.2) (Tab_drewN TW.out _))))
            go_wp2
            go_ret
            exact ⟨ret_bool HLAST.out, Below_drewN HBW.out _⟩
          · go_wp2_with fail
            go_quiet ((go_at_call 21; exact Calls.quiet_of_same (sum_q _ _ (by first | exact SZ.out.1 | exact SZ.out.2) (Tab_drewN TW.out _))))
            go_wp2
            go_ret
            exact ⟨ret_bool HLAST.out, Below_drewN HBW.out _⟩

theorem law8_int (s : ByteArray) (a c : Int) (w : World) (ha0 : -9223372036854775808 ≤ a) (ha1 : a ≤ 9223372036854775807) (hc0 : 0 ≤ c) (hc1 : c < 4294967296) (hT : Tab w) :
    Calls Tryd.prog 8 #[.string s, .int .i64 a, .int .u32 c] w fun e w' => e = .returned (.bool true) ∧ Below w.heap.size w w' := by
  obtain ⟨v, rfl⟩ := Int.eq_ofNat_of_zero_le hc0
  exact law8_any s a v w ha0 ha1 (by omega) hT
end Go.Proofs.YtolpkbjbklcdgaaDoor
