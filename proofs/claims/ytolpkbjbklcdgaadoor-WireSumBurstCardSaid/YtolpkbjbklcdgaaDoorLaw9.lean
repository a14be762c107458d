/- WireSumAffine answers true, and changes nothing that lay in memory. Conditions: the strings are no longer than Go's strings can be, the table holds what its text says. -/
import Derived.Test.YtolpkbjbklcdgaaDoorLawA
import Derived.RegionTactic
import Derived.ChangeAlike
import Derived.Deep.QuietTactic
import Derived.BigQuiet
namespace Go.Proofs.YtolpkbjbklcdgaaDoor
open Go.RowKit Go.Lib

theorem i64_xor_nat (a b : Nat) (ha : a < 4294967296) (hb : b < 4294967296) : bits .xor .i64 (a : Int) (b : Int) = ((a ^^^ b : Nat) : Int) := by
  have hx : a ^^^ b < 2 ^ 32 := Nat.xor_lt_two_pow (by omega) (by omega)
  show IntKind.i64.wrap ((BitVec.ofInt 64 (a : Int) ^^^ BitVec.ofInt 64 (b : Int)).toNat : Int) = _
  rw [BitVec.toNat_xor, BitVec.ofInt_natCast, BitVec.ofInt_natCast, BitVec.toNat_ofNat, BitVec.toNat_ofNat, Nat.mod_eq_of_lt (by omega), Nat.mod_eq_of_lt (by omega), IntKind.wrap_i64]
  omega

theorem Tab_drewN {w : World} (h : Tab w) (n : Nat) : Tab (w.drewN n) := h

theorem Below_drewN {B : Nat} {w w1 : World} (h : Below B w w1) : ∀ n, Below B w (w1.drewN n)
  | 0 => h
  | n + 1 => (Below_drewN h n).drew
/-- A block behind a store into it. -/
theorem heap_store {w : World} {g i : Nat} {cs : Array Value} {t : TypeId} {u : Value} (h : w.heap[g]? = some (.cells cs t (0, 0))) :
    (w.setCell ⟨g, i, none⟩ u).heap[g]? = some (.cells (cs.setIfInBounds i u) t (0, 0)) := by
  simp [World.setCell, Array.getElem?_modify, h]
theorem heap_cell {w : World} {g i : Nat} {cs : Array Value} {t : TypeId} (h : w.heap[g]? = some (.cells cs t (0, 0))) : w.cell? ⟨g, i, none⟩ = cs[i]? := by
  simp [World.cell?, h]
theorem heap_free {w : World} {g i : Nat} {cs : Array Value} {t : TypeId} (h : w.heap[g]? = some (.cells cs t (0, 0))) : w.frozen? ⟨g, i, none⟩ = false := by
  simp [World.frozen?, h]

theorem run_min4 {P : Program} (ts : Array TypeId) (t : TypeId) (w : World) (x y z u : Int) : (Builtin.min_ ts t #[.int .i64 x, .int .i64 y, .int .i64 z, .int .i64 u]).run P w = .ok (.int .i64 (min (min (min x y) z) u)) w := by
  have e : ∀ x y : Int, (if y < x then y else x) = min x y := fun x y => by split <;> omega
  simp [Builtin.min_, Builtin.min2, e]

/-- The bytes of the statement's own slice. -/
def mix (a b c : ByteArray) (n : Nat) : List UInt8 := List.zipWith (· ^^^ ·) (List.zipWith (· ^^^ ·) (a.data.toList.take n) (b.data.toList.take n)) (c.data.toList.take n)
theorem mix_length {a b c : ByteArray} {n : Nat} (ha : n ≤ a.size) (hb : n ≤ b.size) (hc : n ≤ c.size) : (mix a b c n).length = n := by
  have h1 : a.data.toList.length = a.size := rfl
  have h2 : b.data.toList.length = b.size := rfl
  have h3 : c.data.toList.length = c.size := rfl
  unfold mix; rw [List.length_zipWith, List.length_zipWith, List.length_take, List.length_take, List.length_take]; omega
theorem mix_at {a b c : ByteArray} {n i : Nat} (ha : n ≤ a.size) (hb : n ≤ b.size) (hc : n ≤ c.size) (hi : i < n) :
    (mix a b c n)[i]? = some ((a[i] ^^^ b[i]) ^^^ c[i]) := by
  have h1 : a.data.toList[i]? = some a[i] := by rw [Array.getElem?_toList]; exact Array.getElem?_eq_getElem (by show i < a.size; omega)
  have h2 : b.data.toList[i]? = some b[i] := by rw [Array.getElem?_toList]; exact Array.getElem?_eq_getElem (by show i < b.size; omega)
  have h3 : c.data.toList[i]? = some c[i] := by rw [Array.getElem?_toList]; exact Array.getElem?_eq_getElem (by show i < c.size; omega)
  unfold mix
  rw [List.getElem?_zipWith, List.getElem?_zipWith, List.getElem?_take, List.getElem?_take, List.getElem?_take, if_pos hi, if_pos hi, if_pos hi, h1, h2, h3]

theorem sum_q (s : ByteArray) (w : World) (hs : s.size ≤ maxLen) (hT : Tab w) :
    Calls Tryd.prog 21 #[.string s] w fun e w' => e = .returned (.int .i64 (crc s.data.toList : Nat)) ∧ w' = w :=
  (sum_any s w hs hT).mono fun _ _ ⟨h1, h2⟩ => ⟨h1, h2.symm⟩

set_option maxRecDepth 100000 in
set_option maxHeartbeats 1000000 in
theorem law9_any (a b c : ByteArray) (w : World) (hT : Tab w) :
    Calls Tryd.prog 9 #[.string a, .string b, .string c] w fun e w' => e = .returned (.bool true) ∧ Below w.heap.size w w' := by
  obtain ⟨i0, hi, hz0, hz1, hz2⟩ := info_parts info_u8
  obtain ⟨n, hn, hn0, hn1, hn2, hn3⟩ : ∃ n : Nat, (∀ (ts : Array TypeId) (t : TypeId) (w : World), (Builtin.min_ ts t #[.int .i64 a.size, .int .i64 b.size, .int .i64 c.size, .int .i64 200]).run Tryd.prog w = .ok (.int .i64 n) w) ∧ n ≤ 200 ∧ n ≤ a.size ∧ n ≤ b.size ∧ n ≤ c.size := by
    refine ⟨min (min (min a.size b.size) c.size) 200, fun ts t w => ?_, by omega, by omega, by omega, by omega⟩
    rw [run_min4]
    congr 2
    omega
  have hmk : ∀ w, (Instr.makeSlice 38 (.int .i64 n) (.int .i64 n)).run Tryd.prog w = .ok (.slice (some ⟨w.heap.size, 0, none⟩) n n) (w.alloc (.cells (madeCells #[.int .u8 0] n) 5)) := fun w => by
    have h := run_make (P := Tryd.prog) w 38 5 i0 (.int .u8 0) Tryd.underlying38 hi hz0 .i64 .i64 n n (by omega) (by omega) (by rw [hz2]; omega) (by omega)
    rw [hz1] at h
    simpa [Value.cells] using h
  have HT := Lib.hid hT; clear hT
  go_enter Tryd.func9, Tryd.ntmps9
  go_wp2_with fail
  refine (sane_any _ HT.out).mono ?_
  rintro e w1 ⟨rfl, b1⟩
  go_wp2_with fail
  have hsz : (madeCells #[.int .u8 0] n).size = n := size_madeCells _ _
  have hblk : (w1.alloc (.cells (madeCells #[.int .u8 0] n) 5)).heap[w1.heap.size]? = some (.cells (madeCells #[.int .u8 0] n) 5 (0, 0)) := World.alloc_heap_new w1 _
  have bw : Below w.heap.size w (w1.alloc (.cells (madeCells #[.int .u8 0] n) 5)) := b1.alloc b1.size _
  go_loopw [10] (fun ii wr => ∃ (i : Nat) (cs : Array Value), ii = .int .i64 i ∧ i ≤ n ∧ wr.heap[w1.heap.size]? = some (.cells cs 5 (0, 0)) ∧ cs.size = n ∧ Hid (∀ j, j < i → cs[j]? = some (bv ((mix a b c n).getD j 0))) ∧ Below w.heap.size w wr)
    (fun ii _ => n - (intOf ii).toNat)
  case atStart => exact ⟨0, _, rfl, by omega, hblk, hsz, Lib.hid (fun j hj => absurd hj (Nat.not_lt_zero _)), bw⟩
  case round =>
    obtain ⟨i, cs, rfl, hin, hb, hcs, HC, hbw⟩ := hrel
    have HB := Lib.hid hb
    by_cases hlt : i < n
    · have ha1 : i < a.size := by omega
      have hb1 : i < b.size := by omega
      have hc1 : i < c.size := by omega
      have hx1 := u8_xor_nat a[i].toNat b[i].toNat (UInt8.toNat_lt _) (UInt8.toNat_lt _)
      rw [← UInt8.toNat_xor] at hx1
      have hx2 := u8_xor_nat (a[i] ^^^ b[i]).toNat c[i].toNat (UInt8.toNat_lt _) (UInt8.toNat_lt _)
      rw [← UInt8.toNat_xor] at hx2
      have hcell : wr.cell? ⟨w1.heap.size, i, none⟩ = some (cs[i]'(by omega)) := by rw [heap_cell hb]; exact Array.getElem?_eq_getElem (by omega)
      have hfree : wr.frozen? ⟨w1.heap.size, i, none⟩ = false := heap_free hb
      clear hb
      go_wp2_with fail
      go_region
      go_wp2_with fail
      go_roundw
      case rel =>
        refine ⟨i + 1, _, by go_num, by omega, heap_store HB.out, by simp [hcs], ?_, (hbw.setCell (p := ⟨w1.heap.size, i, none⟩) b1.size _).drew⟩
        intro j hj
        rw [Array.getElem?_setIfInBounds]
        by_cases hji : i = j
        · subst hji
          rw [if_pos rfl, if_pos (by omega)]
          have hm := mix_at hn1 hn2 hn3 hlt
          rw [List.getD_eq_getElem?_getD, hm]
          have hx : a[i].toNat ^^^ b[i].toNat < 256 := Nat.xor_lt_two_pow (n := 8) (UInt8.toNat_lt _) (UInt8.toNat_lt _)
          rw [u8_xor_nat _ _ hx (UInt8.toNat_lt _)]
          simp [bv]
        · rw [if_neg hji]
          exact HC.out j (by omega)
      case measure => simp [intOf]; omega
    · have hil : i = n := by omega
      subst hil
      have hml := mix_length hn1 hn2 hn3
      have hcv : ∀ (k : Nat), (convert 38 9 (.slice (some ⟨w1.heap.size, 0, none⟩) i i)).run Tryd.prog (wr.drewN k) = .ok (.string ⟨(mix a b c i).toArray⟩) (wr.drewN k) := by
        intro k
        have h := run_convert_bytes_back (P := Tryd.prog) (wr.drewN k) 38 9 5 ⟨w1.heap.size, 0, none⟩ i (mix a b c i) Tryd.underlying38 Tryd.underlying5 Tryd.underlying9 (fun j hj => by
          have e1 : (⟨w1.heap.size, 0, none⟩ : Addr).add j = ⟨w1.heap.size, j, none⟩ := by unfold Addr.add; split <;> simp_all
          rw [e1]
          have h2 := HC.out j (by omega)
          have h3 : wr.cell? ⟨w1.heap.size, j, none⟩ = cs[j]? := heap_cell hb
          have h4 : (wr.drewN k).cell? ⟨w1.heap.size, j, none⟩ = wr.cell? ⟨w1.heap.size, j, none⟩ := rfl
          rw [h4, h3, h2, List.getD_eq_getElem?_getD, List.getElem?_eq_getElem hj]; rfl)
        rw [hml] at h
        exact h
      obtain ⟨M, hM⟩ : ∃ M : ByteArray, M = ⟨(mix a b c i).toArray⟩ := ⟨_, rfl⟩
      rw [← hM] at hcv
      have hMs : M.size ≤ maxLen := by rw [hM]; show (mix a b c i).length ≤ _; rw [hml]; unfold maxLen; omega
      have tw : Tab wr := HT.out.below hbw (Nat.le_refl _)
      have ha2 : (a.extract 0 i).size ≤ maxLen := by rw [ByteArray.size_extract]; unfold maxLen; omega
      have hb2 : (b.extract 0 i).size ≤ maxLen := by rw [ByteArray.size_extract]; unfold maxLen; omega
      have hc2 : (c.extract 0 i).size ≤ maxLen := by rw [ByteArray.size_extract]; unfold maxLen; omega
      have hkey : crc M.data.toList = (crc (a.extract 0 i).data.toList ^^^ crc (b.extract 0 i).data.toList) ^^^ crc (c.extract 0 i).data.toList := by
        have l1 : a.data.toList.length = a.size := rfl
        have l2 : b.data.toList.length = b.size := rfl
        have l3 : c.data.toList.length = c.size := rfl
        rw [extract_list, extract_list, extract_list, hM]
        exact crc_affine _ _ _ (by rw [List.length_take, List.length_take]; omega) (by rw [List.length_take, List.length_take]; omega)
      have la := crc_lt (a.extract 0 i).data.toList
      have lb := crc_lt (b.extract 0 i).data.toList
      have lc := crc_lt (c.extract 0 i).data.toList
      have hlast : (((crc M.data.toList : Nat) : Int) == bits .xor .i64 (bits .xor .i64 ((crc (a.extract 0 i).data.toList : Nat) : Int) ((crc (b.extract 0 i).data.toList : Nat) : Int)) ((crc (c.extract 0 i).data.toList : Nat) : Int)) = true := by
        have lab := Nat.xor_lt_two_pow (n := 32) la lb
        rw [i64_xor_nat _ _ la lb, i64_xor_nat _ _ lab lc, hkey]
        exact beq_self_eq_true _
      rw [extract_list, extract_list, extract_list] at hlast
      have SZ := Lib.hid (And.intro hMs (And.intro ha2 (And.intro hb2 hc2)))
      have TW := Lib.hid tw
      have HB1 := Lib.hid b1
      clear hkey hM hMs ha2 hb2 hc2 tw hb hml hcs hn hmk hblk hsz bw b1 HC la lb lc
      go_wp2_with fail
      go_quiet ((go_at_call 21; exact Calls.quiet_of_same (sum_q _ _ (by first | exact SZ.out.1 | exact SZ.out.2.1 | exact SZ.out.2.2.1 | exact SZ.out.2.2.2) (Tab_drewN TW.out _))))
      go_wp2
      go_ret
      exact ⟨rfl, Below_drewN hbw _⟩
end Go.Proofs.YtolpkbjbklcdgaaDoor
