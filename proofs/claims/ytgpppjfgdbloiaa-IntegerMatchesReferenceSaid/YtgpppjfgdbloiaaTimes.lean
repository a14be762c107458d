/- The contract of times of amounts. Condition: the amounts read, and have at most 1,000 groups. -/
import Derived.Test.YtgpppjfgdbloiaaPlus
namespace Go.Proofs.Ytgpppjfgdbloiaa
open Go.RowKit Go.Lib

theorem zc_eq (k : Nat) : zc k = ((List.replicate k (0 : Int)).map iv).toArray := rfl
theorem colv_zeros : ∀ k, colv (List.replicate k (0 : Int)) = 0
  | 0 => rfl
  | k + 1 => by rw [List.replicate_succ, colv, colv_zeros k]; rfl
theorem dd_bd {d e : Nat} (hd : d < 10000) (he : e ≤ 10000) : (0 : Int) ≤ (d : Int) * (e : Int) ∧ (d : Int) * (e : Int) ≤ 100000000 := by
  have h := Nat.mul_le_mul (show d ≤ 10000 by omega) he
  have : (d : Int) * (e : Int) = ((d * e : Nat) : Int) := by push_cast; rfl
  omega

set_option maxRecDepth 100000 in
set_option maxHeartbeats 1000000 in
theorem atimes_gen (A A' : Option Addr) (c c' X Y m : Nat) (f S : Nat → Nat) (w : World) (hA : Am w A (glen X) c X) (hX : glen X ≤ 1000) (hY : m ≤ 1000)
    (hB : 0 < m → ∃ b o, A' = some ⟨b, o, none⟩ ∧ b < w.heap.size ∧ ∀ i, i < m → w.cell? ⟨b, o + i, none⟩ = some (.int .i64 (f i : Nat)))
    (hf : ∀ i, f i ≤ 10000) (hS0 : S 0 = 0) (hS : ∀ j, S (j + 1) = S j + 10000 ^ j * f j) (hmy : S m = Y) (hsum : X * Y < 10000 ^ (glen X + m)) :
    Calls Try.prog 68 #[.slice A (glen X) c, .slice A' m c'] w (OutN (X * Y) w) := by
  obtain ⟨k, hk⟩ : ∃ k, k = glen X + m := ⟨_, rfl⟩
  rw [← hk] at hsum
  have hmk := fun w => run_make_ints 44 Try.underlying44 k k (Nat.le_refl _) (by omega) w
  have hmx : X % 10000 ^ glen X = X := Nat.mod_eq_of_lt (lt_glen X)
  have hb1 : Below w.heap.size w (w.alloc (.cells (zc k) 3)) := (Below.refl _ _).alloc (Nat.le_refl _) _
  have hg1 : Blk (w.alloc (.cells (zc k) 3)) w.heap.size 3 (zc k) := Blk.new w 3 (zc k)
  have hk3 : k ≤ 3000 := by omega
  have e1 : ((glen X : Nat) : Int) + (m : Int) = k := by omega
  obtain ⟨n, hn⟩ : ∃ n, n = glen X := ⟨_, rfl⟩
  rw [← hn] at hA hX hk hmx e1 ⊢
  have hk1 : k ≤ n + m := by omega
  have hk2 : n + m ≤ k := by omega
  have HA := Lib.hid hA; have HB := Lib.hid hB; have HS := Lib.hid hsum; have HMX := Lib.hid hmx; have HMY := Lib.hid hmy; have HB1 := Lib.hid hb1; have HG1 := Lib.hid hg1; have HN := Lib.hid hn; have HF := Lib.hid hf; have HS0 := Lib.hid hS0; have HSS := Lib.hid hS
  clear hA hB hsum hmx hmy hb1 hg1 hn hk hf hS0 hS
  go_enter Try.func68, Try.ntmps68
  go_wp2
  clear hmk e1
  go_loopw [18] (fun ii wr => ∃ (i : Nat) (L : List Int), ii = .int .i64 i ∧ i ≤ n ∧ Hid (L.length = k ∧ colv L = (X % 10000 ^ i * Y : Nat) ∧ ∀ c ∈ L, -(100000000 * (1000 * (i : Int))) ≤ c ∧ c ≤ 100000000 * (1000 * (i : Int))) ∧ Blk wr w.heap.size 3 (L.map iv).toArray ∧ Below w.heap.size w wr)
    (fun ii _ => n - (intOf ii).toNat)
  case atStart => exact ⟨0, _, rfl, Nat.zero_le _, ⟨List.length_replicate, by rw [colv_zeros, Nat.pow_zero, Nat.mod_one, Nat.zero_mul]; rfl, by intro c hc; rw [List.eq_of_mem_replicate hc]; simp⟩, HG1.out, HB1.out⟩
  case round =>
    obtain ⟨i, L, rfl, hi, HL, hG, hbl⟩ := hrel
    by_cases hlt : i < n
    · obtain ⟨b, o, rfl, hb, hc⟩ := (HA.out.below hbl).2 (by omega)
      have hcell := hc i hlt
      have hd := dg4_lt X i
      obtain ⟨d, hd2⟩ : ∃ d, d = dg4 X i := ⟨_, rfl⟩
      rw [← hd2] at hcell hd
      have p1 : (0 : Int) ≤ (i : Int) := by omega
      have p2 : (i : Int) < (n : Int) := by omega
      have HD := Lib.hid hd2
      have HG := Lib.hid hG
      have HBL := Lib.hid hbl
      clear hc hd2 hG hbl
      go_wp2
      go_loopw [25] (fun jj ws => ∃ (j : Nat) (L : List Int), jj = .int .i64 j ∧ j ≤ m ∧ Hid (L.length = k ∧ colv L = (X % 10000 ^ i * Y + d * 10000 ^ i * S j : Nat) ∧ ∀ c ∈ L, -(100000000 * (1000 * (i : Int) + j)) ≤ c ∧ c ≤ 100000000 * (1000 * (i : Int) + j)) ∧ Blk ws w.heap.size 3 (L.map iv).toArray ∧ Below w.heap.size w ws)
        (fun jj _ => m - (intOf jj).toNat)
      case atStart => exact ⟨0, L, rfl, Nat.zero_le _, ⟨HL.out.1, by rw [HL.out.2.1, HS0.out, Nat.mul_zero, Nat.add_zero], by simpa using HL.out.2.2⟩, HG.out, HBL.out⟩
      case round =>
        obtain ⟨j, L, rfl, hj, HL, hG, hbl⟩ := hrel
        by_cases hlt2 : j < m
        · obtain ⟨b', o', rfl, hb', hc'⟩ := HB.out (by omega)
          have hcell' := (hbl.cell (p := ⟨b', o' + j, none⟩) hb').trans (hc' j hlt2)
          have hil : i + j < L.length := by rw [HL.out.1]; omega
          have c0 := hG.cell (iv_at hil)
          have f0 := hG.frozen (i + j)
          have he := HF.out j
          have hy := HL.out.2.2 L[i + j] (List.getElem_mem _)
          obtain ⟨e, hf2⟩ : ∃ e, e = f j := ⟨_, rfl⟩
          rw [← hf2] at hcell' he
          obtain ⟨y, hy2⟩ : ∃ y, y = L[i + j] := ⟨_, rfl⟩
          rw [← hy2] at c0 hy
          rw [iv] at c0
          have hdd := dd_bd hd he
          have r1 : (0 : Int) ≤ (j : Int) := by omega
          have r2 : (j : Int) < (m : Int) := by omega
          have r3 : (0 : Int) ≤ (i : Int) + (j : Int) := by omega
          have r4 : (i : Int) + (j : Int) < (k : Int) := by omega
          have r5 : ((i : Int) + (j : Int)).toNat = i + j := by omega
          have s1 : -200000000000000 ≤ y ∧ y ≤ 200000000000000 := by omega
          have HL2 : Hid ((L.set (i + j) (y + d * e)).length = k ∧ colv (L.set (i + j) (y + d * e)) = (X % 10000 ^ i * Y + d * 10000 ^ i * S (j + 1) : Nat) ∧ ∀ c ∈ L.set (i + j) (y + d * e), -(100000000 * (1000 * (i : Int) + (j + 1 : Nat))) ≤ c ∧ c ≤ 100000000 * (1000 * (i : Int) + (j + 1 : Nat))) := by
            refine ⟨by rw [List.length_set, HL.out.1], ?_, ?_⟩
            · rw [colv_set L (i + j) _ hil, HL.out.2.1, ← hy2, HSS.out j, ← hf2]
              push_cast
              rw [Int.pow_add]
              grind
            · have := bd_set (L := L) (i := i + j) (x := (d : Int) * e) (N := 100000000 * (1000 * (i : Int) + j)) (M := 100000000) hil HL.out.2.2 (by omega)
              rw [← hy2] at this
              intro c hc; have := this c hc; omega
          clear hc' hy2 hf2 hy HL
          go_wp2
          go_roundw
          case rel => exact ⟨j + 1, _, by go_num, by omega, HL2, by rw [← iv_set]; exact hG.set (i + j) _, hbl.setCell (Nat.le_refl _) _⟩
          case measure => simp [intOf]; omega
        · obtain rfl : j = m := by omega
          have HL2 : Hid (L.length = k ∧ colv L = (X % 10000 ^ (i + 1) * Y : Nat) ∧ ∀ c ∈ L, -(100000000 * (1000 * ((i + 1 : Nat) : Int))) ≤ c ∧ c ≤ 100000000 * (1000 * ((i + 1 : Nat) : Int))) := by
            refine ⟨HL.out.1, ?_, ?_⟩
            · rw [HL.out.2.1, HMY.out, mod_succ4, ← HD.out, Nat.add_mul, Nat.mul_comm d]
            · intro c hc; have := HL.out.2.2 c hc; omega
          clear HL
          go_wp2
          go_roundw
          case rel => exact ⟨i + 1, _, by go_num, by omega, HL2, hG, hbl⟩
          case measure => simp [intOf]; omega
    · obtain rfl : i = n := by omega
      have hcar := carried_any w.heap.size w.heap.size k (X * Y) L wr hG HL.out.1 hk3 (by rw [HL.out.2.1, HMX.out]) HS.out (by intro c hc; have := HL.out.2.2 c hc; omega) (Nat.le_refl _)
      have HC := Lib.hid hcar
      clear hcar hG
      go_wp2_with (go_at_call 74; refine HC.out.mono ?_; rintro e w2 ⟨rfl, hA2, hb2⟩)
      go_ret
      exact ⟨_, _, rfl, hA2, hbl.trans hb2⟩

/-- The product of two amounts. -/
theorem atimes_any (A A' : Option Addr) (c c' X Y : Nat) (w : World) (hA : Am w A (glen X) c X) (hB : Am w A' (glen Y) c' Y) (hX : glen X ≤ 1000) (hY : glen Y ≤ 1000) :
    Calls Try.prog 68 #[.slice A (glen X) c, .slice A' (glen Y) c'] w (OutN (X * Y) w) :=
  atimes_gen A A' c c' X Y (glen Y) (dg4 Y) (fun j => Y % 10000 ^ j) w hA hX hY hB.2 (fun i => by have := dg4_lt Y i; omega) (by simp [Nat.mod_one]) (fun j => mod_succ4 Y j) (Nat.mod_eq_of_lt (lt_glen Y))
    (by rw [Nat.pow_add]; exact Nat.mul_lt_mul'' (lt_glen X) (lt_glen Y))
/-- The product of an amount and a number up to 10,000 in one cell. -/
theorem atimes_one (A : Option Addr) (c X q b : Nat) (w : World) (hA : Am w A (glen X) c X) (hX : glen X ≤ 1000) (hq : q ≤ 10000) (hb : b < w.heap.size) (hc : w.cell? ⟨b, 0, none⟩ = some (.int .i64 (q : Nat))) :
    Calls Try.prog 68 #[.slice A (glen X) c, .slice (some ⟨b, 0, none⟩) 1 1] w (OutN (X * q) w) :=
  atimes_gen A _ c 1 X q 1 (fun i => if i = 0 then q else 0) (fun j => if j = 0 then 0 else q) w hA hX (by omega) (fun _ => ⟨b, 0, rfl, hb, fun i hi => by
      obtain rfl : i = 0 := by omega
      exact hc⟩) (fun i => by split <;> omega) rfl (fun j => by by_cases h : j = 0 <;> simp [h]) rfl (by
    rw [Nat.pow_succ]
    exact Nat.lt_of_le_of_lt (Nat.mul_le_mul_left X hq) (Nat.mul_lt_mul_of_pos_right (lt_glen X) (by omega)))
end Go.Proofs.Ytgpppjfgdbloiaa
