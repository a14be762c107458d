/- The contract of RationalLimits. Conditions: ints. | RationalLimits: the law's walk. Conditions: ints. -/
import Derived.Deep.CutRange
import Derived.Test.YtnacgdkihkfjkaaGJ
namespace Go.Proofs.Ytnacgdkihkfjkaa
open Go.RowKit Go.Lib

theorem tz_succ (k : Nat) : tz k ++ ⟨#[48]⟩ = tz (k + 1) := by
  have h : ∀ L M : List UInt8, bs L ++ bs M = bs (L ++ M) := fun L M => by
    have : (bs L ++ bs M).data.toList = L ++ M := by simp [bs, ByteArray.data_append]
    rw [← bs_self (bs L ++ bs M), this]
  unfold tz
  rw [List.replicate_succ']
  exact h (49 :: List.replicate k 48) [48]
theorem rd_tz' {k : Nat} (h : k ≤ 199) : rd (tz k).data.toList = some ((10 ^ k : Nat) : Int) := rd_tz h
theorem pow_pos10 (k : Nat) : (0 : Int) < ((10 ^ k : Nat) : Int) := by have := Nat.pow_pos (n := k) (show 0 < 10 by omega); omega
theorem rdQ_tz {k : Nat} (h : k ≤ 199) : rdQ (tz k).data.toList [49] = some (((10 ^ k : Nat) : Int), 1) := by
  rw [rdQ_yes (rd_tz' h) rd_49, if_pos]
  exact ⟨by omega, Nat.gcd_one_right _⟩
theorem rdQ_inv {k : Nat} (h : k ≤ 199) : rdQ [49] (tz k).data.toList = some (1, ((10 ^ k : Nat) : Int)) := by
  rw [rdQ_yes rd_49 (rd_tz' h), if_pos]
  exact ⟨pow_pos10 k, Nat.gcd_one_left _⟩
theorem rdQ_one : rdQ [49] [49] = some (1, 1) := by decide +kernel
theorem pow_mul10 (n m : Nat) : ((10 ^ n : Nat) : Int) * ((10 ^ m : Nat) : Int) = ((10 ^ (n + m) : Nat) : Int) := by rw [Nat.pow_add]; push_cast; rfl
theorem lim_pow (k : Nat) : lim ((10 ^ k : Nat) : Int) = if k ≤ 199 then some ((10 ^ k : Nat) : Int) else none := by
  unfold lim
  rw [Int.natAbs_natCast]
  by_cases h : k ≤ 199
  · rw [if_pos h, if_pos (Nat.pow_lt_pow_right (by omega) (by omega))]
  · rw [if_neg h, if_neg (Nat.not_lt.2 (Nat.pow_le_pow_right (by omega) (by omega)))]
theorem lim_one : lim 1 = some 1 := by decide +kernel
theorem lim_pow1 (k : Nat) (h : k ≤ 199) : ∃ z, lim (((10 ^ k : Nat) : Int) + 1) = some z := by
  refine ⟨_, lim_some (z := ((10 ^ k : Nat) : Int) + 1) ?_⟩
  have h1 := Nat.pow_le_pow_right (show 0 < 10 by omega) h
  have h2 : (10 : Nat) ^ 199 + 1 < 10 ^ 200 := by decide +kernel
  have e : ∀ x : Nat, ((x : Int) + 1).natAbs = x + 1 := fun x => by omega
  rw [e]
  generalize (10 : Nat) ^ k = x at *
  generalize (10 : Nat) ^ 199 = y at *
  generalize (10 : Nat) ^ 200 = z at *
  omega
/-- The values. -/
theorem lims_mul {n m : Nat} (hn : n ≤ 199) (hm : m ≤ 199) : mulQ (rdQ (tz n).data.toList [49]) (rdQ (tz m).data.toList [49]) = if n + m ≤ 199 then some (red ((10 ^ (n + m) : Nat) : Int) 1) else none := by
  rw [rdQ_tz hn, rdQ_tz hm]
  show mk2 (lim (((10 ^ n : Nat) : Int) * ((10 ^ m : Nat) : Int))) (lim (1 * 1)) = _
  rw [pow_mul10, lim_pow, Int.one_mul, lim_one]
  split <;> rfl
theorem lims_div {m : Nat} (hm : m ≤ 199) : divQ (rdQ [49] [49]) (rdQ (tz m).data.toList [49]) = some (1, ((10 ^ m : Nat) : Int)) := by
  rw [rdQ_one, rdQ_tz hm]
  show mk2 (lim (1 * 1)) (lim (1 * ((10 ^ m : Nat) : Int))) = _
  rw [Int.one_mul, Int.one_mul, lim_one, lim_pow, if_pos hm]
  have := pow_pos10 m
  show (if _ then _ else _) = _
  rw [if_neg (by omega), red_of_low (n := 1) (d := ((10 ^ m : Nat) : Int)) ⟨this, Nat.gcd_one_left _⟩]
theorem lims_add {n m : Nat} (hn : n ≤ 199) (hm : m ≤ 199) : ∃ r, sumQ (· + ·) (rdQ (tz n).data.toList [49]) (rdQ [49] (tz m).data.toList) = r ∧ qE r = if n + m ≤ 199 then 0 else 40 := by
  refine ⟨_, rfl, ?_⟩
  rw [rdQ_tz hn, rdQ_inv hm]
  show qE (mk2 ((lim (((10 ^ n : Nat) : Int) * ((10 ^ m : Nat) : Int))).bind fun x => (lim (1 * 1)).bind fun y => lim (x + y)) (lim (1 * ((10 ^ m : Nat) : Int)))) = _
  rw [pow_mul10, Int.one_mul, Int.one_mul, lim_one, lim_pow, lim_pow, if_pos hm]
  by_cases h : n + m ≤ 199
  · rw [if_pos h, if_pos h]
    obtain ⟨z, hz⟩ := lim_pow1 _ h
    show qE (mk2 (lim (((10 ^ (n + m) : Nat) : Int) + 1)) _) = 0
    rw [hz]
    have := pow_pos10 m
    show qE (if _ then _ else _) = 0
    rw [if_neg (by omega)]; rfl
  · rw [if_neg h, if_neg h]; rfl
theorem ord_pow (n m : Nat) : ordI ((10 ^ n : Nat) : Int) ((10 ^ m : Nat) : Int) = if n < m then -1 else if m < n then 1 else 0 := by
  rcases Nat.lt_trichotomy n m with h | h | h
  · have := Nat.pow_lt_pow_right (show 1 < 10 by omega) h
    rw [if_pos h, ordI_lt (by omega)]
  · subst h; rw [if_neg (by omega), if_neg (by omega), ordI_eq rfl]
  · have := Nat.pow_lt_pow_right (show 1 < 10 by omega) h
    rw [if_neg (by omega), if_pos h, ordI_gt (by omega)]
theorem lims_cmp {n m : Nat} (hn : n ≤ 199) (hm : m ≤ 199) : cmpQ (rdQ (tz n).data.toList [49]) (rdQ (tz m).data.toList [49]) = if n < m then -1 else if m < n then 1 else 0 := by
  rw [rdQ_tz hn, rdQ_tz hm]
  show ordI (((10 ^ n : Nat) : Int) * 1) (((10 ^ m : Nat) : Int) * 1) = _
  rw [Int.mul_one, Int.mul_one, ord_pow]
theorem lims_up {n m : Nat} (hn : n ≤ 199) (hm : m ≤ 199) : cmpQ (rdQ (tz n).data.toList [49]) (rdQ [49] (tz m).data.toList) = if n = 0 ∧ m = 0 then 0 else 1 := by
  rw [rdQ_tz hn, rdQ_inv hm]
  show ordI (((10 ^ n : Nat) : Int) * ((10 ^ m : Nat) : Int)) (1 * 1) = _
  rw [pow_mul10, show (1 * 1 : Int) = ((10 ^ 0 : Nat) : Int) from rfl, ord_pow]
  by_cases h : n = 0 ∧ m = 0
  · rw [if_pos h, if_neg (by omega), if_neg (by omega)]
  · rw [if_neg h, if_neg (by omega), if_pos (by omega)]
end Go.Proofs.Ytnacgdkihkfjkaa
namespace Go.Proofs.Ytnacgdkihkfjkaa
open Go.RowKit Go.Lib

set_option maxRecDepth 100000 in
set_option maxHeartbeats 4000000 in
theorem limits_law (nn mm : Int) (w : World) (hn0 : -9223372036854775808 ≤ nn ∧ nn ≤ 9223372036854775807) (hm0 : -9223372036854775808 ≤ mm ∧ mm ≤ 9223372036854775807) :
    Calls Try.prog 9 #[.int .i64 nn, .int .i64 mm] w fun e w' => e = .returned (.bool true) ∧ Below w.heap.size w w' := by
  have P1 := Lib.hid (fun W => pick_any nn 200 W hn0 (by omega))
  have P2 := Lib.hid (fun W => pick_any mm 200 W hm0 (by omega))
  have HSA := Lib.hid (fun W => sane_any W)
  have HTS := Lib.hid tz_succ
  have HIS := Lib.hid (fun a b W => is_any a b W)
  clear hn0 hm0
  go_enter Try.func9, Try.ntmps9
  go_wp2_with fail
  refine (HSA.out _).mono ?_
  rintro e w1 ⟨rfl, hb1⟩
  have HB1 := Lib.hid hb1
  clear hb1
  go_wp2_with fail
  refine (P1.out _).mono ?_
  rintro e w2 ⟨n, hn, rfl, rfl⟩
  go_wp2_with fail
  refine (P2.out _).mono ?_
  rintro e w2 ⟨m, hm, rfl, rfl⟩
  have hn9 : n ≤ 199 := by omega
  have hm9 : m ≤ 199 := by omega
  clear hn hm P1 P2 HSA
  go_wp2_with fail
  go_loopw [6, 7] (fun s ii wr => ∃ j : Nat, ii = .int .i64 j ∧ j ≤ n ∧ s = .string (tz j) ∧ w1 = wr) (fun _ ii _ => n - (intOf ii).toNat)
  case atStart => exact ⟨0, rfl, Nat.zero_le _, rfl, rfl⟩
  case round =>
    obtain ⟨j, rfl, hj, rfl, rfl⟩ := hrel
    have hsz := tz_size j
    by_cases hlt : j < n
    · have h2 := HTS.out j
      go_wp2_with fail
      go_roundw
      case rel => exact ⟨j + 1, by go_num, by omega, rfl, trivial⟩
      case measure => simp [intOf]; omega
    · obtain rfl : n = j := by omega
      clear hj hsz
      go_wp2_with fail
      go_loopw [8, 9] (fun s ii wr => ∃ i : Nat, ii = .int .i64 i ∧ i ≤ m ∧ s = .string (tz i) ∧ w1 = wr) (fun _ ii _ => m - (intOf ii).toNat)
      case atStart => exact ⟨0, rfl, Nat.zero_le _, rfl, rfl⟩
      case round =>
        obtain ⟨i, rfl, hi, rfl, rfl⟩ := hrel
        have hsz := tz_size i
        by_cases hlt2 : i < m
        · have h2 := HTS.out i
          go_wp2_with fail
          go_roundw
          case rel => exact ⟨i + 1, by go_num, by omega, rfl, trivial⟩
          case measure => simp [intOf]; omega
        · obtain rfl : m = i := by omega
          clear hi hsz hlt2 hlt HTS
          have hfx : n + m ≤ 199 ∨ ¬ n + m ≤ 199 := Decidable.em _
          have z1 : (tz n).size ≤ 9000000000000000000 ∧ (⟨#[49]⟩ : ByteArray).size ≤ 9000000000000000000 := ⟨by rw [tz_size]; omega, by decide⟩
          have z2 : (tz m).size ≤ 9000000000000000000 ∧ (⟨#[49]⟩ : ByteArray).size ≤ 9000000000000000000 := ⟨by rw [tz_size]; omega, by decide⟩
          have z3 : (⟨#[49]⟩ : ByteArray).size ≤ 9000000000000000000 ∧ (⟨#[49]⟩ : ByteArray).size ≤ 9000000000000000000 := ⟨by decide, by decide⟩
          have hM := fun W => fmul_any (tz n) ⟨#[49]⟩ (tz m) ⟨#[49]⟩ W z1 z2
          have hD := fun W => fdiv_any ⟨#[49]⟩ ⟨#[49]⟩ (tz m) ⟨#[49]⟩ W z3 z2
          have hA := fun W => fadd_any (tz n) ⟨#[49]⟩ ⟨#[49]⟩ (tz m) W z1 ⟨z2.2, z2.1⟩
          have hC := fun W => fcmp_any (tz n) ⟨#[49]⟩ (tz m) ⟨#[49]⟩ W z1 z2
          have hU := fun W => fcmp_any (tz n) ⟨#[49]⟩ ⟨#[49]⟩ (tz m) W z1 ⟨z2.2, z2.1⟩
          rw [show (⟨#[49]⟩ : ByteArray).data.toList = [49] from rfl] at hM hD hA hC hU
          rw [lims_mul hn9 hm9] at hM
          rw [lims_div hm9] at hD
          rw [lims_cmp hn9 hm9] at hC
          rw [lims_up hn9 hm9] at hU
          obtain ⟨ra, hra, hqa⟩ := lims_add hn9 hm9
          rw [hra] at hA
          unfold OutFr fV at hM hD hA
          unfold fV at hC hU
          rw [hqa] at hA
          have hD' : ∀ W, Calls Try.prog 34 #[.agg #[.string ⟨#[49]⟩, .string ⟨#[49]⟩], .agg #[.string (tz m), .string ⟨#[49]⟩]] W fun e w' => e = .returned (.tuple #[.agg #[.string ⟨#[49]⟩, .string (tz m)], .int .i64 0]) ∧ Below W.heap.size W w' := fun W => (hD W).mono fun e w' h => by
            rw [show qN (some (1, ((10 ^ m : Nat) : Int))) = (⟨#[49]⟩ : ByteArray) from zS_one, show qD (some (1, ((10 ^ m : Nat) : Int))) = tz m from tz_z hm9] at h
            exact h
          have HD := Lib.hid hD'; have HC := Lib.hid hC; have HU := Lib.hid hU
          clear hD hD' hC hU hra hqa z1 z2 z3
          rcases hfx with hf | hf
          · simp only [hf, if_true] at hM hA
            obtain ⟨rz, hrz⟩ : ∃ r, r = red ((10 ^ (n + m) : Nat) : Int) 1 := ⟨_, rfl⟩
            rw [← hrz] at hM
            clear hrz
            simp only [qN, qD, qE] at hM
            have HM := Lib.hid hM; have HA := Lib.hid hA
            clear hM hA
            go_wp2_with fail
            refine (HIS.out _ _ _).mono ?_
            rintro e w2 ⟨rfl, hb2⟩
            have HX0 := Lib.hid (Blk.new w2 23 #[.string (tz n), .string ⟨#[49]⟩])
            have HB2 := Lib.hid ((HB1.out.trans (hb2.mono HB1.out.size)).alloc (HB1.out.trans (hb2.mono HB1.out.size)).size (.cells #[.string (tz n), .string ⟨#[49]⟩] 23))
            clear hb2
            go_wp2_with fail
            refine (HIS.out _ _ _).mono ?_
            rintro e w3 ⟨rfl, hb3⟩
            have HX1 := Lib.hid ((HX0.out.below hb3 HX0.out.lt).alloc (.cells #[.string (tz m), .string ⟨#[49]⟩] 23))
            have HY1 := Lib.hid (Blk.new w3 23 #[.string (tz m), .string ⟨#[49]⟩])
            have HB3 := Lib.hid ((HB2.out.trans (hb3.mono HB2.out.size)).alloc (HB2.out.trans (hb3.mono HB2.out.size)).size (.cells #[.string (tz m), .string ⟨#[49]⟩] 23))
            have a0 := HX1.out.cell (i := 0) (v := .string (tz n)) rfl; have a1 := HX1.out.cell (i := 1) (v := .string ⟨#[49]⟩) rfl
            clear hb3
            go_wp2_with fail
            refine (HM.out _).mono ?_
            rintro e w4 ⟨rfl, hb4⟩
            have HX2 := Lib.hid ((HX1.out.below hb4 HX1.out.lt).alloc (.cells #[.string (zS rz.1), .string (zS rz.2)] 23))
            have HY2 := Lib.hid ((HY1.out.below hb4 HY1.out.lt).alloc (.cells #[.string (zS rz.1), .string (zS rz.2)] 23))
            have HZ2 := Lib.hid (Blk.new w4 23 #[.string (zS rz.1), .string (zS rz.2)])
            have HB4 := Lib.hid ((HB3.out.trans (hb4.mono HB3.out.size)).alloc (HB3.out.trans (hb4.mono HB3.out.size)).size (.cells #[.string (zS rz.1), .string (zS rz.2)] 23))
            have b0 := HY2.out.cell (i := 0) (v := .string (tz m)) rfl; have b1 := HY2.out.cell (i := 1) (v := .string ⟨#[49]⟩) rfl
            have HKY : Hid (∀ W, Below (w4.alloc (.cells #[.string (zS rz.1), .string (zS rz.2)] 23)).heap.size (w4.alloc (.cells #[.string (zS rz.1), .string (zS rz.2)] 23)) W → W.cell? ⟨w3.heap.size, 0, none⟩ = some (.string (tz m)) ∧ W.cell? ⟨w3.heap.size, 1, none⟩ = some (.string ⟨#[49]⟩)) := fun W hW =>
              ⟨(HY2.out.below hW HY2.out.lt).cell (i := 0) rfl, (HY2.out.below hW HY2.out.lt).cell (i := 1) rfl⟩
            clear hb4 a0 a1
            go_wp2_with fail
            go_cut [14, 15] from 50 to 55 (fun p e wx => e = .int .i64 0 ∧ Below (w4.alloc (.cells #[.string (zS rz.1), .string (zS rz.2)] 23)).heap.size (w4.alloc (.cells #[.string (zS rz.1), .string (zS rz.2)] 23)) wx ∧ ∃ b, p = .pointer (some ⟨b, 0, none⟩) ∧ Blk wx b 23 #[.string ⟨#[49]⟩, .string (tz m)])
            case first =>
              have hk0 := And.intro b0 b1
              have hs4 : (w4.alloc (.cells #[.string (zS rz.1), .string (zS rz.2)] 23)).heap.size = w4.heap.size + 1 := by simp
              go_region_held3 (fun w' => w'.cell? ⟨w3.heap.size, 0, none⟩ = some (.string (tz m)) ∧ w'.cell? ⟨w3.heap.size, 1, none⟩ = some (.string ⟨#[49]⟩)) (first | exact HKY.out _ ((x6b.setCell x6a.size _).setCell x6a.size _) | exact HKY.out _ ((x6b.setCell h5s _).setCell h5s _) | exact HKY.out _ (x6b.alloc x6b.size _) | exact HKY.out _ x6b | exact HKY.out _ (x6a.alloc x6a.size _) | exact HKY.out _ x6a | exact hk0 | go_keep)
                (first
                  | (go_at_call 27; (with_reducible refine (is_any _ _ _).mono ?_); rintro e v6 ⟨rfl, h6_1⟩; have x6a : Below (w4.alloc (.cells #[.string (zS rz.1), .string (zS rz.2)] 23)).heap.size (w4.alloc (.cells #[.string (zS rz.1), .string (zS rz.2)] 23)) v6 := ((Below.refl _ _).drew.trans h6_1))
                  | (go_at_call 27; (with_reducible refine (is_any _ _ _).mono ?_); rintro e v6 ⟨rfl, h6_1⟩; have x6a : Below (w4.alloc (.cells #[.string (zS rz.1), .string (zS rz.2)] 23)).heap.size (w4.alloc (.cells #[.string (zS rz.1), .string (zS rz.2)] 23)) v6 := (((Below.refl _ _).alloc (Nat.le_refl _) _).drew.trans (h6_1.mono (by simp))); have h5s : (w4.alloc (.cells #[.string (zS rz.1), .string (zS rz.2)] 23)).heap.size ≤ w4.heap.size + 1 := (by simp); have hz0 : Blk v6 (w4.heap.size + 1) 23 #[.string ⟨#[]⟩, .string ⟨#[]⟩] := (by have h := ((Blk.new (w4.alloc (.cells #[.string (zS rz.1), .string (zS rz.2)] 23)) 23 #[.string ⟨#[]⟩, .string ⟨#[]⟩]).drew).below h6_1 (by simp); rw [hs4] at h; exact h))
                  | (go_at_call 34; (with_reducible refine (HD.out _).mono ?_); rintro e w6 ⟨rfl, h6_2⟩; have x6b : Below (w4.alloc (.cells #[.string (zS rz.1), .string (zS rz.2)] 23)).heap.size (w4.alloc (.cells #[.string (zS rz.1), .string (zS rz.2)] 23)) w6 := x6a.trans (h6_2.mono x6a.size); have hz := hz0.below h6_2 hz0.lt; have z0 := hz.cell (i := 0) rfl; have z1 := hz.cell (i := 1) rfl; have f0 := hz.frozen 0; have f1 := hz.frozen 1)
                  | (go_at_call 34; (with_reducible refine (HD.out _).mono ?_); rintro e w6 ⟨rfl, h6_2⟩; have x6b : Below (w4.alloc (.cells #[.string (zS rz.1), .string (zS rz.2)] 23)).heap.size (w4.alloc (.cells #[.string (zS rz.1), .string (zS rz.2)] 23)) w6 := x6a.trans (h6_2.mono x6a.size))
                  | (go_at_call 34; (with_reducible refine (HD.out _).mono ?_); rintro e w6 ⟨rfl, h6_2⟩; have x6b : Below (w4.alloc (.cells #[.string (zS rz.1), .string (zS rz.2)] 23)).heap.size (w4.alloc (.cells #[.string (zS rz.1), .string (zS rz.2)] 23)) w6 := (x6a.alloc x6a.size _).trans (h6_2.mono (x6a.alloc x6a.size _).size); have hz := (Blk.new v6 23 #[.string ⟨#[]⟩, .string ⟨#[]⟩]).below h6_2 (by simp); have z0 := hz.cell (i := 0) rfl; have z1 := hz.cell (i := 1) rfl; have f0 := hz.frozen 0; have f1 := hz.frozen 1))
              all_goals
                go_wp2_with fail
                go_meet
                first
                  | exact ⟨rfl, (x6b.setCell x6a.size _).setCell x6a.size _, _, rfl, (hz.set 0 (.string ⟨#[49]⟩)).set 1 (.string (tz m))⟩
                  | exact ⟨rfl, (x6b.setCell h5s _).setCell h5s _, _, rfl, (hz.set 0 (.string ⟨#[49]⟩)).set 1 (.string (tz m))⟩
                  | exact ⟨rfl, x6b.alloc x6b.size _, _, rfl, Blk.new w6 _ _⟩
            case rest =>
              obtain ⟨rfl, hcb, sb, rfl, hsm⟩ := hcut
              have HCB := Lib.hid hcb; have HSM := Lib.hid hsm
              have HX3 := Lib.hid (HX2.out.below hcb HX2.out.lt)
              have c0 := HX3.out.cell (i := 0) (v := .string (tz n)) rfl; have c1 := HX3.out.cell (i := 1) (v := .string ⟨#[49]⟩) rfl
              have d0 := hsm.cell (i := 0) (v := .string ⟨#[49]⟩) rfl; have d1 := hsm.cell (i := 1) (v := .string (tz m)) rfl
              clear hcb hsm b0 b1 HKY
              go_wp2_with fail
              refine (HA.out _).mono ?_
              rintro e w7 ⟨rfl, hb7⟩
              have hX := (HX3.out.below hb7 HX3.out.lt).alloc (.cells #[.string (qN ra), .string (qD ra)] 23)
              have hY := ((HY2.out.below HCB.out HY2.out.lt).below hb7 (Nat.lt_of_lt_of_le HY2.out.lt HCB.out.size)).alloc (.cells #[.string (qN ra), .string (qD ra)] 23)
              have hZ := ((HZ2.out.below HCB.out HZ2.out.lt).below hb7 (Nat.lt_of_lt_of_le HZ2.out.lt HCB.out.size)).alloc (.cells #[.string (qN ra), .string (qD ra)] 23)
              have hS := (HSM.out.below hb7 HSM.out.lt).alloc (.cells #[.string (qN ra), .string (qD ra)] 23)
              have hB7 := HB4.out.trans ((HCB.out.trans (hb7.mono HCB.out.size)).mono HB4.out.size)
              have HB7 := Lib.hid (hB7.alloc hB7.size (.cells #[.string (qN ra), .string (qD ra)] 23))
              have e0 := hX.cell (i := 0) (v := .string (tz n)) rfl; have e1 := hX.cell (i := 1) (v := .string ⟨#[49]⟩) rfl
              have e2 := hY.cell (i := 0) (v := .string (tz m)) rfl; have e3 := hY.cell (i := 1) (v := .string ⟨#[49]⟩) rfl
              have e4 := hZ.cell (i := 0) (v := .string (zS rz.1)) rfl; have e5 := hZ.cell (i := 1) (v := .string (zS rz.2)) rfl
              have HS7 := Lib.hid hS; have HX7 := Lib.hid hX
              clear hb7 hB7 hX hY hZ hS c0 c1 d0 d1
              have q1 : decide ((n : Int) + m + 1 ≤ 200) = true := by simp; omega
              have n0 : (if n = 0 ∧ m = 0 then (0 : Int) else 1) = if ((n : Int) == 0) = true then (if ((m : Int) == 0) = true then 0 else 1) else 1 := by
                by_cases h1 : n = 0
                · by_cases h2 : m = 0
                  · simp [h1, h2]
                  · simp [h1, h2]
                · simp [h1]
              rw [n0] at HU
              clear n0 hf
              have nc : (((n : Int) == 0) = true ∨ ((n : Int) == 0) = false) ∧ (((m : Int) == 0) = true ∨ ((m : Int) == 0) = false) := ⟨by cases ((n : Int) == 0) <;> simp, by cases ((m : Int) == 0) <;> simp⟩
              obtain ⟨n1 | n1, m1 | m1⟩ := nc
              all_goals
                rw [n1] at HU
                try rw [m1] at HU
                simp only [if_true, Bool.false_eq_true, if_false] at HU
                rcases Nat.lt_trichotomy n m with h | h | h
              all_goals try (exfalso; simp only [beq_iff_eq, beq_eq_false_iff_ne, ne_eq] at n1 m1; omega)
              all_goals
                have k1 : decide ((n : Int) < m) = decide (n < m) := by rw [decide_eq_decide]; omega
                have k2 : decide ((m : Int) < n) = decide (m < n) := by rw [decide_eq_decide]; omega
                first
                  | rw [if_pos h] at HC
                  | rw [if_neg (by omega), if_pos h] at HC
                  | rw [if_neg (by omega), if_neg (by omega)] at HC
                first
                  | (rw [decide_eq_true h] at k1; have k3 : n < m := h)
                  | (rw [decide_eq_false (show ¬ n < m by omega)] at k1; have k3 : ¬ n < m := (by omega))
                first
                  | (rw [decide_eq_true h] at k2; have k4 : m < n := h)
                  | (rw [decide_eq_false (show ¬ m < n by omega)] at k2; have k4 : ¬ m < n := (by omega))
                clear h
                go_wp2_with fail
                refine (HC.out _).mono ?_
                rintro e w8 ⟨rfl, hb8⟩
                have hX8 := HX7.out.below hb8 HX7.out.lt
                have hS8 := HS7.out.below hb8 HS7.out.lt
                have g0 := hX8.cell (i := 0) (v := .string (tz n)) rfl; have g1 := hX8.cell (i := 1) (v := .string ⟨#[49]⟩) rfl
                have g2 := hS8.cell (i := 0) (v := .string ⟨#[49]⟩) rfl; have g3 := hS8.cell (i := 1) (v := .string (tz m)) rfl
                have HB8 := Lib.hid (HB7.out.trans (hb8.mono HB7.out.size))
                clear hb8 hX8 hS8
                go_wp2_with fail
                refine (HU.out _).mono ?_
                rintro e w9 ⟨rfl, hb9⟩
                go_wp2_with fail
                go_ret
                exact ⟨rfl, HB8.out.trans (hb9.mono HB8.out.size)⟩
          · simp only [hf, if_false] at hM hA
            simp only [qN, qD, qE] at hM
            have HM := Lib.hid hM; have HA := Lib.hid hA
            clear hM hA
            go_wp2_with fail
            refine (HIS.out _ _ _).mono ?_
            rintro e w2 ⟨rfl, hb2⟩
            have HX0 := Lib.hid (Blk.new w2 23 #[.string (tz n), .string ⟨#[49]⟩])
            have HB2 := Lib.hid ((HB1.out.trans (hb2.mono HB1.out.size)).alloc (HB1.out.trans (hb2.mono HB1.out.size)).size (.cells #[.string (tz n), .string ⟨#[49]⟩] 23))
            clear hb2
            go_wp2_with fail
            refine (HIS.out _ _ _).mono ?_
            rintro e w3 ⟨rfl, hb3⟩
            have HX1 := Lib.hid ((HX0.out.below hb3 HX0.out.lt).alloc (.cells #[.string (tz m), .string ⟨#[49]⟩] 23))
            have HY1 := Lib.hid (Blk.new w3 23 #[.string (tz m), .string ⟨#[49]⟩])
            have HB3 := Lib.hid ((HB2.out.trans (hb3.mono HB2.out.size)).alloc (HB2.out.trans (hb3.mono HB2.out.size)).size (.cells #[.string (tz m), .string ⟨#[49]⟩] 23))
            have a0 := HX1.out.cell (i := 0) (v := .string (tz n)) rfl; have a1 := HX1.out.cell (i := 1) (v := .string ⟨#[49]⟩) rfl
            clear hb3
            go_wp2_with fail
            refine (HM.out _).mono ?_
            rintro e w4 ⟨rfl, hb4⟩
            have HX2 := Lib.hid ((HX1.out.below hb4 HX1.out.lt).alloc (.cells #[.string ⟨#[]⟩, .string ⟨#[]⟩] 23))
            have HY2 := Lib.hid ((HY1.out.below hb4 HY1.out.lt).alloc (.cells #[.string ⟨#[]⟩, .string ⟨#[]⟩] 23))
            have HZ2 := Lib.hid (Blk.new w4 23 #[.string ⟨#[]⟩, .string ⟨#[]⟩])
            have HB4 := Lib.hid ((HB3.out.trans (hb4.mono HB3.out.size)).alloc (HB3.out.trans (hb4.mono HB3.out.size)).size (.cells #[.string ⟨#[]⟩, .string ⟨#[]⟩] 23))
            have b0 := HY2.out.cell (i := 0) (v := .string (tz m)) rfl; have b1 := HY2.out.cell (i := 1) (v := .string ⟨#[49]⟩) rfl
            have HKY : Hid (∀ W, Below (w4.alloc (.cells #[.string ⟨#[]⟩, .string ⟨#[]⟩] 23)).heap.size (w4.alloc (.cells #[.string ⟨#[]⟩, .string ⟨#[]⟩] 23)) W → W.cell? ⟨w3.heap.size, 0, none⟩ = some (.string (tz m)) ∧ W.cell? ⟨w3.heap.size, 1, none⟩ = some (.string ⟨#[49]⟩)) := fun W hW =>
              ⟨(HY2.out.below hW HY2.out.lt).cell (i := 0) rfl, (HY2.out.below hW HY2.out.lt).cell (i := 1) rfl⟩
            clear hb4 a0 a1
            go_wp2_with fail
            go_cut [14, 15] from 50 to 55 (fun p e wx => e = .int .i64 0 ∧ Below (w4.alloc (.cells #[.string ⟨#[]⟩, .string ⟨#[]⟩] 23)).heap.size (w4.alloc (.cells #[.string ⟨#[]⟩, .string ⟨#[]⟩] 23)) wx ∧ ∃ b, p = .pointer (some ⟨b, 0, none⟩) ∧ Blk wx b 23 #[.string ⟨#[49]⟩, .string (tz m)])
            case first =>
              have hk0 := And.intro b0 b1
              have hs4 : (w4.alloc (.cells #[.string ⟨#[]⟩, .string ⟨#[]⟩] 23)).heap.size = w4.heap.size + 1 := by simp
              go_region_held3 (fun w' => w'.cell? ⟨w3.heap.size, 0, none⟩ = some (.string (tz m)) ∧ w'.cell? ⟨w3.heap.size, 1, none⟩ = some (.string ⟨#[49]⟩)) (first | exact HKY.out _ ((x6b.setCell x6a.size _).setCell x6a.size _) | exact HKY.out _ ((x6b.setCell h5s _).setCell h5s _) | exact HKY.out _ (x6b.alloc x6b.size _) | exact HKY.out _ x6b | exact HKY.out _ (x6a.alloc x6a.size _) | exact HKY.out _ x6a | exact hk0 | go_keep)
                (first
                  | (go_at_call 27; (with_reducible refine (is_any _ _ _).mono ?_); rintro e v6 ⟨rfl, h6_1⟩; have x6a : Below (w4.alloc (.cells #[.string ⟨#[]⟩, .string ⟨#[]⟩] 23)).heap.size (w4.alloc (.cells #[.string ⟨#[]⟩, .string ⟨#[]⟩] 23)) v6 := ((Below.refl _ _).drew.trans h6_1))
                  | (go_at_call 27; (with_reducible refine (is_any _ _ _).mono ?_); rintro e v6 ⟨rfl, h6_1⟩; have x6a : Below (w4.alloc (.cells #[.string ⟨#[]⟩, .string ⟨#[]⟩] 23)).heap.size (w4.alloc (.cells #[.string ⟨#[]⟩, .string ⟨#[]⟩] 23)) v6 := (((Below.refl _ _).alloc (Nat.le_refl _) _).drew.trans (h6_1.mono (by simp))); have h5s : (w4.alloc (.cells #[.string ⟨#[]⟩, .string ⟨#[]⟩] 23)).heap.size ≤ w4.heap.size + 1 := (by simp); have hz0 : Blk v6 (w4.heap.size + 1) 23 #[.string ⟨#[]⟩, .string ⟨#[]⟩] := (by have h := ((Blk.new (w4.alloc (.cells #[.string ⟨#[]⟩, .string ⟨#[]⟩] 23)) 23 #[.string ⟨#[]⟩, .string ⟨#[]⟩]).drew).below h6_1 (by simp); rw [hs4] at h; exact h))
                  | (go_at_call 34; (with_reducible refine (HD.out _).mono ?_); rintro e w6 ⟨rfl, h6_2⟩; have x6b : Below (w4.alloc (.cells #[.string ⟨#[]⟩, .string ⟨#[]⟩] 23)).heap.size (w4.alloc (.cells #[.string ⟨#[]⟩, .string ⟨#[]⟩] 23)) w6 := x6a.trans (h6_2.mono x6a.size); have hz := hz0.below h6_2 hz0.lt; have z0 := hz.cell (i := 0) rfl; have z1 := hz.cell (i := 1) rfl; have f0 := hz.frozen 0; have f1 := hz.frozen 1)
                  | (go_at_call 34; (with_reducible refine (HD.out _).mono ?_); rintro e w6 ⟨rfl, h6_2⟩; have x6b : Below (w4.alloc (.cells #[.string ⟨#[]⟩, .string ⟨#[]⟩] 23)).heap.size (w4.alloc (.cells #[.string ⟨#[]⟩, .string ⟨#[]⟩] 23)) w6 := x6a.trans (h6_2.mono x6a.size))
                  | (go_at_call 34; (with_reducible refine (HD.out _).mono ?_); rintro e w6 ⟨rfl, h6_2⟩; have x6b : Below (w4.alloc (.cells #[.string ⟨#[]⟩, .string ⟨#[]⟩] 23)).heap.size (w4.alloc (.cells #[.string ⟨#[]⟩, .string ⟨#[]⟩] 23)) w6 := (x6a.alloc x6a.size _).trans (h6_2.mono (x6a.alloc x6a.size _).size); have hz := (Blk.new v6 23 #[.string ⟨#[]⟩, .string ⟨#[]⟩]).below h6_2 (by simp); have z0 := hz.cell (i := 0) rfl; have z1 := hz.cell (i := 1) rfl; have f0 := hz.frozen 0; have f1 := hz.frozen 1))
              all_goals
                go_wp2_with fail
                go_meet
                first
                  | exact ⟨rfl, (x6b.setCell x6a.size _).setCell x6a.size _, _, rfl, (hz.set 0 (.string ⟨#[49]⟩)).set 1 (.string (tz m))⟩
                  | exact ⟨rfl, (x6b.setCell h5s _).setCell h5s _, _, rfl, (hz.set 0 (.string ⟨#[49]⟩)).set 1 (.string (tz m))⟩
                  | exact ⟨rfl, x6b.alloc x6b.size _, _, rfl, Blk.new w6 _ _⟩
            case rest =>
              obtain ⟨rfl, hcb, sb, rfl, hsm⟩ := hcut
              have HCB := Lib.hid hcb; have HSM := Lib.hid hsm
              have HX3 := Lib.hid (HX2.out.below hcb HX2.out.lt)
              have c0 := HX3.out.cell (i := 0) (v := .string (tz n)) rfl; have c1 := HX3.out.cell (i := 1) (v := .string ⟨#[49]⟩) rfl
              have d0 := hsm.cell (i := 0) (v := .string ⟨#[49]⟩) rfl; have d1 := hsm.cell (i := 1) (v := .string (tz m)) rfl
              clear hcb hsm b0 b1 HKY
              go_wp2_with fail
              refine (HA.out _).mono ?_
              rintro e w7 ⟨rfl, hb7⟩
              have hX := (HX3.out.below hb7 HX3.out.lt).alloc (.cells #[.string (qN ra), .string (qD ra)] 23)
              have hY := ((HY2.out.below HCB.out HY2.out.lt).below hb7 (Nat.lt_of_lt_of_le HY2.out.lt HCB.out.size)).alloc (.cells #[.string (qN ra), .string (qD ra)] 23)
              have hZ := ((HZ2.out.below HCB.out HZ2.out.lt).below hb7 (Nat.lt_of_lt_of_le HZ2.out.lt HCB.out.size)).alloc (.cells #[.string (qN ra), .string (qD ra)] 23)
              have hS := (HSM.out.below hb7 HSM.out.lt).alloc (.cells #[.string (qN ra), .string (qD ra)] 23)
              have hB7 := HB4.out.trans ((HCB.out.trans (hb7.mono HCB.out.size)).mono HB4.out.size)
              have HB7 := Lib.hid (hB7.alloc hB7.size (.cells #[.string (qN ra), .string (qD ra)] 23))
              have e0 := hX.cell (i := 0) (v := .string (tz n)) rfl; have e1 := hX.cell (i := 1) (v := .string ⟨#[49]⟩) rfl
              have e2 := hY.cell (i := 0) (v := .string (tz m)) rfl; have e3 := hY.cell (i := 1) (v := .string ⟨#[49]⟩) rfl
              have e4 := hZ.cell (i := 0) (v := .string ⟨#[]⟩) rfl; have e5 := hZ.cell (i := 1) (v := .string ⟨#[]⟩) rfl
              have HS7 := Lib.hid hS; have HX7 := Lib.hid hX
              clear hb7 hB7 hX hY hZ hS c0 c1 d0 d1
              have q1 : decide ((n : Int) + m + 1 ≤ 200) = false := by simp; omega
              have n0 : (if n = 0 ∧ m = 0 then (0 : Int) else 1) = if ((n : Int) == 0) = true then (if ((m : Int) == 0) = true then 0 else 1) else 1 := by
                by_cases h1 : n = 0
                · by_cases h2 : m = 0
                  · simp [h1, h2]
                  · simp [h1, h2]
                · simp [h1]
              rw [n0] at HU
              clear n0 hf
              have nc : (((n : Int) == 0) = true ∨ ((n : Int) == 0) = false) ∧ (((m : Int) == 0) = true ∨ ((m : Int) == 0) = false) := ⟨by cases ((n : Int) == 0) <;> simp, by cases ((m : Int) == 0) <;> simp⟩
              obtain ⟨n1 | n1, m1 | m1⟩ := nc
              all_goals
                rw [n1] at HU
                try rw [m1] at HU
                simp only [if_true, Bool.false_eq_true, if_false] at HU
                rcases Nat.lt_trichotomy n m with h | h | h
              all_goals try (exfalso; simp only [beq_iff_eq, beq_eq_false_iff_ne, ne_eq] at n1 m1; omega)
              all_goals
                have k1 : decide ((n : Int) < m) = decide (n < m) := by rw [decide_eq_decide]; omega
                have k2 : decide ((m : Int) < n) = decide (m < n) := by rw [decide_eq_decide]; omega
                first
                  | rw [if_pos h] at HC
                  | rw [if_neg (by omega), if_pos h] at HC
                  | rw [if_neg (by omega), if_neg (by omega)] at HC
                first
                  | (rw [decide_eq_true h] at k1; have k3 : n < m := h)
                  | (rw [decide_eq_false (show ¬ n < m by omega)] at k1; have k3 : ¬ n < m := (by omega))
                first
                  | (rw [decide_eq_true h] at k2; have k4 : m < n := h)
                  | (rw [decide_eq_false (show ¬ m < n by omega)] at k2; have k4 : ¬ m < n := (by omega))
                clear h
                go_wp2_with fail
                refine (HC.out _).mono ?_
                rintro e w8 ⟨rfl, hb8⟩
                have hX8 := HX7.out.below hb8 HX7.out.lt
                have hS8 := HS7.out.below hb8 HS7.out.lt
                have g0 := hX8.cell (i := 0) (v := .string (tz n)) rfl; have g1 := hX8.cell (i := 1) (v := .string ⟨#[49]⟩) rfl
                have g2 := hS8.cell (i := 0) (v := .string ⟨#[49]⟩) rfl; have g3 := hS8.cell (i := 1) (v := .string (tz m)) rfl
                have HB8 := Lib.hid (HB7.out.trans (hb8.mono HB7.out.size))
                clear hb8 hX8 hS8
                go_wp2_with fail
                refine (HU.out _).mono ?_
                rintro e w9 ⟨rfl, hb9⟩
                go_wp2_with fail
                go_ret
                exact ⟨rfl, HB8.out.trans (hb9.mono HB8.out.size)⟩
end Go.Proofs.Ytnacgdkihkfjkaa
