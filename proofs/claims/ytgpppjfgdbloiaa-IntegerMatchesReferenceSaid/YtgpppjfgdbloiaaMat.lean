/- The contract of IntegerMatchesReference. Conditions: an int; the strings' lengths are ints. -/
import Derived.Test.YtgpppjfgdbloiaaTextL
import Derived.Test.YtgpppjfgdbloiaaQGcd
import Derived.Test.YtgpppjfgdbloiaaQRoot
import Derived.Test.YtgpppjfgdbloiaaQFrom
import Derived.Test.YtgpppjfgdbloiaaQTo
import Derived.Deep.RegionHeld3
namespace Go.Proofs.Ytgpppjfgdbloiaa
open Go.RowKit Go.Lib

def dQ : Option (Int × Int) → ByteArray
  | some (q, _) => zS q
  | none => ⟨#[]⟩
def dR : Option (Int × Int) → ByteArray
  | some (_, r) => zS r
  | none => ⟨#[]⟩
def dE : Option (Int × Int) → Int
  | some _ => 0
  | none => 30
def tV : Option Int → Int
  | some z => z
  | none => 0
def tE : Option Int → Int
  | some _ => 0
  | none => 30
theorem OutDP.same {r : Option (Int × Int)} {w w' : World} {e : Ending} (h : OutDP r w e w') : e = .returned (.tuple #[.string (dQ r), .string (dR r), .int .i64 (dE r)]) ∧ Below w.heap.size w w' := by
  obtain ⟨he, hb⟩ := h
  refine ⟨?_, hb⟩
  rw [he]
  rcases r with _ | ⟨q, r⟩ <;> rfl
theorem OutTo.same {r : Option Int} {w w' : World} {e : Ending} (h : OutTo r w e w') : e = .returned (.tuple #[.int .i64 (tV r), .int .i64 (tE r)]) ∧ Below w.heap.size w w' := by
  obtain ⟨he, hb⟩ := h
  refine ⟨?_, hb⟩
  rw [he]
  cases r <;> rfl
theorem rootR_one {a : List UInt8} {r s : Option Int} (h : rootR a r) (h2 : rootR a s) : r = s := by
  unfold rootR at h h2
  cases hq : rd a with
  | none =>
    rw [hq] at h h2
    exact h.trans h2.symm
  | some x =>
    rw [hq] at h h2
    simp only at h h2
    by_cases hx : x < 0
    · rw [if_pos hx] at h h2
      exact h.trans h2.symm
    · rw [if_neg hx] at h h2
      obtain ⟨m, hm, rfl⟩ := h
      obtain ⟨k, hk, rfl⟩ := h2
      rw [root_unique hm hk]
theorem keepStep {B : Nat} {w0 w1 w2 : World} (h : Below B w0 w1) (h2 : Below w1.heap.size w1 w2) (hB : B ≤ w1.heap.size) : Below B w0 w2 := h.trans (h2.mono hB)
theorem below_of_drewN {w w' : World} (h : ∃ k, w' = w.drewN k) : Below w.heap.size w w' := by
  obtain ⟨k, rfl⟩ := h; exact below_drewN (Below.refl _ _) k

set_option maxRecDepth 100000 in
set_option maxHeartbeats 4000000 in
theorem matches_law (a : ByteArray) (b : ByteArray) (n : Int) (w : World) (hn : -9223372036854775808 ≤ n ∧ n ≤ 9223372036854775807) :
    Calls Try.prog 3 #[.string a, .string b, .int .i64 n] w fun e w' => e = .returned (.bool true) ∧ Below w.heap.size w w' := by
  obtain ⟨hif, hsl⟩ := cut_at (P := Try.prog) 9 Try.underlying9 a 210
  obtain ⟨m, hm⟩ : ∃ m, m = min a.size 210 := ⟨_, rfl⟩
  obtain ⟨S, hS⟩ : ∃ S, S = a.extract 0 (min a.size 210) := ⟨_, rfl⟩
  rw [← hS, ← hm] at hsl
  rw [← hm] at hif
  have hSs : S.size ≤ 210 := by rw [hS, ByteArray.size_extract]; omega
  rw [show ((210 : Nat) : Int) = 210 from rfl] at hif
  obtain ⟨hif2, hsl2⟩ := cut_at (P := Try.prog) 9 Try.underlying9 b 210
  obtain ⟨m2, hm2⟩ : ∃ m2, m2 = min b.size 210 := ⟨_, rfl⟩
  obtain ⟨T, hT⟩ : ∃ T, T = b.extract 0 (min b.size 210) := ⟨_, rfl⟩
  rw [← hT, ← hm2] at hsl2
  rw [← hm2] at hif2
  have hTs : T.size ≤ 210 := by rw [hT, ByteArray.size_extract]; omega
  rw [show ((210 : Nat) : Int) = 210 from rfl] at hif2
  have M1 := Lib.hid fun W => made_any S 70 W (by omega) (by omega)
  have M2 := Lib.hid fun W => made_any T 30 W (by omega) (by omega)
  have M3 := Lib.hid fun W => made_any S 12 W (by omega) (by omega)
  have F1 := Lib.hid fun W => fromInt_any n W hn.1 hn.2
  have F2 := Lib.hid fun W => qfrom_any n W hn.1 hn.2
  have ln : n.natAbs < 10 ^ 200 := by omega
  have HLN := Lib.hid ln
  clear hm hm2 hS hT hn ln
  go_enter Try.func3, Try.ntmps3
  go_wp2_with fail
  refine (sane_any _).mono ?_
  rintro e w1 ⟨rfl, hb1⟩
  have HB1 := Lib.hid hb1; clear hb1
  go_wp2_with fail
  refine (M1.out _).mono ?_
  rintro e w2 ⟨x1, hx1, rfl, hb2⟩
  have HB2 := Lib.hid (HB1.out.trans (hb2.mono HB1.out.size)); clear hb2
  go_wp2_with fail
  refine (M2.out _).mono ?_
  rintro e w3 ⟨x2, hx2, rfl, hb3⟩
  have HB3 := Lib.hid (HB2.out.trans (hb3.mono HB2.out.size)); clear hb3
  go_wp2_with fail
  refine (M3.out _).mono ?_
  rintro e w4 ⟨x3, hx3, rfl, hb4⟩
  have HB4 := Lib.hid (HB3.out.trans (hb4.mono HB3.out.size)); clear hb4
  go_wp2_with fail
  refine (F2.out _).mono ?_
  rintro e w5 ⟨rfl, hb5⟩
  have HB5 := Lib.hid (HB4.out.trans (hb5.mono HB4.out.size)); clear hb5
  go_wp2_with fail
  go_loopw [50] (fun ii wr => ∃ i : Nat, ii = .int .i64 i ∧ i ≤ 3 ∧ Blk wr w5.heap.size 23 #[.string S, .string T, .string (zS x1), .string (zS x2), .string (zS x3), .string (zS n)] ∧ Below w.heap.size w wr) (fun ii _ => 3 - (intOf ii).toNat)
  case atStart =>
    exact ⟨0, rfl, by omega, Blk.new _ _ _, HB5.out.alloc HB5.out.size _⟩
  case round =>
    obtain ⟨i, rfl, hi, hG, hbl⟩ := hrel
    rcases Nat.lt_or_ge i 3 with hlt | hge
    · have hpq : ∃ p q : ByteArray, p.size ≤ 9000000000000000000 ∧ q.size ≤ 9000000000000000000 ∧ wr.cell? ⟨w5.heap.size, i * 2, none⟩ = some (.string p) ∧ wr.cell? ⟨w5.heap.size, i * 2 + 1, none⟩ = some (.string q) := by
        have z1 := zS_small (Nat.lt_of_lt_of_le hx1 (Nat.pow_le_pow_right (by omega) (by omega : 70 ≤ 200))); have z2 := zS_small (Nat.lt_of_lt_of_le hx2 (Nat.pow_le_pow_right (by omega) (by omega : 30 ≤ 200))); have z3 := zS_small (Nat.lt_of_lt_of_le hx3 (Nat.pow_le_pow_right (by omega) (by omega : 12 ≤ 200))); have z4 := zS_small HLN.out
        have hi3 : i = 0 ∨ i = 1 ∨ i = 2 := by omega
        rcases hi3 with rfl | rfl | rfl
        · exact ⟨S, T, by omega, by omega, hG.cell rfl, hG.cell rfl⟩
        · exact ⟨_, _, by omega, by omega, hG.cell rfl, hG.cell rfl⟩
        · exact ⟨_, _, by omega, by omega, hG.cell rfl, hG.cell rfl⟩
      obtain ⟨p, q, hp, hq, c0, c1⟩ := hpq
      have i0 : (0 : Int) ≤ (i : Int) := by omega
      have i1 : (i : Int) < 3 := by omega
      obtain ⟨ra, hra⟩ : ∃ r, r = opR (· + ·) p.data.toList q.data.toList := ⟨_, rfl⟩
      obtain ⟨rs, hrs⟩ : ∃ r, r = opR (· - ·) p.data.toList q.data.toList := ⟨_, rfl⟩
      obtain ⟨rm, hrm⟩ : ∃ r, r = opR (· * ·) p.data.toList q.data.toList := ⟨_, rfl⟩
      obtain ⟨rg, hrg⟩ : ∃ r, r = opR (fun x y => ((Nat.gcd x.natAbs y.natAbs : Nat) : Int)) p.data.toList q.data.toList := ⟨_, rfl⟩
      obtain ⟨rd1, hrd⟩ : ∃ r, r = divR p.data.toList q.data.toList := ⟨_, rfl⟩
      obtain ⟨rt, hrt⟩ : ∃ r, r = toR p.data.toList := ⟨_, rfl⟩
      obtain ⟨rc, hrc⟩ : ∃ r, r = cmpR p.data.toList q.data.toList := ⟨_, rfl⟩
      obtain ⟨rv, hrv⟩ : ∃ r, r = validB p.data.toList := ⟨_, rfl⟩
      have A1 := Lib.hid fun W => add_any p q W hp hq
      have A2 := Lib.hid fun W => qadd_any p q W hp hq
      have B1 := Lib.hid fun W => sub_any p q W hp hq
      have B2 := Lib.hid fun W => qsub_any p q W hp hq
      have C1 := Lib.hid fun W => mul_any p q W hp hq
      have C2 := Lib.hid fun W => qmul_any p q W hp hq
      have D1 := Lib.hid fun W => (div_any p q W hp hq).mono fun _ _ h => h.same
      have D2 := Lib.hid fun W => (qdiv_any p q W hp hq).mono fun _ _ h => h.same
      have G1 := Lib.hid fun W => gcd_any p q W hp hq
      have G2 := Lib.hid fun W => qgcd_any p q W hp hq
      have R1 := Lib.hid fun W => root_any p W hp
      have R2 := Lib.hid fun W => qroot_any p W hp
      have T1 := Lib.hid fun W => (toInt_any p W hp).mono fun _ _ h => h.same
      have T2 := Lib.hid fun W => (qtoint_any p W hp).mono fun _ _ h => h.same
      have V1 := Lib.hid fun W => valid_any p W hp
      have V2 := Lib.hid fun W => qvalid_any p W hp
      have P1 := Lib.hid fun W => compare_any p q W hp hq
      have P2 := Lib.hid fun W => qcompare_any p q W hp hq
      rw [← hra] at A1 A2; rw [← hrs] at B1 B2; rw [← hrm] at C1 C2; rw [← hrg] at G1 G2; rw [← hrd] at D1 D2; rw [← hrt] at T1 T2; rw [← hrc] at P1 P2; rw [← hrv] at V1 V2
      have e1 : ((okS ra).toList == (okS ra).toList) = true := beq_self_eq_true _
      have e2 : ((okS rs).toList == (okS rs).toList) = true := beq_self_eq_true _
      have e3 : ((okS rm).toList == (okS rm).toList) = true := beq_self_eq_true _
      have e4 : ((okS rg).toList == (okS rg).toList) = true := beq_self_eq_true _
      have e5 : ((dQ rd1).toList == (dQ rd1).toList) = true := beq_self_eq_true _
      have e6 : ((dR rd1).toList == (dR rd1).toList) = true := beq_self_eq_true _
      clear hra hrs hrm hrg hrd hrt hrc hrv
      have HI := Lib.hid hi; clear hi
      have hK := fun W' (h : Below (wr.alloc (.cells #[.string p, .string q] 23)).heap.size (wr.alloc (.cells #[.string p, .string q] 23)) W') => (Blk.new wr 23 #[.string p, .string q]).below h (Blk.new wr _ _).lt
      have HK0 := Lib.hid fun W' h => (hK W' h).cell (i := 0) rfl
      have HK1 := Lib.hid fun W' h => (hK W' h).cell (i := 1) rfl
      clear hK
      have HV0 : Hid (Below (wr.alloc (.cells #[.string p, .string q] 23)).heap.size (wr.alloc (.cells #[.string p, .string q] 23)) (wr.alloc (.cells #[.string p, .string q] 23))) := Lib.hid (Below.refl _ _)
      go_wp2_with fail
      refine (A1.out _).mono ?_
      rintro e v1 ⟨rfl, hc⟩
      have HV1 := Lib.hid (HV0.out.trans (hc.mono HV0.out.size)); clear hc
      have c0_1 := HK0.out _ HV1.out; have c1_1 := HK1.out _ HV1.out
      go_wp2_with fail
      refine (A2.out _).mono ?_
      rintro e v2 ⟨rfl, hc⟩
      have HV2 := Lib.hid (HV1.out.trans (hc.mono HV1.out.size)); clear hc
      have c0_2 := HK0.out _ HV2.out; have c1_2 := HK1.out _ HV2.out
      go_wp2_with fail
      refine (B1.out _).mono ?_
      rintro e v3 ⟨rfl, hc⟩
      have HV3 := Lib.hid (HV2.out.trans (hc.mono HV2.out.size)); clear hc
      have c0_3 := HK0.out _ HV3.out; have c1_3 := HK1.out _ HV3.out
      go_wp2_with fail
      refine (B2.out _).mono ?_
      rintro e v4 ⟨rfl, hc⟩
      have HV4 := Lib.hid (HV3.out.trans (hc.mono HV3.out.size)); clear hc
      have c0_4 := HK0.out _ HV4.out; have c1_4 := HK1.out _ HV4.out
      go_wp2_with fail
      refine (C1.out _).mono ?_
      rintro e v5 ⟨rfl, hc⟩
      have HV5 := Lib.hid (HV4.out.trans (hc.mono HV4.out.size)); clear hc
      have c0_5 := HK0.out _ HV5.out; have c1_5 := HK1.out _ HV5.out
      go_wp2_with fail
      refine (C2.out _).mono ?_
      rintro e v6 ⟨rfl, hc⟩
      have HV6 := Lib.hid (HV5.out.trans (hc.mono HV5.out.size)); clear hc
      have c0_6 := HK0.out _ HV6.out; have c1_6 := HK1.out _ HV6.out
      go_wp2_with fail
      refine (D1.out _).mono ?_
      rintro e v7 ⟨rfl, hc⟩
      have HV7 := Lib.hid (HV6.out.trans (hc.mono HV6.out.size)); clear hc
      have c0_7 := HK0.out _ HV7.out; have c1_7 := HK1.out _ HV7.out
      go_wp2_with fail
      refine (D2.out _).mono ?_
      rintro e v8 ⟨rfl, hc⟩
      have HV8 := Lib.hid (HV7.out.trans (hc.mono HV7.out.size)); clear hc
      have c0_8 := HK0.out _ HV8.out; have c1_8 := HK1.out _ HV8.out
      go_wp2_with fail
      refine (G1.out _).mono ?_
      rintro e v9 ⟨rfl, hc⟩
      have HV9 := Lib.hid (HV8.out.trans (hc.mono HV8.out.size)); clear hc
      have c0_9 := HK0.out _ HV9.out; have c1_9 := HK1.out _ HV9.out
      go_wp2_with fail
      refine (G2.out _).mono ?_
      rintro e v10 ⟨rfl, hc⟩
      have HV10 := Lib.hid (HV9.out.trans (hc.mono HV9.out.size)); clear hc
      have c0_10 := HK0.out _ HV10.out; have c1_10 := HK1.out _ HV10.out
      go_wp2_with fail
      refine (R1.out _).mono ?_
      rintro e v11 ⟨rr, hr1, rfl, hc⟩
      have HV11 := Lib.hid (HV10.out.trans (hc.mono HV10.out.size)); clear hc
      have c0_11 := HK0.out _ HV11.out; have c1_11 := HK1.out _ HV11.out
      go_wp2_with fail
      refine (R2.out _).mono ?_
      rintro e v12 ⟨rr2, hr2, rfl, hc⟩
      have HV12 := Lib.hid (HV11.out.trans (hc.mono HV11.out.size)); clear hc
      have c0_12 := HK0.out _ HV12.out; have c1_12 := HK1.out _ HV12.out
      obtain rfl := rootR_one hr1 hr2
      have e7 : ((okS rr).toList == (okS rr).toList) = true := beq_self_eq_true _
      go_wp2_with fail
      refine (T1.out _).mono ?_
      rintro e v13 ⟨rfl, hc⟩
      have HV13 := Lib.hid (HV12.out.trans (hc.mono HV12.out.size)); clear hc
      have c0_13 := HK0.out _ HV13.out; have c1_13 := HK1.out _ HV13.out
      go_wp2_with fail
      refine (T2.out _).mono ?_
      rintro e v14 ⟨rfl, hc⟩
      have HV14 := Lib.hid (HV13.out.trans (hc.mono HV13.out.size)); clear hc
      have c0_14 := HK0.out _ HV14.out; have c1_14 := HK1.out _ HV14.out
      go_wp2_with fail
      clear c0 c1 c0_1 c1_1 c0_2 c1_2 c0_3 c1_3 c0_4 c1_4 c0_5 c1_5 c0_6 c1_6 c0_7 c1_7 c0_8 c1_8 c0_9 c1_9 c0_10 c1_10 c0_11 c1_11 c0_12 c1_12 c0_13 c1_13 e1 e2 e3 e4 e5 e6 e7
      go_region_held3 (fun w' => w'.cell? ⟨wr.heap.size, 0, none⟩ = some (.string p) ∧ w'.cell? ⟨wr.heap.size, 1, none⟩ = some (.string q)) (first | go_keep | exact ⟨k0, k1⟩ | exact ⟨k2, k3⟩ | exact ⟨k4, k5⟩ | exact ⟨k6, k7⟩)
        (first
          | (go_at_call 29; refine (V1.out _).mono ?_; rintro e v15 ⟨rfl, hc⟩; replace hc := below_of_drewN hc; have HV15 := Lib.hid (keepStep HV14.out.drew hc HV14.out.size); have k0 := HK0.out _ HV15.out; have k1 := HK1.out _ HV15.out; clear hc)
          | (go_at_call 30; refine (V2.out _).mono ?_; rintro e v16 ⟨rfl, hc⟩; replace hc := below_of_drewN hc; have HV16 := Lib.hid (keepStep HV15.out hc HV15.out.size); have k2 := HK0.out _ HV16.out; have k3 := HK1.out _ HV16.out; clear hc)
          | (go_at_call 31; refine (P1.out _).mono ?_; rintro e v17 ⟨rfl, hc⟩; have HV17 := Lib.hid (keepStep HV16.out hc HV16.out.size); have k4 := HK0.out _ HV17.out; have k5 := HK1.out _ HV17.out; clear hc)
          | (go_at_call 32; refine (P2.out _).mono ?_; rintro e v18 ⟨rfl, hc⟩; have HV18 := Lib.hid (keepStep HV17.out hc HV17.out.size); have k6 := HK0.out _ HV18.out; have k7 := HK1.out _ HV18.out; clear hc))
      all_goals
        go_wp2_with fail
        have hi2 : i + 1 ≤ 3 := by omega
        refine ⟨⟨i + 1, by go_num, hi2, (hG.alloc _).below HV18.out (Nat.lt_trans hG.lt (Blk.new wr _ _).lt), (hbl.alloc hbl.size _).trans (HV18.out.mono (Nat.le_trans hbl.size (Nat.le_of_lt (Blk.new wr _ _).lt)))⟩, ?_⟩
        simp [intOf] <;> omega
    · obtain rfl : i = 3 := by omega
      rw [show ((3 : Nat) : Int) = 3 from rfl]
      go_wp2_with fail
      refine (F1.out _).mono ?_
      rintro e w6 ⟨rfl, hb6⟩
      have HB6 := Lib.hid (hbl.trans (hb6.mono hbl.size)); clear hb6
      go_wp2_with fail
      refine (F2.out _).mono ?_
      rintro e w7 ⟨rfl, hb7⟩
      have HB7 := Lib.hid (HB6.out.trans (hb7.mono HB6.out.size)); clear hb7
      go_wp2_with fail
      go_ret
      exact ⟨rfl, HB7.out⟩
end Go.Proofs.Ytgpppjfgdbloiaa
