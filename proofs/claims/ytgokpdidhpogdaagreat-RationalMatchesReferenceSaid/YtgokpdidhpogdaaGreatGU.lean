/- The contracts of the reference's operations on fractions. Conditions: the strings' lengths are ints. -/
import Derived.Deep.CutRange
import Derived.Test.YtgokpdidhpogdaaGreatGK
import Derived.Test.YtgokpdidhpogdaaGreatGH
import Derived.Test.YtgokpdidhpogdaaGreatGN
import Derived.Test.YtgokpdidhpogdaaGreatGF
import Derived.Test.YtgokpdidhpogdaaGreatGL
namespace Go.Proofs.YtgokpdidhpogdaaGreat
open Go.RowKit Go.Lib

section
variable {x y : Int} (hx : x.natAbs < 10 ^ 200) (hy : y.natAbs < 10 ^ 200) (W : World)
include hx hy
theorem qadd_z {r : Option Int} (h : lim (x + y) = r) : Calls Tryz.prog 35 #[.string (zS x), .string (zS y)] W fun e w' => e = .returned (.tuple #[.string (okS r), .int .i64 (okE r)]) ∧ Below W.heap.size W w' := by
  have h1 := qadd_any (zS x) (zS y) W (zs x y hx hy).1 (zs x y hx hy).2
  rw [opR_yes (zS_rd hx) (zS_rd hy), h] at h1
  exact h1
theorem qsub_z {r : Option Int} (h : lim (x - y) = r) : Calls Tryz.prog 36 #[.string (zS x), .string (zS y)] W fun e w' => e = .returned (.tuple #[.string (okS r), .int .i64 (okE r)]) ∧ Below W.heap.size W w' := by
  have h1 := qsub_any (zS x) (zS y) W (zs x y hx hy).1 (zs x y hx hy).2
  rw [opR_yes (zS_rd hx) (zS_rd hy), h] at h1
  exact h1
theorem qmul_z {r : Option Int} (h : lim (x * y) = r) : Calls Tryz.prog 37 #[.string (zS x), .string (zS y)] W fun e w' => e = .returned (.tuple #[.string (okS r), .int .i64 (okE r)]) ∧ Below W.heap.size W w' := by
  have h1 := qmul_any (zS x) (zS y) W (zs x y hx hy).1 (zs x y hx hy).2
  rw [opR_yes (zS_rd hx) (zS_rd hy), h] at h1
  exact h1
theorem qdiv_z (h0 : y ≠ 0) : Calls Tryz.prog 40 #[.string (zS x), .string (zS y)] W fun e w' => e = .returned (.tuple #[.string (zS (x / y)), .string (zS (x % y)), .int .i64 0]) ∧ Below W.heap.size W w' := by
  have h1 := qdiv_any (zS x) (zS y) W (zs x y hx hy).1 (zs x y hx hy).2
  rw [divR_yes (zS_rd hx) (zS_rd hy) h0] at h1
  exact h1
theorem qcmp_z : Calls Tryz.prog 41 #[.string (zS x), .string (zS y)] W fun e w' => e = .returned (.int .i64 (ordI x y)) ∧ Below W.heap.size W w' := by
  have h1 := qcompare_any (zS x) (zS y) W (zs x y hx hy).1 (zs x y hx hy).2
  rw [cmpR_yes (zS_rd hx) (zS_rd hy)] at h1
  exact h1
theorem rmake_z : Calls Tryz.prog 21 #[.string (zS x), .string (zS y)] W fun e w' => e = .returned (.tuple #[.agg #[.string (qN (mk2 (some x) (some y))), .string (qD (mk2 (some x) (some y)))], .int .i64 (qE (mk2 (some x) (some y)))]) ∧ Below W.heap.size W w' := by
  have h1 := rmake_any (zS x) (zS y) W (zs x y hx hy).1 (zs x y hx hy).2
  have h2 : mkR (zS x).data.toList (zS y).data.toList = mk2 (some x) (some y) := by unfold mkR; rw [zS_rd hx, zS_rd hy]; rfl
  rw [h2] at h1
  exact h1
end
/-- The products of cross, and whether all are there. -/
def crX (p q : Option (Int × Int)) : Option Int := p.bind fun p => q.bind fun q => lim (p.1 * q.2)
def crD (p q : Option (Int × Int)) : Option Int := p.bind fun p => q.bind fun q => lim (p.2 * q.2)
def crB (p q : Option (Int × Int)) : Bool := (crX p q).isSome && (crX q p).isSome && (crD p q).isSome
theorem mk2_none (n : Option Int) : mk2 n none = none := by cases n <;> rfl
theorem sumQ_cr (f : Int → Int → Int) (p q : Option (Int × Int)) : sumQ f p q = mk2 ((crX p q).bind fun x => (crX q p).bind fun y => lim (f x y)) (crD p q) := by
  cases p with
  | none => cases q <;> rfl
  | some p => cases q <;> rfl
set_option maxRecDepth 100000 in
set_option maxHeartbeats 4000000 in
theorem rcross_any (an ad bn bd : ByteArray) (w : World) (ha : an.size ≤ 9000000000000000000 ∧ ad.size ≤ 9000000000000000000) (hb : bn.size ≤ 9000000000000000000 ∧ bd.size ≤ 9000000000000000000) :
    Calls Tryz.prog 34 #[.agg #[.string an, .string ad], .agg #[.string bn, .string bd]] w fun e w' => (e = .returned (.tuple #[.string (okS (crX (rdQ an.data.toList ad.data.toList) (rdQ bn.data.toList bd.data.toList))), .string (okS (crX (rdQ bn.data.toList bd.data.toList) (rdQ an.data.toList ad.data.toList))), .string (okS (crD (rdQ an.data.toList ad.data.toList) (rdQ bn.data.toList bd.data.toList))), .bool (crB (rdQ an.data.toList ad.data.toList) (rdQ bn.data.toList bd.data.toList))]) ∧ Below w.heap.size w w') := by
  have hva := fun W => rvalid_any an ad W ha.1 ha.2
  have hvb := fun W => rvalid_any bn bd W hb.1 hb.2
  unfold fV at hva hvb
  cases hp : rdQ an.data.toList ad.data.toList with
  | none =>
    rw [hp] at hva
    obtain ⟨vb, hvb2⟩ : ∃ v, v = (rdQ bn.data.toList bd.data.toList).isSome := ⟨_, rfl⟩
    rw [← hvb2] at hvb
    have VA := Lib.hid hva; have VB := Lib.hid hvb
    have hcase : rdQ bn.data.toList bd.data.toList = rdQ bn.data.toList bd.data.toList := rfl
    generalize rdQ bn.data.toList bd.data.toList = Q
    clear hva hvb hvb2 hp ha hb hcase
    have A_0 : Hid (Blk ((w.alloc (.cells #[.string an, .string ad] 23)).alloc (.cells #[.string bn, .string bd] 23)) w.heap.size 23 #[.string an, .string ad]) := allocs_blk [(#[.string an, .string ad], 23), (#[.string bn, .string bd], 23)] w 0 _ rfl
    have B_0 : Hid (Blk ((w.alloc (.cells #[.string an, .string ad] 23)).alloc (.cells #[.string bn, .string bd] 23)) (w.heap.size + 1) 23 #[.string bn, .string bd]) := allocs_blk [(#[.string an, .string ad], 23), (#[.string bn, .string bd], 23)] w 1 _ rfl
    have HB_0 : Hid (Below w.heap.size w ((w.alloc (.cells #[.string an, .string ad] 23)).alloc (.cells #[.string bn, .string bd] 23))) := allocs_below [(#[.string an, .string ad], 23), (#[.string bn, .string bd], 23)] w (Below.refl w.heap.size w) (Nat.le_refl _)
    go_enter Tryz.func34, Tryz.ntmps34
    have yy0 := A_0.out.cell (i := 0) (v := .string an) rfl; have yy1 := A_0.out.cell (i := 1) (v := .string ad) rfl
    go_wp2_with fail
    refine (VA.out _).mono ?_
    rintro e v0 ⟨rfl, hb⟩
    clear yy0 yy1
    have A_1 : Hid (Blk v0 w.heap.size 23 #[.string an, .string ad]) := Lib.hid (A_0.out.below hb A_0.out.lt)
    have B_1 : Hid (Blk v0 (w.heap.size + 1) 23 #[.string bn, .string bd]) := Lib.hid (B_0.out.below hb B_0.out.lt)
    have HB_1 : Hid (Below w.heap.size w v0) := Lib.hid (HB_0.out.trans (hb.mono HB_0.out.size))
    clear hb A_0 B_0 HB_0
    have yy0 := B_1.out.cell (i := 0) (v := .string bn) rfl; have yy1 := B_1.out.cell (i := 1) (v := .string bd) rfl
    go_wp2_with fail
    refine (VB.out _).mono ?_
    rintro e v1 ⟨rfl, hb⟩
    clear yy0 yy1
    have A_2 : Hid (Blk v1 w.heap.size 23 #[.string an, .string ad]) := Lib.hid (A_1.out.below hb A_1.out.lt)
    have B_2 : Hid (Blk v1 (w.heap.size + 1) 23 #[.string bn, .string bd]) := Lib.hid (B_1.out.below hb B_1.out.lt)
    have HB_2 : Hid (Below w.heap.size w v1) := Lib.hid (HB_1.out.trans (hb.mono HB_1.out.size))
    clear hb A_1 B_1 HB_1
    go_wp2_with fail
    exact bodyPost_ret (v := .tuple #[.string ⟨#[]⟩, .string ⟨#[]⟩, .string ⟨#[]⟩, .bool false]) (by kernel_rfl) rfl ⟨(by first | (cases Q <;> rfl) | rfl), HB_2.out⟩
  | some p =>
    rw [hp] at hva
    obtain ⟨p1, p2, p3⟩ := rdQ_some hp
    cases hq : rdQ bn.data.toList bd.data.toList with
    | none =>
      rw [hq] at hvb
      have VA := Lib.hid hva; have VB := Lib.hid hvb
      clear hva hvb hp hq ha hb p1 p2 p3
      have A_0 : Hid (Blk ((w.alloc (.cells #[.string an, .string ad] 23)).alloc (.cells #[.string bn, .string bd] 23)) w.heap.size 23 #[.string an, .string ad]) := allocs_blk [(#[.string an, .string ad], 23), (#[.string bn, .string bd], 23)] w 0 _ rfl
      have B_0 : Hid (Blk ((w.alloc (.cells #[.string an, .string ad] 23)).alloc (.cells #[.string bn, .string bd] 23)) (w.heap.size + 1) 23 #[.string bn, .string bd]) := allocs_blk [(#[.string an, .string ad], 23), (#[.string bn, .string bd], 23)] w 1 _ rfl
      have HB_0 : Hid (Below w.heap.size w ((w.alloc (.cells #[.string an, .string ad] 23)).alloc (.cells #[.string bn, .string bd] 23))) := allocs_below [(#[.string an, .string ad], 23), (#[.string bn, .string bd], 23)] w (Below.refl w.heap.size w) (Nat.le_refl _)
      go_enter Tryz.func34, Tryz.ntmps34
      have yy0 := A_0.out.cell (i := 0) (v := .string an) rfl; have yy1 := A_0.out.cell (i := 1) (v := .string ad) rfl
      go_wp2_with fail
      refine (VA.out _).mono ?_
      rintro e v0 ⟨rfl, hb⟩
      clear yy0 yy1
      have A_1 : Hid (Blk v0 w.heap.size 23 #[.string an, .string ad]) := Lib.hid (A_0.out.below hb A_0.out.lt)
      have B_1 : Hid (Blk v0 (w.heap.size + 1) 23 #[.string bn, .string bd]) := Lib.hid (B_0.out.below hb B_0.out.lt)
      have HB_1 : Hid (Below w.heap.size w v0) := Lib.hid (HB_0.out.trans (hb.mono HB_0.out.size))
      clear hb A_0 B_0 HB_0
      have yy0 := B_1.out.cell (i := 0) (v := .string bn) rfl; have yy1 := B_1.out.cell (i := 1) (v := .string bd) rfl
      go_wp2_with fail
      refine (VB.out _).mono ?_
      rintro e v1 ⟨rfl, hb⟩
      clear yy0 yy1
      have A_2 : Hid (Blk v1 w.heap.size 23 #[.string an, .string ad]) := Lib.hid (A_1.out.below hb A_1.out.lt)
      have B_2 : Hid (Blk v1 (w.heap.size + 1) 23 #[.string bn, .string bd]) := Lib.hid (B_1.out.below hb B_1.out.lt)
      have HB_2 : Hid (Below w.heap.size w v1) := Lib.hid (HB_1.out.trans (hb.mono HB_1.out.size))
      clear hb A_1 B_1 HB_1
      go_wp2_with fail
      exact bodyPost_ret (v := .tuple #[.string ⟨#[]⟩, .string ⟨#[]⟩, .string ⟨#[]⟩, .bool false]) (by kernel_rfl) rfl ⟨(by first | (cases Q <;> rfl) | rfl), HB_2.out⟩
    | some q =>
      rw [hq] at hvb
      obtain ⟨q1, q2, q3⟩ := rdQ_some hq
      have e1 := bs_of_rd p1; have e2 := bs_of_rd p2; have e3 := bs_of_rd q1; have e4 := bs_of_rd q2
      have b1 := (rd_some p1).2.1; have b2 := (rd_some p2).2.1; have b3 := (rd_some q1).2.1; have b4 := (rd_some q2).2.1
      subst e1 e2 e3 e4
      have VA := Lib.hid hva; have VB := Lib.hid hvb
      clear hva hvb hp hq ha hb p1 p2 q1 q2
      have hX : crX (some p) (some q) = lim (p.1 * q.2) := rfl
      have hY : crX (some q) (some p) = lim (q.1 * p.2) := rfl
      have hD : crD (some p) (some q) = lim (p.2 * q.2) := rfl
      unfold crB
      rw [hX, hY, hD]
      clear hX hY hD
      cases hx : lim (p.1 * q.2) <;> cases hy : lim (q.1 * p.2) <;> cases hd : lim (p.2 * q.2)
      · skip
        have M1 : Hid (∀ W, Calls Tryz.prog 37 #[.string (zS p.1), .string (zS q.2)] W fun e w' => e = .returned (.tuple #[.string ⟨#[]⟩, .int .i64 30]) ∧ Below W.heap.size W w') := fun W => qmul_z b1 b4 W hx
        have M2 : Hid (∀ W, Calls Tryz.prog 37 #[.string (zS q.1), .string (zS p.2)] W fun e w' => e = .returned (.tuple #[.string ⟨#[]⟩, .int .i64 30]) ∧ Below W.heap.size W w') := fun W => qmul_z b3 b2 W hy
        have M3 : Hid (∀ W, Calls Tryz.prog 37 #[.string (zS p.2), .string (zS q.2)] W fun e w' => e = .returned (.tuple #[.string ⟨#[]⟩, .int .i64 30]) ∧ Below W.heap.size W w') := fun W => qmul_z b2 b4 W hd
        clear hx hy hd b1 b2 b3 b4 p3 q3
        have A_0 : Hid (Blk ((w.alloc (.cells #[.string (zS p.1), .string (zS p.2)] 23)).alloc (.cells #[.string (zS q.1), .string (zS q.2)] 23)) w.heap.size 23 #[.string (zS p.1), .string (zS p.2)]) := allocs_blk [(#[.string (zS p.1), .string (zS p.2)], 23), (#[.string (zS q.1), .string (zS q.2)], 23)] w 0 _ rfl
        have B_0 : Hid (Blk ((w.alloc (.cells #[.string (zS p.1), .string (zS p.2)] 23)).alloc (.cells #[.string (zS q.1), .string (zS q.2)] 23)) (w.heap.size + 1) 23 #[.string (zS q.1), .string (zS q.2)]) := allocs_blk [(#[.string (zS p.1), .string (zS p.2)], 23), (#[.string (zS q.1), .string (zS q.2)], 23)] w 1 _ rfl
        have HB_0 : Hid (Below w.heap.size w ((w.alloc (.cells #[.string (zS p.1), .string (zS p.2)] 23)).alloc (.cells #[.string (zS q.1), .string (zS q.2)] 23))) := allocs_below [(#[.string (zS p.1), .string (zS p.2)], 23), (#[.string (zS q.1), .string (zS q.2)], 23)] w (Below.refl w.heap.size w) (Nat.le_refl _)
        go_enter Tryz.func34, Tryz.ntmps34
        have yy0 := A_0.out.cell (i := 0) (v := .string (zS p.1)) rfl; have yy1 := A_0.out.cell (i := 1) (v := .string (zS p.2)) rfl
        go_wp2_with fail
        refine (VA.out _).mono ?_
        rintro e v0 ⟨rfl, hb⟩
        clear yy0 yy1
        have A_1 : Hid (Blk v0 w.heap.size 23 #[.string (zS p.1), .string (zS p.2)]) := Lib.hid (A_0.out.below hb A_0.out.lt)
        have B_1 : Hid (Blk v0 (w.heap.size + 1) 23 #[.string (zS q.1), .string (zS q.2)]) := Lib.hid (B_0.out.below hb B_0.out.lt)
        have HB_1 : Hid (Below w.heap.size w v0) := Lib.hid (HB_0.out.trans (hb.mono HB_0.out.size))
        clear hb A_0 B_0 HB_0
        have yy0 := B_1.out.cell (i := 0) (v := .string (zS q.1)) rfl; have yy1 := B_1.out.cell (i := 1) (v := .string (zS q.2)) rfl
        go_wp2_with fail
        refine (VB.out _).mono ?_
        rintro e v1 ⟨rfl, hb⟩
        clear yy0 yy1
        have A_2 : Hid (Blk v1 w.heap.size 23 #[.string (zS p.1), .string (zS p.2)]) := Lib.hid (A_1.out.below hb A_1.out.lt)
        have B_2 : Hid (Blk v1 (w.heap.size + 1) 23 #[.string (zS q.1), .string (zS q.2)]) := Lib.hid (B_1.out.below hb B_1.out.lt)
        have HB_2 : Hid (Below w.heap.size w v1) := Lib.hid (HB_1.out.trans (hb.mono HB_1.out.size))
        clear hb A_1 B_1 HB_1
        have yy0 := A_2.out.cell (i := 0) (v := .string (zS p.1)) rfl; have yy1 := A_2.out.cell (i := 1) (v := .string (zS p.2)) rfl
        have yy2 := B_2.out.cell (i := 0) (v := .string (zS q.1)) rfl; have yy3 := B_2.out.cell (i := 1) (v := .string (zS q.2)) rfl
        go_wp2_with fail
        refine (M1.out _).mono ?_
        rintro e v2 ⟨rfl, hb⟩
        clear yy0 yy1 yy2 yy3
        have A_3 : Hid (Blk v2 w.heap.size 23 #[.string (zS p.1), .string (zS p.2)]) := Lib.hid (A_2.out.below hb A_2.out.lt)
        have B_3 : Hid (Blk v2 (w.heap.size + 1) 23 #[.string (zS q.1), .string (zS q.2)]) := Lib.hid (B_2.out.below hb B_2.out.lt)
        have HB_3 : Hid (Below w.heap.size w v2) := Lib.hid (HB_2.out.trans (hb.mono HB_2.out.size))
        clear hb A_2 B_2 HB_2
        have yy0 := A_3.out.cell (i := 0) (v := .string (zS p.1)) rfl; have yy1 := A_3.out.cell (i := 1) (v := .string (zS p.2)) rfl
        have yy2 := B_3.out.cell (i := 0) (v := .string (zS q.1)) rfl; have yy3 := B_3.out.cell (i := 1) (v := .string (zS q.2)) rfl
        go_wp2_with fail
        refine (M2.out _).mono ?_
        rintro e v3 ⟨rfl, hb⟩
        clear yy0 yy1 yy2 yy3
        have A_4 : Hid (Blk v3 w.heap.size 23 #[.string (zS p.1), .string (zS p.2)]) := Lib.hid (A_3.out.below hb A_3.out.lt)
        have B_4 : Hid (Blk v3 (w.heap.size + 1) 23 #[.string (zS q.1), .string (zS q.2)]) := Lib.hid (B_3.out.below hb B_3.out.lt)
        have HB_4 : Hid (Below w.heap.size w v3) := Lib.hid (HB_3.out.trans (hb.mono HB_3.out.size))
        clear hb A_3 B_3 HB_3
        have yy0 := A_4.out.cell (i := 0) (v := .string (zS p.1)) rfl; have yy1 := A_4.out.cell (i := 1) (v := .string (zS p.2)) rfl
        have yy2 := B_4.out.cell (i := 0) (v := .string (zS q.1)) rfl; have yy3 := B_4.out.cell (i := 1) (v := .string (zS q.2)) rfl
        go_wp2_with fail
        refine (M3.out _).mono ?_
        rintro e v4 ⟨rfl, hb⟩
        clear yy0 yy1 yy2 yy3
        have A_5 : Hid (Blk v4 w.heap.size 23 #[.string (zS p.1), .string (zS p.2)]) := Lib.hid (A_4.out.below hb A_4.out.lt)
        have B_5 : Hid (Blk v4 (w.heap.size + 1) 23 #[.string (zS q.1), .string (zS q.2)]) := Lib.hid (B_4.out.below hb B_4.out.lt)
        have HB_5 : Hid (Below w.heap.size w v4) := Lib.hid (HB_4.out.trans (hb.mono HB_4.out.size))
        clear hb A_4 B_4 HB_4
        go_wp2_with fail
        exact bodyPost_ret (v := .tuple #[.string ⟨#[]⟩, .string ⟨#[]⟩, .string ⟨#[]⟩, .bool false]) (by kernel_rfl) rfl ⟨rfl, HB_5.out⟩
      · rename_i d
        have M1 : Hid (∀ W, Calls Tryz.prog 37 #[.string (zS p.1), .string (zS q.2)] W fun e w' => e = .returned (.tuple #[.string ⟨#[]⟩, .int .i64 30]) ∧ Below W.heap.size W w') := fun W => qmul_z b1 b4 W hx
        have M2 : Hid (∀ W, Calls Tryz.prog 37 #[.string (zS q.1), .string (zS p.2)] W fun e w' => e = .returned (.tuple #[.string ⟨#[]⟩, .int .i64 30]) ∧ Below W.heap.size W w') := fun W => qmul_z b3 b2 W hy
        have M3 : Hid (∀ W, Calls Tryz.prog 37 #[.string (zS p.2), .string (zS q.2)] W fun e w' => e = .returned (.tuple #[.string (zS d), .int .i64 0]) ∧ Below W.heap.size W w') := fun W => qmul_z b2 b4 W hd
        clear hx hy hd b1 b2 b3 b4 p3 q3
        have A_0 : Hid (Blk ((w.alloc (.cells #[.string (zS p.1), .string (zS p.2)] 23)).alloc (.cells #[.string (zS q.1), .string (zS q.2)] 23)) w.heap.size 23 #[.string (zS p.1), .string (zS p.2)]) := allocs_blk [(#[.string (zS p.1), .string (zS p.2)], 23), (#[.string (zS q.1), .string (zS q.2)], 23)] w 0 _ rfl
        have B_0 : Hid (Blk ((w.alloc (.cells #[.string (zS p.1), .string (zS p.2)] 23)).alloc (.cells #[.string (zS q.1), .string (zS q.2)] 23)) (w.heap.size + 1) 23 #[.string (zS q.1), .string (zS q.2)]) := allocs_blk [(#[.string (zS p.1), .string (zS p.2)], 23), (#[.string (zS q.1), .string (zS q.2)], 23)] w 1 _ rfl
        have HB_0 : Hid (Below w.heap.size w ((w.alloc (.cells #[.string (zS p.1), .string (zS p.2)] 23)).alloc (.cells #[.string (zS q.1), .string (zS q.2)] 23))) := allocs_below [(#[.string (zS p.1), .string (zS p.2)], 23), (#[.string (zS q.1), .string (zS q.2)], 23)] w (Below.refl w.heap.size w) (Nat.le_refl _)
        go_enter Tryz.func34, Tryz.ntmps34
        have yy0 := A_0.out.cell (i := 0) (v := .string (zS p.1)) rfl; have yy1 := A_0.out.cell (i := 1) (v := .string (zS p.2)) rfl
        go_wp2_with fail
        refine (VA.out _).mono ?_
        rintro e v0 ⟨rfl, hb⟩
        clear yy0 yy1
        have A_1 : Hid (Blk v0 w.heap.size 23 #[.string (zS p.1), .string (zS p.2)]) := Lib.hid (A_0.out.below hb A_0.out.lt)
        have B_1 : Hid (Blk v0 (w.heap.size + 1) 23 #[.string (zS q.1), .string (zS q.2)]) := Lib.hid (B_0.out.below hb B_0.out.lt)
        have HB_1 : Hid (Below w.heap.size w v0) := Lib.hid (HB_0.out.trans (hb.mono HB_0.out.size))
        clear hb A_0 B_0 HB_0
        have yy0 := B_1.out.cell (i := 0) (v := .string (zS q.1)) rfl; have yy1 := B_1.out.cell (i := 1) (v := .string (zS q.2)) rfl
        go_wp2_with fail
        refine (VB.out _).mono ?_
        rintro e v1 ⟨rfl, hb⟩
        clear yy0 yy1
        have A_2 : Hid (Blk v1 w.heap.size 23 #[.string (zS p.1), .string (zS p.2)]) := Lib.hid (A_1.out.below hb A_1.out.lt)
        have B_2 : Hid (Blk v1 (w.heap.size + 1) 23 #[.string (zS q.1), .string (zS q.2)]) := Lib.hid (B_1.out.below hb B_1.out.lt)
        have HB_2 : Hid (Below w.heap.size w v1) := Lib.hid (HB_1.out.trans (hb.mono HB_1.out.size))
        clear hb A_1 B_1 HB_1
        have yy0 := A_2.out.cell (i := 0) (v := .string (zS p.1)) rfl; have yy1 := A_2.out.cell (i := 1) (v := .string (zS p.2)) rfl
        have yy2 := B_2.out.cell (i := 0) (v := .string (zS q.1)) rfl; have yy3 := B_2.out.cell (i := 1) (v := .string (zS q.2)) rfl
        go_wp2_with fail
        refine (M1.out _).mono ?_
        rintro e v2 ⟨rfl, hb⟩
        clear yy0 yy1 yy2 yy3
        have A_3 : Hid (Blk v2 w.heap.size 23 #[.string (zS p.1), .string (zS p.2)]) := Lib.hid (A_2.out.below hb A_2.out.lt)
        have B_3 : Hid (Blk v2 (w.heap.size + 1) 23 #[.string (zS q.1), .string (zS q.2)]) := Lib.hid (B_2.out.below hb B_2.out.lt)
        have HB_3 : Hid (Below w.heap.size w v2) := Lib.hid (HB_2.out.trans (hb.mono HB_2.out.size))
        clear hb A_2 B_2 HB_2
        have yy0 := A_3.out.cell (i := 0) (v := .string (zS p.1)) rfl; have yy1 := A_3.out.cell (i := 1) (v := .string (zS p.2)) rfl
        have yy2 := B_3.out.cell (i := 0) (v := .string (zS q.1)) rfl; have yy3 := B_3.out.cell (i := 1) (v := .string (zS q.2)) rfl
        go_wp2_with fail
        refine (M2.out _).mono ?_
        rintro e v3 ⟨rfl, hb⟩
        clear yy0 yy1 yy2 yy3
        have A_4 : Hid (Blk v3 w.heap.size 23 #[.string (zS p.1), .string (zS p.2)]) := Lib.hid (A_3.out.below hb A_3.out.lt)
        have B_4 : Hid (Blk v3 (w.heap.size + 1) 23 #[.string (zS q.1), .string (zS q.2)]) := Lib.hid (B_3.out.below hb B_3.out.lt)
        have HB_4 : Hid (Below w.heap.size w v3) := Lib.hid (HB_3.out.trans (hb.mono HB_3.out.size))
        clear hb A_3 B_3 HB_3
        have yy0 := A_4.out.cell (i := 0) (v := .string (zS p.1)) rfl; have yy1 := A_4.out.cell (i := 1) (v := .string (zS p.2)) rfl
        have yy2 := B_4.out.cell (i := 0) (v := .string (zS q.1)) rfl; have yy3 := B_4.out.cell (i := 1) (v := .string (zS q.2)) rfl
        go_wp2_with fail
        refine (M3.out _).mono ?_
        rintro e v4 ⟨rfl, hb⟩
        clear yy0 yy1 yy2 yy3
        have A_5 : Hid (Blk v4 w.heap.size 23 #[.string (zS p.1), .string (zS p.2)]) := Lib.hid (A_4.out.below hb A_4.out.lt)
        have B_5 : Hid (Blk v4 (w.heap.size + 1) 23 #[.string (zS q.1), .string (zS q.2)]) := Lib.hid (B_4.out.below hb B_4.out.lt)
        have HB_5 : Hid (Below w.heap.size w v4) := Lib.hid (HB_4.out.trans (hb.mono HB_4.out.size))
        clear hb A_4 B_4 HB_4
        go_wp2_with fail
        exact bodyPost_ret (v := .tuple #[.string ⟨#[]⟩, .string ⟨#[]⟩, .string (zS d), .bool false]) (by kernel_rfl) rfl ⟨rfl, HB_5.out⟩
      · rename_i y
        have M1 : Hid (∀ W, Calls Tryz.prog 37 #[.string (zS p.1), .string (zS q.2)] W fun e w' => e = .returned (.tuple #[.string ⟨#[]⟩, .int .i64 30]) ∧ Below W.heap.size W w') := fun W => qmul_z b1 b4 W hx
        have M2 : Hid (∀ W, Calls Tryz.prog 37 #[.string (zS q.1), .string (zS p.2)] W fun e w' => e = .returned (.tuple #[.string (zS y), .int .i64 0]) ∧ Below W.heap.size W w') := fun W => qmul_z b3 b2 W hy
        have M3 : Hid (∀ W, Calls Tryz.prog 37 #[.string (zS p.2), .string (zS q.2)] W fun e w' => e = .returned (.tuple #[.string ⟨#[]⟩, .int .i64 30]) ∧ Below W.heap.size W w') := fun W => qmul_z b2 b4 W hd
        clear hx hy hd b1 b2 b3 b4 p3 q3
        have A_0 : Hid (Blk ((w.alloc (.cells #[.string (zS p.1), .string (zS p.2)] 23)).alloc (.cells #[.string (zS q.1), .string (zS q.2)] 23)) w.heap.size 23 #[.string (zS p.1), .string (zS p.2)]) := allocs_blk [(#[.string (zS p.1), .string (zS p.2)], 23), (#[.string (zS q.1), .string (zS q.2)], 23)] w 0 _ rfl
        have B_0 : Hid (Blk ((w.alloc (.cells #[.string (zS p.1), .string (zS p.2)] 23)).alloc (.cells #[.string (zS q.1), .string (zS q.2)] 23)) (w.heap.size + 1) 23 #[.string (zS q.1), .string (zS q.2)]) := allocs_blk [(#[.string (zS p.1), .string (zS p.2)], 23), (#[.string (zS q.1), .string (zS q.2)], 23)] w 1 _ rfl
        have HB_0 : Hid (Below w.heap.size w ((w.alloc (.cells #[.string (zS p.1), .string (zS p.2)] 23)).alloc (.cells #[.string (zS q.1), .string (zS q.2)] 23))) := allocs_below [(#[.string (zS p.1), .string (zS p.2)], 23), (#[.string (zS q.1), .string (zS q.2)], 23)] w (Below.refl w.heap.size w) (Nat.le_refl _)
        go_enter Tryz.func34, Tryz.ntmps34
        have yy0 := A_0.out.cell (i := 0) (v := .string (zS p.1)) rfl; have yy1 := A_0.out.cell (i := 1) (v := .string (zS p.2)) rfl
        go_wp2_with fail
        refine (VA.out _).mono ?_
        rintro e v0 ⟨rfl, hb⟩
        clear yy0 yy1
        have A_1 : Hid (Blk v0 w.heap.size 23 #[.string (zS p.1), .string (zS p.2)]) := Lib.hid (A_0.out.below hb A_0.out.lt)
        have B_1 : Hid (Blk v0 (w.heap.size + 1) 23 #[.string (zS q.1), .string (zS q.2)]) := Lib.hid (B_0.out.below hb B_0.out.lt)
        have HB_1 : Hid (Below w.heap.size w v0) := Lib.hid (HB_0.out.trans (hb.mono HB_0.out.size))
        clear hb A_0 B_0 HB_0
        have yy0 := B_1.out.cell (i := 0) (v := .string (zS q.1)) rfl; have yy1 := B_1.out.cell (i := 1) (v := .string (zS q.2)) rfl
        go_wp2_with fail
        refine (VB.out _).mono ?_
        rintro e v1 ⟨rfl, hb⟩
        clear yy0 yy1
        have A_2 : Hid (Blk v1 w.heap.size 23 #[.string (zS p.1), .string (zS p.2)]) := Lib.hid (A_1.out.below hb A_1.out.lt)
        have B_2 : Hid (Blk v1 (w.heap.size + 1) 23 #[.string (zS q.1), .string (zS q.2)]) := Lib.hid (B_1.out.below hb B_1.out.lt)
        have HB_2 : Hid (Below w.heap.size w v1) := Lib.hid (HB_1.out.trans (hb.mono HB_1.out.size))
        clear hb A_1 B_1 HB_1
        have yy0 := A_2.out.cell (i := 0) (v := .string (zS p.1)) rfl; have yy1 := A_2.out.cell (i := 1) (v := .string (zS p.2)) rfl
        have yy2 := B_2.out.cell (i := 0) (v := .string (zS q.1)) rfl; have yy3 := B_2.out.cell (i := 1) (v := .string (zS q.2)) rfl
        go_wp2_with fail
        refine (M1.out _).mono ?_
        rintro e v2 ⟨rfl, hb⟩
        clear yy0 yy1 yy2 yy3
        have A_3 : Hid (Blk v2 w.heap.size 23 #[.string (zS p.1), .string (zS p.2)]) := Lib.hid (A_2.out.below hb A_2.out.lt)
        have B_3 : Hid (Blk v2 (w.heap.size + 1) 23 #[.string (zS q.1), .string (zS q.2)]) := Lib.hid (B_2.out.below hb B_2.out.lt)
        have HB_3 : Hid (Below w.heap.size w v2) := Lib.hid (HB_2.out.trans (hb.mono HB_2.out.size))
        clear hb A_2 B_2 HB_2
        have yy0 := A_3.out.cell (i := 0) (v := .string (zS p.1)) rfl; have yy1 := A_3.out.cell (i := 1) (v := .string (zS p.2)) rfl
        have yy2 := B_3.out.cell (i := 0) (v := .string (zS q.1)) rfl; have yy3 := B_3.out.cell (i := 1) (v := .string (zS q.2)) rfl
        go_wp2_with fail
        refine (M2.out _).mono ?_
        rintro e v3 ⟨rfl, hb⟩
        clear yy0 yy1 yy2 yy3
        have A_4 : Hid (Blk v3 w.heap.size 23 #[.string (zS p.1), .string (zS p.2)]) := Lib.hid (A_3.out.below hb A_3.out.lt)
        have B_4 : Hid (Blk v3 (w.heap.size + 1) 23 #[.string (zS q.1), .string (zS q.2)]) := Lib.hid (B_3.out.below hb B_3.out.lt)
        have HB_4 : Hid (Below w.heap.size w v3) := Lib.hid (HB_3.out.trans (hb.mono HB_3.out.size))
        clear hb A_3 B_3 HB_3
        have yy0 := A_4.out.cell (i := 0) (v := .string (zS p.1)) rfl; have yy1 := A_4.out.cell (i := 1) (v := .string (zS p.2)) rfl
        have yy2 := B_4.out.cell (i := 0) (v := .string (zS q.1)) rfl; have yy3 := B_4.out.cell (i := 1) (v := .string (zS q.2)) rfl
        go_wp2_with fail
        refine (M3.out _).mono ?_
        rintro e v4 ⟨rfl, hb⟩
        clear yy0 yy1 yy2 yy3
        have A_5 : Hid (Blk v4 w.heap.size 23 #[.string (zS p.1), .string (zS p.2)]) := Lib.hid (A_4.out.below hb A_4.out.lt)
        have B_5 : Hid (Blk v4 (w.heap.size + 1) 23 #[.string (zS q.1), .string (zS q.2)]) := Lib.hid (B_4.out.below hb B_4.out.lt)
        have HB_5 : Hid (Below w.heap.size w v4) := Lib.hid (HB_4.out.trans (hb.mono HB_4.out.size))
        clear hb A_4 B_4 HB_4
        go_wp2_with fail
        exact bodyPost_ret (v := .tuple #[.string ⟨#[]⟩, .string (zS y), .string ⟨#[]⟩, .bool false]) (by kernel_rfl) rfl ⟨rfl, HB_5.out⟩
      · rename_i y d
        have M1 : Hid (∀ W, Calls Tryz.prog 37 #[.string (zS p.1), .string (zS q.2)] W fun e w' => e = .returned (.tuple #[.string ⟨#[]⟩, .int .i64 30]) ∧ Below W.heap.size W w') := fun W => qmul_z b1 b4 W hx
        have M2 : Hid (∀ W, Calls Tryz.prog 37 #[.string (zS q.1), .string (zS p.2)] W fun e w' => e = .returned (.tuple #[.string (zS y), .int .i64 0]) ∧ Below W.heap.size W w') := fun W => qmul_z b3 b2 W hy
        have M3 : Hid (∀ W, Calls Tryz.prog 37 #[.string (zS p.2), .string (zS q.2)] W fun e w' => e = .returned (.tuple #[.string (zS d), .int .i64 0]) ∧ Below W.heap.size W w') := fun W => qmul_z b2 b4 W hd
        clear hx hy hd b1 b2 b3 b4 p3 q3
        have A_0 : Hid (Blk ((w.alloc (.cells #[.string (zS p.1), .string (zS p.2)] 23)).alloc (.cells #[.string (zS q.1), .string (zS q.2)] 23)) w.heap.size 23 #[.string (zS p.1), .string (zS p.2)]) := allocs_blk [(#[.string (zS p.1), .string (zS p.2)], 23), (#[.string (zS q.1), .string (zS q.2)], 23)] w 0 _ rfl
        have B_0 : Hid (Blk ((w.alloc (.cells #[.string (zS p.1), .string (zS p.2)] 23)).alloc (.cells #[.string (zS q.1), .string (zS q.2)] 23)) (w.heap.size + 1) 23 #[.string (zS q.1), .string (zS q.2)]) := allocs_blk [(#[.string (zS p.1), .string (zS p.2)], 23), (#[.string (zS q.1), .string (zS q.2)], 23)] w 1 _ rfl
        have HB_0 : Hid (Below w.heap.size w ((w.alloc (.cells #[.string (zS p.1), .string (zS p.2)] 23)).alloc (.cells #[.string (zS q.1), .string (zS q.2)] 23))) := allocs_below [(#[.string (zS p.1), .string (zS p.2)], 23), (#[.string (zS q.1), .string (zS q.2)], 23)] w (Below.refl w.heap.size w) (Nat.le_refl _)
        go_enter Tryz.func34, Tryz.ntmps34
        have yy0 := A_0.out.cell (i := 0) (v := .string (zS p.1)) rfl; have yy1 := A_0.out.cell (i := 1) (v := .string (zS p.2)) rfl
        go_wp2_with fail
        refine (VA.out _).mono ?_
        rintro e v0 ⟨rfl, hb⟩
        clear yy0 yy1
        have A_1 : Hid (Blk v0 w.heap.size 23 #[.string (zS p.1), .string (zS p.2)]) := Lib.hid (A_0.out.below hb A_0.out.lt)
        have B_1 : Hid (Blk v0 (w.heap.size + 1) 23 #[.string (zS q.1), .string (zS q.2)]) := Lib.hid (B_0.out.below hb B_0.out.lt)
        have HB_1 : Hid (Below w.heap.size w v0) := Lib.hid (HB_0.out.trans (hb.mono HB_0.out.size))
        clear hb A_0 B_0 HB_0
        have yy0 := B_1.out.cell (i := 0) (v := .string (zS q.1)) rfl; have yy1 := B_1.out.cell (i := 1) (v := .string (zS q.2)) rfl
        go_wp2_with fail
        refine (VB.out _).mono ?_
        rintro e v1 ⟨rfl, hb⟩
        clear yy0 yy1
        have A_2 : Hid (Blk v1 w.heap.size 23 #[.string (zS p.1), .string (zS p.2)]) := Lib.hid (A_1.out.below hb A_1.out.lt)
        have B_2 : Hid (Blk v1 (w.heap.size + 1) 23 #[.string (zS q.1), .string (zS q.2)]) := Lib.hid (B_1.out.below hb B_1.out.lt)
        have HB_2 : Hid (Below w.heap.size w v1) := Lib.hid (HB_1.out.trans (hb.mono HB_1.out.size))
        clear hb A_1 B_1 HB_1
        have yy0 := A_2.out.cell (i := 0) (v := .string (zS p.1)) rfl; have yy1 := A_2.out.cell (i := 1) (v := .string (zS p.2)) rfl
        have yy2 := B_2.out.cell (i := 0) (v := .string (zS q.1)) rfl; have yy3 := B_2.out.cell (i := 1) (v := .string (zS q.2)) rfl
        go_wp2_with fail
        refine (M1.out _).mono ?_
        rintro e v2 ⟨rfl, hb⟩
        clear yy0 yy1 yy2 yy3
        have A_3 : Hid (Blk v2 w.heap.size 23 #[.string (zS p.1), .string (zS p.2)]) := Lib.hid (A_2.out.below hb A_2.out.lt)
        have B_3 : Hid (Blk v2 (w.heap.size + 1) 23 #[.string (zS q.1), .string (zS q.2)]) := Lib.hid (B_2.out.below hb B_2.out.lt)
        have HB_3 : Hid (Below w.heap.size w v2) := Lib.hid (HB_2.out.trans (hb.mono HB_2.out.size))
        clear hb A_2 B_2 HB_2
        have yy0 := A_3.out.cell (i := 0) (v := .string (zS p.1)) rfl; have yy1 := A_3.out.cell (i := 1) (v := .string (zS p.2)) rfl
        have yy2 := B_3.out.cell (i := 0) (v := .string (zS q.1)) rfl; have yy3 := B_3.out.cell (i := 1) (v := .string (zS q.2)) rfl
        go_wp2_with fail
        refine (M2.out _).mono ?_
        rintro e v3 ⟨rfl, hb⟩
        clear yy0 yy1 yy2 yy3
        have A_4 : Hid (Blk v3 w.heap.size 23 #[.string (zS p.1), .string (zS p.2)]) := Lib.hid (A_3.out.below hb A_3.out.lt)
        have B_4 : Hid (Blk v3 (w.heap.size + 1) 23 #[.string (zS q.1), .string (zS q.2)]) := Lib.hid (B_3.out.below hb B_3.out.lt)
        have HB_4 : Hid (Below w.heap.size w v3) := Lib.hid (HB_3.out.trans (hb.mono HB_3.out.size))
        clear hb A_3 B_3 HB_3
        have yy0 := A_4.out.cell (i := 0) (v := .string (zS p.1)) rfl; have yy1 := A_4.out.cell (i := 1) (v := .string (zS p.2)) rfl
        have yy2 := B_4.out.cell (i := 0) (v := .string (zS q.1)) rfl; have yy3 := B_4.out.cell (i := 1) (v := .string (zS q.2)) rfl
        go_wp2_with fail
        refine (M3.out _).mono ?_
        rintro e v4 ⟨rfl, hb⟩
        clear yy0 yy1 yy2 yy3
        have A_5 : Hid (Blk v4 w.heap.size 23 #[.string (zS p.1), .string (zS p.2)]) := Lib.hid (A_4.out.below hb A_4.out.lt)
        have B_5 : Hid (Blk v4 (w.heap.size + 1) 23 #[.string (zS q.1), .string (zS q.2)]) := Lib.hid (B_4.out.below hb B_4.out.lt)
        have HB_5 : Hid (Below w.heap.size w v4) := Lib.hid (HB_4.out.trans (hb.mono HB_4.out.size))
        clear hb A_4 B_4 HB_4
        go_wp2_with fail
        exact bodyPost_ret (v := .tuple #[.string ⟨#[]⟩, .string (zS y), .string (zS d), .bool false]) (by kernel_rfl) rfl ⟨rfl, HB_5.out⟩
      · rename_i x
        have M1 : Hid (∀ W, Calls Tryz.prog 37 #[.string (zS p.1), .string (zS q.2)] W fun e w' => e = .returned (.tuple #[.string (zS x), .int .i64 0]) ∧ Below W.heap.size W w') := fun W => qmul_z b1 b4 W hx
        have M2 : Hid (∀ W, Calls Tryz.prog 37 #[.string (zS q.1), .string (zS p.2)] W fun e w' => e = .returned (.tuple #[.string ⟨#[]⟩, .int .i64 30]) ∧ Below W.heap.size W w') := fun W => qmul_z b3 b2 W hy
        have M3 : Hid (∀ W, Calls Tryz.prog 37 #[.string (zS p.2), .string (zS q.2)] W fun e w' => e = .returned (.tuple #[.string ⟨#[]⟩, .int .i64 30]) ∧ Below W.heap.size W w') := fun W => qmul_z b2 b4 W hd
        clear hx hy hd b1 b2 b3 b4 p3 q3
        have A_0 : Hid (Blk ((w.alloc (.cells #[.string (zS p.1), .string (zS p.2)] 23)).alloc (.cells #[.string (zS q.1), .string (zS q.2)] 23)) w.heap.size 23 #[.string (zS p.1), .string (zS p.2)]) := allocs_blk [(#[.string (zS p.1), .string (zS p.2)], 23), (#[.string (zS q.1), .string (zS q.2)], 23)] w 0 _ rfl
        have B_0 : Hid (Blk ((w.alloc (.cells #[.string (zS p.1), .string (zS p.2)] 23)).alloc (.cells #[.string (zS q.1), .string (zS q.2)] 23)) (w.heap.size + 1) 23 #[.string (zS q.1), .string (zS q.2)]) := allocs_blk [(#[.string (zS p.1), .string (zS p.2)], 23), (#[.string (zS q.1), .string (zS q.2)], 23)] w 1 _ rfl
        have HB_0 : Hid (Below w.heap.size w ((w.alloc (.cells #[.string (zS p.1), .string (zS p.2)] 23)).alloc (.cells #[.string (zS q.1), .string (zS q.2)] 23))) := allocs_below [(#[.string (zS p.1), .string (zS p.2)], 23), (#[.string (zS q.1), .string (zS q.2)], 23)] w (Below.refl w.heap.size w) (Nat.le_refl _)
        go_enter Tryz.func34, Tryz.ntmps34
        have yy0 := A_0.out.cell (i := 0) (v := .string (zS p.1)) rfl; have yy1 := A_0.out.cell (i := 1) (v := .string (zS p.2)) rfl
        go_wp2_with fail
        refine (VA.out _).mono ?_
        rintro e v0 ⟨rfl, hb⟩
        clear yy0 yy1
        have A_1 : Hid (Blk v0 w.heap.size 23 #[.string (zS p.1), .string (zS p.2)]) := Lib.hid (A_0.out.below hb A_0.out.lt)
        have B_1 : Hid (Blk v0 (w.heap.size + 1) 23 #[.string (zS q.1), .string (zS q.2)]) := Lib.hid (B_0.out.below hb B_0.out.lt)
        have HB_1 : Hid (Below w.heap.size w v0) := Lib.hid (HB_0.out.trans (hb.mono HB_0.out.size))
        clear hb A_0 B_0 HB_0
        have yy0 := B_1.out.cell (i := 0) (v := .string (zS q.1)) rfl; have yy1 := B_1.out.cell (i := 1) (v := .string (zS q.2)) rfl
        go_wp2_with fail
        refine (VB.out _).mono ?_
        rintro e v1 ⟨rfl, hb⟩
        clear yy0 yy1
        have A_2 : Hid (Blk v1 w.heap.size 23 #[.string (zS p.1), .string (zS p.2)]) := Lib.hid (A_1.out.below hb A_1.out.lt)
        have B_2 : Hid (Blk v1 (w.heap.size + 1) 23 #[.string (zS q.1), .string (zS q.2)]) := Lib.hid (B_1.out.below hb B_1.out.lt)
        have HB_2 : Hid (Below w.heap.size w v1) := Lib.hid (HB_1.out.trans (hb.mono HB_1.out.size))
        clear hb A_1 B_1 HB_1
        have yy0 := A_2.out.cell (i := 0) (v := .string (zS p.1)) rfl; have yy1 := A_2.out.cell (i := 1) (v := .string (zS p.2)) rfl
        have yy2 := B_2.out.cell (i := 0) (v := .string (zS q.1)) rfl; have yy3 := B_2.out.cell (i := 1) (v := .string (zS q.2)) rfl
        go_wp2_with fail
        refine (M1.out _).mono ?_
        rintro e v2 ⟨rfl, hb⟩
        clear yy0 yy1 yy2 yy3
        have A_3 : Hid (Blk v2 w.heap.size 23 #[.string (zS p.1), .string (zS p.2)]) := Lib.hid (A_2.out.below hb A_2.out.lt)
        have B_3 : Hid (Blk v2 (w.heap.size + 1) 23 #[.string (zS q.1), .string (zS q.2)]) := Lib.hid (B_2.out.below hb B_2.out.lt)
        have HB_3 : Hid (Below w.heap.size w v2) := Lib.hid (HB_2.out.trans (hb.mono HB_2.out.size))
        clear hb A_2 B_2 HB_2
        have yy0 := A_3.out.cell (i := 0) (v := .string (zS p.1)) rfl; have yy1 := A_3.out.cell (i := 1) (v := .string (zS p.2)) rfl
        have yy2 := B_3.out.cell (i := 0) (v := .string (zS q.1)) rfl; have yy3 := B_3.out.cell (i := 1) (v := .string (zS q.2)) rfl
        go_wp2_with fail
        refine (M2.out _).mono ?_
        rintro e v3 ⟨rfl, hb⟩
        clear yy0 yy1 yy2 yy3
        have A_4 : Hid (Blk v3 w.heap.size 23 #[.string (zS p.1), .string (zS p.2)]) := Lib.hid (A_3.out.below hb A_3.out.lt)
        have B_4 : Hid (Blk v3 (w.heap.size + 1) 23 #[.string (zS q.1), .string (zS q.2)]) := Lib.hid (B_3.out.below hb B_3.out.lt)
        have HB_4 : Hid (Below w.heap.size w v3) := Lib.hid (HB_3.out.trans (hb.mono HB_3.out.size))
        clear hb A_3 B_3 HB_3
        have yy0 := A_4.out.cell (i := 0) (v := .string (zS p.1)) rfl; have yy1 := A_4.out.cell (i := 1) (v := .string (zS p.2)) rfl
        have yy2 := B_4.out.cell (i := 0) (v := .string (zS q.1)) rfl; have yy3 := B_4.out.cell (i := 1) (v := .string (zS q.2)) rfl
        go_wp2_with fail
        refine (M3.out _).mono ?_
        rintro e v4 ⟨rfl, hb⟩
        clear yy0 yy1 yy2 yy3
        have A_5 : Hid (Blk v4 w.heap.size 23 #[.string (zS p.1), .string (zS p.2)]) := Lib.hid (A_4.out.below hb A_4.out.lt)
        have B_5 : Hid (Blk v4 (w.heap.size + 1) 23 #[.string (zS q.1), .string (zS q.2)]) := Lib.hid (B_4.out.below hb B_4.out.lt)
        have HB_5 : Hid (Below w.heap.size w v4) := Lib.hid (HB_4.out.trans (hb.mono HB_4.out.size))
        clear hb A_4 B_4 HB_4
        go_wp2_with fail
        exact bodyPost_ret (v := .tuple #[.string (zS x), .string ⟨#[]⟩, .string ⟨#[]⟩, .bool false]) (by kernel_rfl) rfl ⟨rfl, HB_5.out⟩
      · rename_i x d
        have M1 : Hid (∀ W, Calls Tryz.prog 37 #[.string (zS p.1), .string (zS q.2)] W fun e w' => e = .returned (.tuple #[.string (zS x), .int .i64 0]) ∧ Below W.heap.size W w') := fun W => qmul_z b1 b4 W hx
        have M2 : Hid (∀ W, Calls Tryz.prog 37 #[.string (zS q.1), .string (zS p.2)] W fun e w' => e = .returned (.tuple #[.string ⟨#[]⟩, .int .i64 30]) ∧ Below W.heap.size W w') := fun W => qmul_z b3 b2 W hy
        have M3 : Hid (∀ W, Calls Tryz.prog 37 #[.string (zS p.2), .string (zS q.2)] W fun e w' => e = .returned (.tuple #[.string (zS d), .int .i64 0]) ∧ Below W.heap.size W w') := fun W => qmul_z b2 b4 W hd
        clear hx hy hd b1 b2 b3 b4 p3 q3
        have A_0 : Hid (Blk ((w.alloc (.cells #[.string (zS p.1), .string (zS p.2)] 23)).alloc (.cells #[.string (zS q.1), .string (zS q.2)] 23)) w.heap.size 23 #[.string (zS p.1), .string (zS p.2)]) := allocs_blk [(#[.string (zS p.1), .string (zS p.2)], 23), (#[.string (zS q.1), .string (zS q.2)], 23)] w 0 _ rfl
        have B_0 : Hid (Blk ((w.alloc (.cells #[.string (zS p.1), .string (zS p.2)] 23)).alloc (.cells #[.string (zS q.1), .string (zS q.2)] 23)) (w.heap.size + 1) 23 #[.string (zS q.1), .string (zS q.2)]) := allocs_blk [(#[.string (zS p.1), .string (zS p.2)], 23), (#[.string (zS q.1), .string (zS q.2)], 23)] w 1 _ rfl
        have HB_0 : Hid (Below w.heap.size w ((w.alloc (.cells #[.string (zS p.1), .string (zS p.2)] 23)).alloc (.cells #[.string (zS q.1), .string (zS q.2)] 23))) := allocs_below [(#[.string (zS p.1), .string (zS p.2)], 23), (#[.string (zS q.1), .string (zS q.2)], 23)] w (Below.refl w.heap.size w) (Nat.le_refl _)
        go_enter Tryz.func34, Tryz.ntmps34
        have yy0 := A_0.out.cell (i := 0) (v := .string (zS p.1)) rfl; have yy1 := A_0.out.cell (i := 1) (v := .string (zS p.2)) rfl
        go_wp2_with fail
        refine (VA.out _).mono ?_
        rintro e v0 ⟨rfl, hb⟩
        clear yy0 yy1
        have A_1 : Hid (Blk v0 w.heap.size 23 #[.string (zS p.1), .string (zS p.2)]) := Lib.hid (A_0.out.below hb A_0.out.lt)
        have B_1 : Hid (Blk v0 (w.heap.size + 1) 23 #[.string (zS q.1), .string (zS q.2)]) := Lib.hid (B_0.out.below hb B_0.out.lt)
        have HB_1 : Hid (Below w.heap.size w v0) := Lib.hid (HB_0.out.trans (hb.mono HB_0.out.size))
        clear hb A_0 B_0 HB_0
        have yy0 := B_1.out.cell (i := 0) (v := .string (zS q.1)) rfl; have yy1 := B_1.out.cell (i := 1) (v := .string (zS q.2)) rfl
        go_wp2_with fail
        refine (VB.out _).mono ?_
        rintro e v1 ⟨rfl, hb⟩
        clear yy0 yy1
        have A_2 : Hid (Blk v1 w.heap.size 23 #[.string (zS p.1), .string (zS p.2)]) := Lib.hid (A_1.out.below hb A_1.out.lt)
        have B_2 : Hid (Blk v1 (w.heap.size + 1) 23 #[.string (zS q.1), .string (zS q.2)]) := Lib.hid (B_1.out.below hb B_1.out.lt)
        have HB_2 : Hid (Below w.heap.size w v1) := Lib.hid (HB_1.out.trans (hb.mono HB_1.out.size))
        clear hb A_1 B_1 HB_1
        have yy0 := A_2.out.cell (i := 0) (v := .string (zS p.1)) rfl; have yy1 := A_2.out.cell (i := 1) (v := .string (zS p.2)) rfl
        have yy2 := B_2.out.cell (i := 0) (v := .string (zS q.1)) rfl; have yy3 := B_2.out.cell (i := 1) (v := .string (zS q.2)) rfl
        go_wp2_with fail
        refine (M1.out _).mono ?_
        rintro e v2 ⟨rfl, hb⟩
        clear yy0 yy1 yy2 yy3
        have A_3 : Hid (Blk v2 w.heap.size 23 #[.string (zS p.1), .string (zS p.2)]) := Lib.hid (A_2.out.below hb A_2.out.lt)
        have B_3 : Hid (Blk v2 (w.heap.size + 1) 23 #[.string (zS q.1), .string (zS q.2)]) := Lib.hid (B_2.out.below hb B_2.out.lt)
        have HB_3 : Hid (Below w.heap.size w v2) := Lib.hid (HB_2.out.trans (hb.mono HB_2.out.size))
        clear hb A_2 B_2 HB_2
        have yy0 := A_3.out.cell (i := 0) (v := .string (zS p.1)) rfl; have yy1 := A_3.out.cell (i := 1) (v := .string (zS p.2)) rfl
        have yy2 := B_3.out.cell (i := 0) (v := .string (zS q.1)) rfl; have yy3 := B_3.out.cell (i := 1) (v := .string (zS q.2)) rfl
        go_wp2_with fail
        refine (M2.out _).mono ?_
        rintro e v3 ⟨rfl, hb⟩
        clear yy0 yy1 yy2 yy3
        have A_4 : Hid (Blk v3 w.heap.size 23 #[.string (zS p.1), .string (zS p.2)]) := Lib.hid (A_3.out.below hb A_3.out.lt)
        have B_4 : Hid (Blk v3 (w.heap.size + 1) 23 #[.string (zS q.1), .string (zS q.2)]) := Lib.hid (B_3.out.below hb B_3.out.lt)
        have HB_4 : Hid (Below w.heap.size w v3) := Lib.hid (HB_3.out.trans (hb.mono HB_3.out.size))
        clear hb A_3 B_3 HB_3
        have yy0 := A_4.out.cell (i := 0) (v := .string (zS p.1)) rfl; have yy1 := A_4.out.cell (i := 1) (v := .string (zS p.2)) rfl
        have yy2 := B_4.out.cell (i := 0) (v := .string (zS q.1)) rfl; have yy3 := B_4.out.cell (i := 1) (v := .string (zS q.2)) rfl
        go_wp2_with fail
        refine (M3.out _).mono ?_
        rintro e v4 ⟨rfl, hb⟩
        clear yy0 yy1 yy2 yy3
        have A_5 : Hid (Blk v4 w.heap.size 23 #[.string (zS p.1), .string (zS p.2)]) := Lib.hid (A_4.out.below hb A_4.out.lt)
        have B_5 : Hid (Blk v4 (w.heap.size + 1) 23 #[.string (zS q.1), .string (zS q.2)]) := Lib.hid (B_4.out.below hb B_4.out.lt)
        have HB_5 : Hid (Below w.heap.size w v4) := Lib.hid (HB_4.out.trans (hb.mono HB_4.out.size))
        clear hb A_4 B_4 HB_4
        go_wp2_with fail
        exact bodyPost_ret (v := .tuple #[.string (zS x), .string ⟨#[]⟩, .string (zS d), .bool false]) (by kernel_rfl) rfl ⟨rfl, HB_5.out⟩
      · rename_i x y
        have M1 : Hid (∀ W, Calls Tryz.prog 37 #[.string (zS p.1), .string (zS q.2)] W fun e w' => e = .returned (.tuple #[.string (zS x), .int .i64 0]) ∧ Below W.heap.size W w') := fun W => qmul_z b1 b4 W hx
        have M2 : Hid (∀ W, Calls Tryz.prog 37 #[.string (zS q.1), .string (zS p.2)] W fun e w' => e = .returned (.tuple #[.string (zS y), .int .i64 0]) ∧ Below W.heap.size W w') := fun W => qmul_z b3 b2 W hy
        have M3 : Hid (∀ W, Calls Tryz.prog 37 #[.string (zS p.2), .string (zS q.2)] W fun e w' => e = .returned (.tuple #[.string ⟨#[]⟩, .int .i64 30]) ∧ Below W.heap.size W w') := fun W => qmul_z b2 b4 W hd
        clear hx hy hd b1 b2 b3 b4 p3 q3
        have A_0 : Hid (Blk ((w.alloc (.cells #[.string (zS p.1), .string (zS p.2)] 23)).alloc (.cells #[.string (zS q.1), .string (zS q.2)] 23)) w.heap.size 23 #[.string (zS p.1), .string (zS p.2)]) := allocs_blk [(#[.string (zS p.1), .string (zS p.2)], 23), (#[.string (zS q.1), .string (zS q.2)], 23)] w 0 _ rfl
        have B_0 : Hid (Blk ((w.alloc (.cells #[.string (zS p.1), .string (zS p.2)] 23)).alloc (.cells #[.string (zS q.1), .string (zS q.2)] 23)) (w.heap.size + 1) 23 #[.string (zS q.1), .string (zS q.2)]) := allocs_blk [(#[.string (zS p.1), .string (zS p.2)], 23), (#[.string (zS q.1), .string (zS q.2)], 23)] w 1 _ rfl
        have HB_0 : Hid (Below w.heap.size w ((w.alloc (.cells #[.string (zS p.1), .string (zS p.2)] 23)).alloc (.cells #[.string (zS q.1), .string (zS q.2)] 23))) := allocs_below [(#[.string (zS p.1), .string (zS p.2)], 23), (#[.string (zS q.1), .string (zS q.2)], 23)] w (Below.refl w.heap.size w) (Nat.le_refl _)
        go_enter Tryz.func34, Tryz.ntmps34
        have yy0 := A_0.out.cell (i := 0) (v := .string (zS p.1)) rfl; have yy1 := A_0.out.cell (i := 1) (v := .string (zS p.2)) rfl
        go_wp2_with fail
        refine (VA.out _).mono ?_
        rintro e v0 ⟨rfl, hb⟩
        clear yy0 yy1
        have A_1 : Hid (Blk v0 w.heap.size 23 #[.string (zS p.1), .string (zS p.2)]) := Lib.hid (A_0.out.below hb A_0.out.lt)
        have B_1 : Hid (Blk v0 (w.heap.size + 1) 23 #[.string (zS q.1), .string (zS q.2)]) := Lib.hid (B_0.out.below hb B_0.out.lt)
        have HB_1 : Hid (Below w.heap.size w v0) := Lib.hid (HB_0.out.trans (hb.mono HB_0.out.size))
        clear hb A_0 B_0 HB_0
        have yy0 := B_1.out.cell (i := 0) (v := .string (zS q.1)) rfl; have yy1 := B_1.out.cell (i := 1) (v := .string (zS q.2)) rfl
        go_wp2_with fail
        refine (VB.out _).mono ?_
        rintro e v1 ⟨rfl, hb⟩
        clear yy0 yy1
        have A_2 : Hid (Blk v1 w.heap.size 23 #[.string (zS p.1), .string (zS p.2)]) := Lib.hid (A_1.out.below hb A_1.out.lt)
        have B_2 : Hid (Blk v1 (w.heap.size + 1) 23 #[.string (zS q.1), .string (zS q.2)]) := Lib.hid (B_1.out.below hb B_1.out.lt)
        have HB_2 : Hid (Below w.heap.size w v1) := Lib.hid (HB_1.out.trans (hb.mono HB_1.out.size))
        clear hb A_1 B_1 HB_1
        have yy0 := A_2.out.cell (i := 0) (v := .string (zS p.1)) rfl; have yy1 := A_2.out.cell (i := 1) (v := .string (zS p.2)) rfl
        have yy2 := B_2.out.cell (i := 0) (v := .string (zS q.1)) rfl; have yy3 := B_2.out.cell (i := 1) (v := .string (zS q.2)) rfl
        go_wp2_with fail
        refine (M1.out _).mono ?_
        rintro e v2 ⟨rfl, hb⟩
        clear yy0 yy1 yy2 yy3
        have A_3 : Hid (Blk v2 w.heap.size 23 #[.string (zS p.1), .string (zS p.2)]) := Lib.hid (A_2.out.below hb A_2.out.lt)
        have B_3 : Hid (Blk v2 (w.heap.size + 1) 23 #[.string (zS q.1), .string (zS q.2)]) := Lib.hid (B_2.out.below hb B_2.out.lt)
        have HB_3 : Hid (Below w.heap.size w v2) := Lib.hid (HB_2.out.trans (hb.mono HB_2.out.size))
        clear hb A_2 B_2 HB_2
        have yy0 := A_3.out.cell (i := 0) (v := .string (zS p.1)) rfl; have yy1 := A_3.out.cell (i := 1) (v := .string (zS p.2)) rfl
        have yy2 := B_3.out.cell (i := 0) (v := .string (zS q.1)) rfl; have yy3 := B_3.out.cell (i := 1) (v := .string (zS q.2)) rfl
        go_wp2_with fail
        refine (M2.out _).mono ?_
        rintro e v3 ⟨rfl, hb⟩
        clear yy0 yy1 yy2 yy3
        have A_4 : Hid (Blk v3 w.heap.size 23 #[.string (zS p.1), .string (zS p.2)]) := Lib.hid (A_3.out.below hb A_3.out.lt)
        have B_4 : Hid (Blk v3 (w.heap.size + 1) 23 #[.string (zS q.1), .string (zS q.2)]) := Lib.hid (B_3.out.below hb B_3.out.lt)
        have HB_4 : Hid (Below w.heap.size w v3) := Lib.hid (HB_3.out.trans (hb.mono HB_3.out.size))
        clear hb A_3 B_3 HB_3
        have yy0 := A_4.out.cell (i := 0) (v := .string (zS p.1)) rfl; have yy1 := A_4.out.cell (i := 1) (v := .string (zS p.2)) rfl
        have yy2 := B_4.out.cell (i := 0) (v := .string (zS q.1)) rfl; have yy3 := B_4.out.cell (i := 1) (v := .string (zS q.2)) rfl
        go_wp2_with fail
        refine (M3.out _).mono ?_
        rintro e v4 ⟨rfl, hb⟩
        clear yy0 yy1 yy2 yy3
        have A_5 : Hid (Blk v4 w.heap.size 23 #[.string (zS p.1), .string (zS p.2)]) := Lib.hid (A_4.out.below hb A_4.out.lt)
        have B_5 : Hid (Blk v4 (w.heap.size + 1) 23 #[.string (zS q.1), .string (zS q.2)]) := Lib.hid (B_4.out.below hb B_4.out.lt)
        have HB_5 : Hid (Below w.heap.size w v4) := Lib.hid (HB_4.out.trans (hb.mono HB_4.out.size))
        clear hb A_4 B_4 HB_4
        go_wp2_with fail
        exact bodyPost_ret (v := .tuple #[.string (zS x), .string (zS y), .string ⟨#[]⟩, .bool false]) (by kernel_rfl) rfl ⟨rfl, HB_5.out⟩
      · rename_i x y d
        have M1 : Hid (∀ W, Calls Tryz.prog 37 #[.string (zS p.1), .string (zS q.2)] W fun e w' => e = .returned (.tuple #[.string (zS x), .int .i64 0]) ∧ Below W.heap.size W w') := fun W => qmul_z b1 b4 W hx
        have M2 : Hid (∀ W, Calls Tryz.prog 37 #[.string (zS q.1), .string (zS p.2)] W fun e w' => e = .returned (.tuple #[.string (zS y), .int .i64 0]) ∧ Below W.heap.size W w') := fun W => qmul_z b3 b2 W hy
        have M3 : Hid (∀ W, Calls Tryz.prog 37 #[.string (zS p.2), .string (zS q.2)] W fun e w' => e = .returned (.tuple #[.string (zS d), .int .i64 0]) ∧ Below W.heap.size W w') := fun W => qmul_z b2 b4 W hd
        clear hx hy hd b1 b2 b3 b4 p3 q3
        have A_0 : Hid (Blk ((w.alloc (.cells #[.string (zS p.1), .string (zS p.2)] 23)).alloc (.cells #[.string (zS q.1), .string (zS q.2)] 23)) w.heap.size 23 #[.string (zS p.1), .string (zS p.2)]) := allocs_blk [(#[.string (zS p.1), .string (zS p.2)], 23), (#[.string (zS q.1), .string (zS q.2)], 23)] w 0 _ rfl
        have B_0 : Hid (Blk ((w.alloc (.cells #[.string (zS p.1), .string (zS p.2)] 23)).alloc (.cells #[.string (zS q.1), .string (zS q.2)] 23)) (w.heap.size + 1) 23 #[.string (zS q.1), .string (zS q.2)]) := allocs_blk [(#[.string (zS p.1), .string (zS p.2)], 23), (#[.string (zS q.1), .string (zS q.2)], 23)] w 1 _ rfl
        have HB_0 : Hid (Below w.heap.size w ((w.alloc (.cells #[.string (zS p.1), .string (zS p.2)] 23)).alloc (.cells #[.string (zS q.1), .string (zS q.2)] 23))) := allocs_below [(#[.string (zS p.1), .string (zS p.2)], 23), (#[.string (zS q.1), .string (zS q.2)], 23)] w (Below.refl w.heap.size w) (Nat.le_refl _)
        go_enter Tryz.func34, Tryz.ntmps34
        have yy0 := A_0.out.cell (i := 0) (v := .string (zS p.1)) rfl; have yy1 := A_0.out.cell (i := 1) (v := .string (zS p.2)) rfl
        go_wp2_with fail
        refine (VA.out _).mono ?_
        rintro e v0 ⟨rfl, hb⟩
        clear yy0 yy1
        have A_1 : Hid (Blk v0 w.heap.size 23 #[.string (zS p.1), .string (zS p.2)]) := Lib.hid (A_0.out.below hb A_0.out.lt)
        have B_1 : Hid (Blk v0 (w.heap.size + 1) 23 #[.string (zS q.1), .string (zS q.2)]) := Lib.hid (B_0.out.below hb B_0.out.lt)
        have HB_1 : Hid (Below w.heap.size w v0) := Lib.hid (HB_0.out.trans (hb.mono HB_0.out.size))
        clear hb A_0 B_0 HB_0
        have yy0 := B_1.out.cell (i := 0) (v := .string (zS q.1)) rfl; have yy1 := B_1.out.cell (i := 1) (v := .string (zS q.2)) rfl
        go_wp2_with fail
        refine (VB.out _).mono ?_
        rintro e v1 ⟨rfl, hb⟩
        clear yy0 yy1
        have A_2 : Hid (Blk v1 w.heap.size 23 #[.string (zS p.1), .string (zS p.2)]) := Lib.hid (A_1.out.below hb A_1.out.lt)
        have B_2 : Hid (Blk v1 (w.heap.size + 1) 23 #[.string (zS q.1), .string (zS q.2)]) := Lib.hid (B_1.out.below hb B_1.out.lt)
        have HB_2 : Hid (Below w.heap.size w v1) := Lib.hid (HB_1.out.trans (hb.mono HB_1.out.size))
        clear hb A_1 B_1 HB_1
        have yy0 := A_2.out.cell (i := 0) (v := .string (zS p.1)) rfl; have yy1 := A_2.out.cell (i := 1) (v := .string (zS p.2)) rfl
        have yy2 := B_2.out.cell (i := 0) (v := .string (zS q.1)) rfl; have yy3 := B_2.out.cell (i := 1) (v := .string (zS q.2)) rfl
        go_wp2_with fail
        refine (M1.out _).mono ?_
        rintro e v2 ⟨rfl, hb⟩
        clear yy0 yy1 yy2 yy3
        have A_3 : Hid (Blk v2 w.heap.size 23 #[.string (zS p.1), .string (zS p.2)]) := Lib.hid (A_2.out.below hb A_2.out.lt)
        have B_3 : Hid (Blk v2 (w.heap.size + 1) 23 #[.string (zS q.1), .string (zS q.2)]) := Lib.hid (B_2.out.below hb B_2.out.lt)
        have HB_3 : Hid (Below w.heap.size w v2) := Lib.hid (HB_2.out.trans (hb.mono HB_2.out.size))
        clear hb A_2 B_2 HB_2
        have yy0 := A_3.out.cell (i := 0) (v := .string (zS p.1)) rfl; have yy1 := A_3.out.cell (i := 1) (v := .string (zS p.2)) rfl
        have yy2 := B_3.out.cell (i := 0) (v := .string (zS q.1)) rfl; have yy3 := B_3.out.cell (i := 1) (v := .string (zS q.2)) rfl
        go_wp2_with fail
        refine (M2.out _).mono ?_
        rintro e v3 ⟨rfl, hb⟩
        clear yy0 yy1 yy2 yy3
        have A_4 : Hid (Blk v3 w.heap.size 23 #[.string (zS p.1), .string (zS p.2)]) := Lib.hid (A_3.out.below hb A_3.out.lt)
        have B_4 : Hid (Blk v3 (w.heap.size + 1) 23 #[.string (zS q.1), .string (zS q.2)]) := Lib.hid (B_3.out.below hb B_3.out.lt)
        have HB_4 : Hid (Below w.heap.size w v3) := Lib.hid (HB_3.out.trans (hb.mono HB_3.out.size))
        clear hb A_3 B_3 HB_3
        have yy0 := A_4.out.cell (i := 0) (v := .string (zS p.1)) rfl; have yy1 := A_4.out.cell (i := 1) (v := .string (zS p.2)) rfl
        have yy2 := B_4.out.cell (i := 0) (v := .string (zS q.1)) rfl; have yy3 := B_4.out.cell (i := 1) (v := .string (zS q.2)) rfl
        go_wp2_with fail
        refine (M3.out _).mono ?_
        rintro e v4 ⟨rfl, hb⟩
        clear yy0 yy1 yy2 yy3
        have A_5 : Hid (Blk v4 w.heap.size 23 #[.string (zS p.1), .string (zS p.2)]) := Lib.hid (A_4.out.below hb A_4.out.lt)
        have B_5 : Hid (Blk v4 (w.heap.size + 1) 23 #[.string (zS q.1), .string (zS q.2)]) := Lib.hid (B_4.out.below hb B_4.out.lt)
        have HB_5 : Hid (Below w.heap.size w v4) := Lib.hid (HB_4.out.trans (hb.mono HB_4.out.size))
        clear hb A_4 B_4 HB_4
        go_wp2_with fail
        exact bodyPost_ret (v := .tuple #[.string (zS x), .string (zS y), .string (zS d), .bool true]) (by kernel_rfl) rfl ⟨rfl, HB_5.out⟩
set_option maxRecDepth 100000 in
set_option maxHeartbeats 4000000 in
theorem radd_any (an ad bn bd : ByteArray) (w : World) (ha : an.size ≤ 9000000000000000000 ∧ ad.size ≤ 9000000000000000000) (hb : bn.size ≤ 9000000000000000000 ∧ bd.size ≤ 9000000000000000000) :
    Calls Tryz.prog 9 #[.agg #[.string an, .string ad], .agg #[.string bn, .string bd]] w fun e w' => (e = .returned (.tuple #[.agg #[.string (qN (sumQ (· + ·) (rdQ an.data.toList ad.data.toList) (rdQ bn.data.toList bd.data.toList))), .string (qD (sumQ (· + ·) (rdQ an.data.toList ad.data.toList) (rdQ bn.data.toList bd.data.toList)))], .int .i64 (qE (sumQ (· + ·) (rdQ an.data.toList ad.data.toList) (rdQ bn.data.toList bd.data.toList)))]) ∧ Below w.heap.size w w') := by
  have hcr := fun W => rcross_any an ad bn bd W ha hb
  rw [sumQ_cr]
  generalize rdQ an.data.toList ad.data.toList = P at *; generalize rdQ bn.data.toList bd.data.toList = Q at *
  have sX : Sml (crX P Q) := by cases P <;> cases Q <;> first | exact (fun _ h => by cases h) | exact sml_lim _
  have sY : Sml (crX Q P) := by cases P <;> cases Q <;> first | exact (fun _ h => by cases h) | exact sml_lim _
  have sD : Sml (crD P Q) := by cases P <;> cases Q <;> first | exact (fun _ h => by cases h) | exact sml_lim _
  unfold crB at hcr
  generalize crX P Q = X at *; generalize crX Q P = Y at *; generalize crD P Q = D at *
  clear ha hb
  cases X <;> cases Y <;> cases D
  · skip
    have CR : Hid (∀ W, Calls Tryz.prog 34 #[.agg #[.string an, .string ad], .agg #[.string bn, .string bd]] W fun e w' => e = .returned (.tuple #[.string ⟨#[]⟩, .string ⟨#[]⟩, .string ⟨#[]⟩, .bool false]) ∧ Below W.heap.size W w') := hcr
    clear hcr
    clear sX sY sD
    have A_0 : Hid (Blk (((w.alloc (.cells #[.string an, .string ad] 23)).alloc (.cells #[.string bn, .string bd] 23)).alloc (.cells #[.string ⟨#[]⟩, .string ⟨#[]⟩] 23)) w.heap.size 23 #[.string an, .string ad]) := allocs_blk [(#[.string an, .string ad], 23), (#[.string bn, .string bd], 23), (#[.string ⟨#[]⟩, .string ⟨#[]⟩], 23)] w 0 _ rfl
    have B_0 : Hid (Blk (((w.alloc (.cells #[.string an, .string ad] 23)).alloc (.cells #[.string bn, .string bd] 23)).alloc (.cells #[.string ⟨#[]⟩, .string ⟨#[]⟩] 23)) (w.heap.size + 1) 23 #[.string bn, .string bd]) := allocs_blk [(#[.string an, .string ad], 23), (#[.string bn, .string bd], 23), (#[.string ⟨#[]⟩, .string ⟨#[]⟩], 23)] w 1 _ rfl
    have R_0 : Hid (Blk (((w.alloc (.cells #[.string an, .string ad] 23)).alloc (.cells #[.string bn, .string bd] 23)).alloc (.cells #[.string ⟨#[]⟩, .string ⟨#[]⟩] 23)) (w.heap.size + 2) 23 #[.string ⟨#[]⟩, .string ⟨#[]⟩]) := allocs_blk [(#[.string an, .string ad], 23), (#[.string bn, .string bd], 23), (#[.string ⟨#[]⟩, .string ⟨#[]⟩], 23)] w 2 _ rfl
    have HB_0 : Hid (Below w.heap.size w (((w.alloc (.cells #[.string an, .string ad] 23)).alloc (.cells #[.string bn, .string bd] 23)).alloc (.cells #[.string ⟨#[]⟩, .string ⟨#[]⟩] 23))) := allocs_below [(#[.string an, .string ad], 23), (#[.string bn, .string bd], 23), (#[.string ⟨#[]⟩, .string ⟨#[]⟩], 23)] w (Below.refl w.heap.size w) (Nat.le_refl _)
    go_enter Tryz.func9, Tryz.ntmps9
    have yy0 := A_0.out.cell (i := 0) (v := .string an) rfl; have yy1 := A_0.out.cell (i := 1) (v := .string ad) rfl
    have yy2 := B_0.out.cell (i := 0) (v := .string bn) rfl; have yy3 := B_0.out.cell (i := 1) (v := .string bd) rfl
    go_wp2_with fail
    refine (CR.out _).mono ?_
    rintro e v0 ⟨rfl, hb⟩
    clear yy0 yy1 yy2 yy3
    have A_1 : Hid (Blk v0 w.heap.size 23 #[.string an, .string ad]) := Lib.hid (A_0.out.below hb A_0.out.lt)
    have B_1 : Hid (Blk v0 (w.heap.size + 1) 23 #[.string bn, .string bd]) := Lib.hid (B_0.out.below hb B_0.out.lt)
    have R_1 : Hid (Blk v0 (w.heap.size + 2) 23 #[.string ⟨#[]⟩, .string ⟨#[]⟩]) := Lib.hid (R_0.out.below hb R_0.out.lt)
    have HB_1 : Hid (Below w.heap.size w v0) := Lib.hid (HB_0.out.trans (hb.mono HB_0.out.size))
    clear hb A_0 B_0 R_0 HB_0
    have x0 := R_1.out.cell (i := 0) (v := .string ⟨#[]⟩) rfl; have x1 := R_1.out.cell (i := 1) (v := .string ⟨#[]⟩) rfl
    have f0 := R_1.out.frozen 0; have f1 := R_1.out.frozen 1
    obtain ⟨r0, r1⟩ := R_1.out.two (u := .string ⟨#[]⟩) (v := .string ⟨#[]⟩)
    have RR0 := Lib.hid r0; have RR1 := Lib.hid r1; clear r0 r1
    go_wp2_with fail
    have r0 := RR0.out; have r1 := RR1.out
    exact bodyPost_ret (v := .tuple #[.agg #[.string ⟨#[]⟩, .string ⟨#[]⟩], .int .i64 40]) (by simp [results, Tryz.results9, go_sem, r0, r1]) rfl ⟨(by rw [mk2_none]; rfl), (HB_1.out.setCell (p := ⟨(w.heap.size + 2), 0, none⟩) (by show w.heap.size ≤ (w.heap.size + 2); omega) _).setCell (p := ⟨(w.heap.size + 2), 1, none⟩) (by show w.heap.size ≤ (w.heap.size + 2); omega) _⟩
  · rename_i d
    have CR : Hid (∀ W, Calls Tryz.prog 34 #[.agg #[.string an, .string ad], .agg #[.string bn, .string bd]] W fun e w' => e = .returned (.tuple #[.string ⟨#[]⟩, .string ⟨#[]⟩, .string (zS d), .bool false]) ∧ Below W.heap.size W w') := hcr
    clear hcr
    clear sX sY sD
    have A_0 : Hid (Blk (((w.alloc (.cells #[.string an, .string ad] 23)).alloc (.cells #[.string bn, .string bd] 23)).alloc (.cells #[.string ⟨#[]⟩, .string ⟨#[]⟩] 23)) w.heap.size 23 #[.string an, .string ad]) := allocs_blk [(#[.string an, .string ad], 23), (#[.string bn, .string bd], 23), (#[.string ⟨#[]⟩, .string ⟨#[]⟩], 23)] w 0 _ rfl
    have B_0 : Hid (Blk (((w.alloc (.cells #[.string an, .string ad] 23)).alloc (.cells #[.string bn, .string bd] 23)).alloc (.cells #[.string ⟨#[]⟩, .string ⟨#[]⟩] 23)) (w.heap.size + 1) 23 #[.string bn, .string bd]) := allocs_blk [(#[.string an, .string ad], 23), (#[.string bn, .string bd], 23), (#[.string ⟨#[]⟩, .string ⟨#[]⟩], 23)] w 1 _ rfl
    have R_0 : Hid (Blk (((w.alloc (.cells #[.string an, .string ad] 23)).alloc (.cells #[.string bn, .string bd] 23)).alloc (.cells #[.string ⟨#[]⟩, .string ⟨#[]⟩] 23)) (w.heap.size + 2) 23 #[.string ⟨#[]⟩, .string ⟨#[]⟩]) := allocs_blk [(#[.string an, .string ad], 23), (#[.string bn, .string bd], 23), (#[.string ⟨#[]⟩, .string ⟨#[]⟩], 23)] w 2 _ rfl
    have HB_0 : Hid (Below w.heap.size w (((w.alloc (.cells #[.string an, .string ad] 23)).alloc (.cells #[.string bn, .string bd] 23)).alloc (.cells #[.string ⟨#[]⟩, .string ⟨#[]⟩] 23))) := allocs_below [(#[.string an, .string ad], 23), (#[.string bn, .string bd], 23), (#[.string ⟨#[]⟩, .string ⟨#[]⟩], 23)] w (Below.refl w.heap.size w) (Nat.le_refl _)
    go_enter Tryz.func9, Tryz.ntmps9
    have yy0 := A_0.out.cell (i := 0) (v := .string an) rfl; have yy1 := A_0.out.cell (i := 1) (v := .string ad) rfl
    have yy2 := B_0.out.cell (i := 0) (v := .string bn) rfl; have yy3 := B_0.out.cell (i := 1) (v := .string bd) rfl
    go_wp2_with fail
    refine (CR.out _).mono ?_
    rintro e v0 ⟨rfl, hb⟩
    clear yy0 yy1 yy2 yy3
    have A_1 : Hid (Blk v0 w.heap.size 23 #[.string an, .string ad]) := Lib.hid (A_0.out.below hb A_0.out.lt)
    have B_1 : Hid (Blk v0 (w.heap.size + 1) 23 #[.string bn, .string bd]) := Lib.hid (B_0.out.below hb B_0.out.lt)
    have R_1 : Hid (Blk v0 (w.heap.size + 2) 23 #[.string ⟨#[]⟩, .string ⟨#[]⟩]) := Lib.hid (R_0.out.below hb R_0.out.lt)
    have HB_1 : Hid (Below w.heap.size w v0) := Lib.hid (HB_0.out.trans (hb.mono HB_0.out.size))
    clear hb A_0 B_0 R_0 HB_0
    have x0 := R_1.out.cell (i := 0) (v := .string ⟨#[]⟩) rfl; have x1 := R_1.out.cell (i := 1) (v := .string ⟨#[]⟩) rfl
    have f0 := R_1.out.frozen 0; have f1 := R_1.out.frozen 1
    obtain ⟨r0, r1⟩ := R_1.out.two (u := .string ⟨#[]⟩) (v := .string ⟨#[]⟩)
    have RR0 := Lib.hid r0; have RR1 := Lib.hid r1; clear r0 r1
    go_wp2_with fail
    have r0 := RR0.out; have r1 := RR1.out
    exact bodyPost_ret (v := .tuple #[.agg #[.string ⟨#[]⟩, .string ⟨#[]⟩], .int .i64 40]) (by simp [results, Tryz.results9, go_sem, r0, r1]) rfl ⟨rfl, (HB_1.out.setCell (p := ⟨(w.heap.size + 2), 0, none⟩) (by show w.heap.size ≤ (w.heap.size + 2); omega) _).setCell (p := ⟨(w.heap.size + 2), 1, none⟩) (by show w.heap.size ≤ (w.heap.size + 2); omega) _⟩
  · rename_i y
    have CR : Hid (∀ W, Calls Tryz.prog 34 #[.agg #[.string an, .string ad], .agg #[.string bn, .string bd]] W fun e w' => e = .returned (.tuple #[.string ⟨#[]⟩, .string (zS y), .string ⟨#[]⟩, .bool false]) ∧ Below W.heap.size W w') := hcr
    clear hcr
    clear sX sY sD
    have A_0 : Hid (Blk (((w.alloc (.cells #[.string an, .string ad] 23)).alloc (.cells #[.string bn, .string bd] 23)).alloc (.cells #[.string ⟨#[]⟩, .string ⟨#[]⟩] 23)) w.heap.size 23 #[.string an, .string ad]) := allocs_blk [(#[.string an, .string ad], 23), (#[.string bn, .string bd], 23), (#[.string ⟨#[]⟩, .string ⟨#[]⟩], 23)] w 0 _ rfl
    have B_0 : Hid (Blk (((w.alloc (.cells #[.string an, .string ad] 23)).alloc (.cells #[.string bn, .string bd] 23)).alloc (.cells #[.string ⟨#[]⟩, .string ⟨#[]⟩] 23)) (w.heap.size + 1) 23 #[.string bn, .string bd]) := allocs_blk [(#[.string an, .string ad], 23), (#[.string bn, .string bd], 23), (#[.string ⟨#[]⟩, .string ⟨#[]⟩], 23)] w 1 _ rfl
    have R_0 : Hid (Blk (((w.alloc (.cells #[.string an, .string ad] 23)).alloc (.cells #[.string bn, .string bd] 23)).alloc (.cells #[.string ⟨#[]⟩, .string ⟨#[]⟩] 23)) (w.heap.size + 2) 23 #[.string ⟨#[]⟩, .string ⟨#[]⟩]) := allocs_blk [(#[.string an, .string ad], 23), (#[.string bn, .string bd], 23), (#[.string ⟨#[]⟩, .string ⟨#[]⟩], 23)] w 2 _ rfl
    have HB_0 : Hid (Below w.heap.size w (((w.alloc (.cells #[.string an, .string ad] 23)).alloc (.cells #[.string bn, .string bd] 23)).alloc (.cells #[.string ⟨#[]⟩, .string ⟨#[]⟩] 23))) := allocs_below [(#[.string an, .string ad], 23), (#[.string bn, .string bd], 23), (#[.string ⟨#[]⟩, .string ⟨#[]⟩], 23)] w (Below.refl w.heap.size w) (Nat.le_refl _)
    go_enter Tryz.func9, Tryz.ntmps9
    have yy0 := A_0.out.cell (i := 0) (v := .string an) rfl; have yy1 := A_0.out.cell (i := 1) (v := .string ad) rfl
    have yy2 := B_0.out.cell (i := 0) (v := .string bn) rfl; have yy3 := B_0.out.cell (i := 1) (v := .string bd) rfl
    go_wp2_with fail
    refine (CR.out _).mono ?_
    rintro e v0 ⟨rfl, hb⟩
    clear yy0 yy1 yy2 yy3
    have A_1 : Hid (Blk v0 w.heap.size 23 #[.string an, .string ad]) := Lib.hid (A_0.out.below hb A_0.out.lt)
    have B_1 : Hid (Blk v0 (w.heap.size + 1) 23 #[.string bn, .string bd]) := Lib.hid (B_0.out.below hb B_0.out.lt)
    have R_1 : Hid (Blk v0 (w.heap.size + 2) 23 #[.string ⟨#[]⟩, .string ⟨#[]⟩]) := Lib.hid (R_0.out.below hb R_0.out.lt)
    have HB_1 : Hid (Below w.heap.size w v0) := Lib.hid (HB_0.out.trans (hb.mono HB_0.out.size))
    clear hb A_0 B_0 R_0 HB_0
    have x0 := R_1.out.cell (i := 0) (v := .string ⟨#[]⟩) rfl; have x1 := R_1.out.cell (i := 1) (v := .string ⟨#[]⟩) rfl
    have f0 := R_1.out.frozen 0; have f1 := R_1.out.frozen 1
    obtain ⟨r0, r1⟩ := R_1.out.two (u := .string ⟨#[]⟩) (v := .string ⟨#[]⟩)
    have RR0 := Lib.hid r0; have RR1 := Lib.hid r1; clear r0 r1
    go_wp2_with fail
    have r0 := RR0.out; have r1 := RR1.out
    exact bodyPost_ret (v := .tuple #[.agg #[.string ⟨#[]⟩, .string ⟨#[]⟩], .int .i64 40]) (by simp [results, Tryz.results9, go_sem, r0, r1]) rfl ⟨(by rw [mk2_none]; rfl), (HB_1.out.setCell (p := ⟨(w.heap.size + 2), 0, none⟩) (by show w.heap.size ≤ (w.heap.size + 2); omega) _).setCell (p := ⟨(w.heap.size + 2), 1, none⟩) (by show w.heap.size ≤ (w.heap.size + 2); omega) _⟩
  · rename_i y d
    have CR : Hid (∀ W, Calls Tryz.prog 34 #[.agg #[.string an, .string ad], .agg #[.string bn, .string bd]] W fun e w' => e = .returned (.tuple #[.string ⟨#[]⟩, .string (zS y), .string (zS d), .bool false]) ∧ Below W.heap.size W w') := hcr
    clear hcr
    clear sX sY sD
    have A_0 : Hid (Blk (((w.alloc (.cells #[.string an, .string ad] 23)).alloc (.cells #[.string bn, .string bd] 23)).alloc (.cells #[.string ⟨#[]⟩, .string ⟨#[]⟩] 23)) w.heap.size 23 #[.string an, .string ad]) := allocs_blk [(#[.string an, .string ad], 23), (#[.string bn, .string bd], 23), (#[.string ⟨#[]⟩, .string ⟨#[]⟩], 23)] w 0 _ rfl
    have B_0 : Hid (Blk (((w.alloc (.cells #[.string an, .string ad] 23)).alloc (.cells #[.string bn, .string bd] 23)).alloc (.cells #[.string ⟨#[]⟩, .string ⟨#[]⟩] 23)) (w.heap.size + 1) 23 #[.string bn, .string bd]) := allocs_blk [(#[.string an, .string ad], 23), (#[.string bn, .string bd], 23), (#[.string ⟨#[]⟩, .string ⟨#[]⟩], 23)] w 1 _ rfl
    have R_0 : Hid (Blk (((w.alloc (.cells #[.string an, .string ad] 23)).alloc (.cells #[.string bn, .string bd] 23)).alloc (.cells #[.string ⟨#[]⟩, .string ⟨#[]⟩] 23)) (w.heap.size + 2) 23 #[.string ⟨#[]⟩, .string ⟨#[]⟩]) := allocs_blk [(#[.string an, .string ad], 23), (#[.string bn, .string bd], 23), (#[.string ⟨#[]⟩, .string ⟨#[]⟩], 23)] w 2 _ rfl
    have HB_0 : Hid (Below w.heap.size w (((w.alloc (.cells #[.string an, .string ad] 23)).alloc (.cells #[.string bn, .string bd] 23)).alloc (.cells #[.string ⟨#[]⟩, .string ⟨#[]⟩] 23))) := allocs_below [(#[.string an, .string ad], 23), (#[.string bn, .string bd], 23), (#[.string ⟨#[]⟩, .string ⟨#[]⟩], 23)] w (Below.refl w.heap.size w) (Nat.le_refl _)
    go_enter Tryz.func9, Tryz.ntmps9
    have yy0 := A_0.out.cell (i := 0) (v := .string an) rfl; have yy1 := A_0.out.cell (i := 1) (v := .string ad) rfl
    have yy2 := B_0.out.cell (i := 0) (v := .string bn) rfl; have yy3 := B_0.out.cell (i := 1) (v := .string bd) rfl
    go_wp2_with fail
    refine (CR.out _).mono ?_
    rintro e v0 ⟨rfl, hb⟩
    clear yy0 yy1 yy2 yy3
    have A_1 : Hid (Blk v0 w.heap.size 23 #[.string an, .string ad]) := Lib.hid (A_0.out.below hb A_0.out.lt)
    have B_1 : Hid (Blk v0 (w.heap.size + 1) 23 #[.string bn, .string bd]) := Lib.hid (B_0.out.below hb B_0.out.lt)
    have R_1 : Hid (Blk v0 (w.heap.size + 2) 23 #[.string ⟨#[]⟩, .string ⟨#[]⟩]) := Lib.hid (R_0.out.below hb R_0.out.lt)
    have HB_1 : Hid (Below w.heap.size w v0) := Lib.hid (HB_0.out.trans (hb.mono HB_0.out.size))
    clear hb A_0 B_0 R_0 HB_0
    have x0 := R_1.out.cell (i := 0) (v := .string ⟨#[]⟩) rfl; have x1 := R_1.out.cell (i := 1) (v := .string ⟨#[]⟩) rfl
    have f0 := R_1.out.frozen 0; have f1 := R_1.out.frozen 1
    obtain ⟨r0, r1⟩ := R_1.out.two (u := .string ⟨#[]⟩) (v := .string ⟨#[]⟩)
    have RR0 := Lib.hid r0; have RR1 := Lib.hid r1; clear r0 r1
    go_wp2_with fail
    have r0 := RR0.out; have r1 := RR1.out
    exact bodyPost_ret (v := .tuple #[.agg #[.string ⟨#[]⟩, .string ⟨#[]⟩], .int .i64 40]) (by simp [results, Tryz.results9, go_sem, r0, r1]) rfl ⟨rfl, (HB_1.out.setCell (p := ⟨(w.heap.size + 2), 0, none⟩) (by show w.heap.size ≤ (w.heap.size + 2); omega) _).setCell (p := ⟨(w.heap.size + 2), 1, none⟩) (by show w.heap.size ≤ (w.heap.size + 2); omega) _⟩
  · rename_i x
    have CR : Hid (∀ W, Calls Tryz.prog 34 #[.agg #[.string an, .string ad], .agg #[.string bn, .string bd]] W fun e w' => e = .returned (.tuple #[.string (zS x), .string ⟨#[]⟩, .string ⟨#[]⟩, .bool false]) ∧ Below W.heap.size W w') := hcr
    clear hcr
    clear sX sY sD
    have A_0 : Hid (Blk (((w.alloc (.cells #[.string an, .string ad] 23)).alloc (.cells #[.string bn, .string bd] 23)).alloc (.cells #[.string ⟨#[]⟩, .string ⟨#[]⟩] 23)) w.heap.size 23 #[.string an, .string ad]) := allocs_blk [(#[.string an, .string ad], 23), (#[.string bn, .string bd], 23), (#[.string ⟨#[]⟩, .string ⟨#[]⟩], 23)] w 0 _ rfl
    have B_0 : Hid (Blk (((w.alloc (.cells #[.string an, .string ad] 23)).alloc (.cells #[.string bn, .string bd] 23)).alloc (.cells #[.string ⟨#[]⟩, .string ⟨#[]⟩] 23)) (w.heap.size + 1) 23 #[.string bn, .string bd]) := allocs_blk [(#[.string an, .string ad], 23), (#[.string bn, .string bd], 23), (#[.string ⟨#[]⟩, .string ⟨#[]⟩], 23)] w 1 _ rfl
    have R_0 : Hid (Blk (((w.alloc (.cells #[.string an, .string ad] 23)).alloc (.cells #[.string bn, .string bd] 23)).alloc (.cells #[.string ⟨#[]⟩, .string ⟨#[]⟩] 23)) (w.heap.size + 2) 23 #[.string ⟨#[]⟩, .string ⟨#[]⟩]) := allocs_blk [(#[.string an, .string ad], 23), (#[.string bn, .string bd], 23), (#[.string ⟨#[]⟩, .string ⟨#[]⟩], 23)] w 2 _ rfl
    have HB_0 : Hid (Below w.heap.size w (((w.alloc (.cells #[.string an, .string ad] 23)).alloc (.cells #[.string bn, .string bd] 23)).alloc (.cells #[.string ⟨#[]⟩, .string ⟨#[]⟩] 23))) := allocs_below [(#[.string an, .string ad], 23), (#[.string bn, .string bd], 23), (#[.string ⟨#[]⟩, .string ⟨#[]⟩], 23)] w (Below.refl w.heap.size w) (Nat.le_refl _)
    go_enter Tryz.func9, Tryz.ntmps9
    have yy0 := A_0.out.cell (i := 0) (v := .string an) rfl; have yy1 := A_0.out.cell (i := 1) (v := .string ad) rfl
    have yy2 := B_0.out.cell (i := 0) (v := .string bn) rfl; have yy3 := B_0.out.cell (i := 1) (v := .string bd) rfl
    go_wp2_with fail
    refine (CR.out _).mono ?_
    rintro e v0 ⟨rfl, hb⟩
    clear yy0 yy1 yy2 yy3
    have A_1 : Hid (Blk v0 w.heap.size 23 #[.string an, .string ad]) := Lib.hid (A_0.out.below hb A_0.out.lt)
    have B_1 : Hid (Blk v0 (w.heap.size + 1) 23 #[.string bn, .string bd]) := Lib.hid (B_0.out.below hb B_0.out.lt)
    have R_1 : Hid (Blk v0 (w.heap.size + 2) 23 #[.string ⟨#[]⟩, .string ⟨#[]⟩]) := Lib.hid (R_0.out.below hb R_0.out.lt)
    have HB_1 : Hid (Below w.heap.size w v0) := Lib.hid (HB_0.out.trans (hb.mono HB_0.out.size))
    clear hb A_0 B_0 R_0 HB_0
    have x0 := R_1.out.cell (i := 0) (v := .string ⟨#[]⟩) rfl; have x1 := R_1.out.cell (i := 1) (v := .string ⟨#[]⟩) rfl
    have f0 := R_1.out.frozen 0; have f1 := R_1.out.frozen 1
    obtain ⟨r0, r1⟩ := R_1.out.two (u := .string ⟨#[]⟩) (v := .string ⟨#[]⟩)
    have RR0 := Lib.hid r0; have RR1 := Lib.hid r1; clear r0 r1
    go_wp2_with fail
    have r0 := RR0.out; have r1 := RR1.out
    exact bodyPost_ret (v := .tuple #[.agg #[.string ⟨#[]⟩, .string ⟨#[]⟩], .int .i64 40]) (by simp [results, Tryz.results9, go_sem, r0, r1]) rfl ⟨(by rw [mk2_none]; rfl), (HB_1.out.setCell (p := ⟨(w.heap.size + 2), 0, none⟩) (by show w.heap.size ≤ (w.heap.size + 2); omega) _).setCell (p := ⟨(w.heap.size + 2), 1, none⟩) (by show w.heap.size ≤ (w.heap.size + 2); omega) _⟩
  · rename_i x d
    have CR : Hid (∀ W, Calls Tryz.prog 34 #[.agg #[.string an, .string ad], .agg #[.string bn, .string bd]] W fun e w' => e = .returned (.tuple #[.string (zS x), .string ⟨#[]⟩, .string (zS d), .bool false]) ∧ Below W.heap.size W w') := hcr
    clear hcr
    clear sX sY sD
    have A_0 : Hid (Blk (((w.alloc (.cells #[.string an, .string ad] 23)).alloc (.cells #[.string bn, .string bd] 23)).alloc (.cells #[.string ⟨#[]⟩, .string ⟨#[]⟩] 23)) w.heap.size 23 #[.string an, .string ad]) := allocs_blk [(#[.string an, .string ad], 23), (#[.string bn, .string bd], 23), (#[.string ⟨#[]⟩, .string ⟨#[]⟩], 23)] w 0 _ rfl
    have B_0 : Hid (Blk (((w.alloc (.cells #[.string an, .string ad] 23)).alloc (.cells #[.string bn, .string bd] 23)).alloc (.cells #[.string ⟨#[]⟩, .string ⟨#[]⟩] 23)) (w.heap.size + 1) 23 #[.string bn, .string bd]) := allocs_blk [(#[.string an, .string ad], 23), (#[.string bn, .string bd], 23), (#[.string ⟨#[]⟩, .string ⟨#[]⟩], 23)] w 1 _ rfl
    have R_0 : Hid (Blk (((w.alloc (.cells #[.string an, .string ad] 23)).alloc (.cells #[.string bn, .string bd] 23)).alloc (.cells #[.string ⟨#[]⟩, .string ⟨#[]⟩] 23)) (w.heap.size + 2) 23 #[.string ⟨#[]⟩, .string ⟨#[]⟩]) := allocs_blk [(#[.string an, .string ad], 23), (#[.string bn, .string bd], 23), (#[.string ⟨#[]⟩, .string ⟨#[]⟩], 23)] w 2 _ rfl
    have HB_0 : Hid (Below w.heap.size w (((w.alloc (.cells #[.string an, .string ad] 23)).alloc (.cells #[.string bn, .string bd] 23)).alloc (.cells #[.string ⟨#[]⟩, .string ⟨#[]⟩] 23))) := allocs_below [(#[.string an, .string ad], 23), (#[.string bn, .string bd], 23), (#[.string ⟨#[]⟩, .string ⟨#[]⟩], 23)] w (Below.refl w.heap.size w) (Nat.le_refl _)
    go_enter Tryz.func9, Tryz.ntmps9
    have yy0 := A_0.out.cell (i := 0) (v := .string an) rfl; have yy1 := A_0.out.cell (i := 1) (v := .string ad) rfl
    have yy2 := B_0.out.cell (i := 0) (v := .string bn) rfl; have yy3 := B_0.out.cell (i := 1) (v := .string bd) rfl
    go_wp2_with fail
    refine (CR.out _).mono ?_
    rintro e v0 ⟨rfl, hb⟩
    clear yy0 yy1 yy2 yy3
    have A_1 : Hid (Blk v0 w.heap.size 23 #[.string an, .string ad]) := Lib.hid (A_0.out.below hb A_0.out.lt)
    have B_1 : Hid (Blk v0 (w.heap.size + 1) 23 #[.string bn, .string bd]) := Lib.hid (B_0.out.below hb B_0.out.lt)
    have R_1 : Hid (Blk v0 (w.heap.size + 2) 23 #[.string ⟨#[]⟩, .string ⟨#[]⟩]) := Lib.hid (R_0.out.below hb R_0.out.lt)
    have HB_1 : Hid (Below w.heap.size w v0) := Lib.hid (HB_0.out.trans (hb.mono HB_0.out.size))
    clear hb A_0 B_0 R_0 HB_0
    have x0 := R_1.out.cell (i := 0) (v := .string ⟨#[]⟩) rfl; have x1 := R_1.out.cell (i := 1) (v := .string ⟨#[]⟩) rfl
    have f0 := R_1.out.frozen 0; have f1 := R_1.out.frozen 1
    obtain ⟨r0, r1⟩ := R_1.out.two (u := .string ⟨#[]⟩) (v := .string ⟨#[]⟩)
    have RR0 := Lib.hid r0; have RR1 := Lib.hid r1; clear r0 r1
    go_wp2_with fail
    have r0 := RR0.out; have r1 := RR1.out
    exact bodyPost_ret (v := .tuple #[.agg #[.string ⟨#[]⟩, .string ⟨#[]⟩], .int .i64 40]) (by simp [results, Tryz.results9, go_sem, r0, r1]) rfl ⟨rfl, (HB_1.out.setCell (p := ⟨(w.heap.size + 2), 0, none⟩) (by show w.heap.size ≤ (w.heap.size + 2); omega) _).setCell (p := ⟨(w.heap.size + 2), 1, none⟩) (by show w.heap.size ≤ (w.heap.size + 2); omega) _⟩
  · rename_i x y
    have CR : Hid (∀ W, Calls Tryz.prog 34 #[.agg #[.string an, .string ad], .agg #[.string bn, .string bd]] W fun e w' => e = .returned (.tuple #[.string (zS x), .string (zS y), .string ⟨#[]⟩, .bool false]) ∧ Below W.heap.size W w') := hcr
    clear hcr
    clear sX sY sD
    have A_0 : Hid (Blk (((w.alloc (.cells #[.string an, .string ad] 23)).alloc (.cells #[.string bn, .string bd] 23)).alloc (.cells #[.string ⟨#[]⟩, .string ⟨#[]⟩] 23)) w.heap.size 23 #[.string an, .string ad]) := allocs_blk [(#[.string an, .string ad], 23), (#[.string bn, .string bd], 23), (#[.string ⟨#[]⟩, .string ⟨#[]⟩], 23)] w 0 _ rfl
    have B_0 : Hid (Blk (((w.alloc (.cells #[.string an, .string ad] 23)).alloc (.cells #[.string bn, .string bd] 23)).alloc (.cells #[.string ⟨#[]⟩, .string ⟨#[]⟩] 23)) (w.heap.size + 1) 23 #[.string bn, .string bd]) := allocs_blk [(#[.string an, .string ad], 23), (#[.string bn, .string bd], 23), (#[.string ⟨#[]⟩, .string ⟨#[]⟩], 23)] w 1 _ rfl
    have R_0 : Hid (Blk (((w.alloc (.cells #[.string an, .string ad] 23)).alloc (.cells #[.string bn, .string bd] 23)).alloc (.cells #[.string ⟨#[]⟩, .string ⟨#[]⟩] 23)) (w.heap.size + 2) 23 #[.string ⟨#[]⟩, .string ⟨#[]⟩]) := allocs_blk [(#[.string an, .string ad], 23), (#[.string bn, .string bd], 23), (#[.string ⟨#[]⟩, .string ⟨#[]⟩], 23)] w 2 _ rfl
    have HB_0 : Hid (Below w.heap.size w (((w.alloc (.cells #[.string an, .string ad] 23)).alloc (.cells #[.string bn, .string bd] 23)).alloc (.cells #[.string ⟨#[]⟩, .string ⟨#[]⟩] 23))) := allocs_below [(#[.string an, .string ad], 23), (#[.string bn, .string bd], 23), (#[.string ⟨#[]⟩, .string ⟨#[]⟩], 23)] w (Below.refl w.heap.size w) (Nat.le_refl _)
    go_enter Tryz.func9, Tryz.ntmps9
    have yy0 := A_0.out.cell (i := 0) (v := .string an) rfl; have yy1 := A_0.out.cell (i := 1) (v := .string ad) rfl
    have yy2 := B_0.out.cell (i := 0) (v := .string bn) rfl; have yy3 := B_0.out.cell (i := 1) (v := .string bd) rfl
    go_wp2_with fail
    refine (CR.out _).mono ?_
    rintro e v0 ⟨rfl, hb⟩
    clear yy0 yy1 yy2 yy3
    have A_1 : Hid (Blk v0 w.heap.size 23 #[.string an, .string ad]) := Lib.hid (A_0.out.below hb A_0.out.lt)
    have B_1 : Hid (Blk v0 (w.heap.size + 1) 23 #[.string bn, .string bd]) := Lib.hid (B_0.out.below hb B_0.out.lt)
    have R_1 : Hid (Blk v0 (w.heap.size + 2) 23 #[.string ⟨#[]⟩, .string ⟨#[]⟩]) := Lib.hid (R_0.out.below hb R_0.out.lt)
    have HB_1 : Hid (Below w.heap.size w v0) := Lib.hid (HB_0.out.trans (hb.mono HB_0.out.size))
    clear hb A_0 B_0 R_0 HB_0
    have x0 := R_1.out.cell (i := 0) (v := .string ⟨#[]⟩) rfl; have x1 := R_1.out.cell (i := 1) (v := .string ⟨#[]⟩) rfl
    have f0 := R_1.out.frozen 0; have f1 := R_1.out.frozen 1
    obtain ⟨r0, r1⟩ := R_1.out.two (u := .string ⟨#[]⟩) (v := .string ⟨#[]⟩)
    have RR0 := Lib.hid r0; have RR1 := Lib.hid r1; clear r0 r1
    go_wp2_with fail
    have r0 := RR0.out; have r1 := RR1.out
    exact bodyPost_ret (v := .tuple #[.agg #[.string ⟨#[]⟩, .string ⟨#[]⟩], .int .i64 40]) (by simp [results, Tryz.results9, go_sem, r0, r1]) rfl ⟨(by rw [mk2_none]; rfl), (HB_1.out.setCell (p := ⟨(w.heap.size + 2), 0, none⟩) (by show w.heap.size ≤ (w.heap.size + 2); omega) _).setCell (p := ⟨(w.heap.size + 2), 1, none⟩) (by show w.heap.size ≤ (w.heap.size + 2); omega) _⟩
  · rename_i x y d
    have CR : Hid (∀ W, Calls Tryz.prog 34 #[.agg #[.string an, .string ad], .agg #[.string bn, .string bd]] W fun e w' => e = .returned (.tuple #[.string (zS x), .string (zS y), .string (zS d), .bool true]) ∧ Below W.heap.size W w') := hcr
    clear hcr
    have b1 := sX x rfl; have b2 := sY y rfl; have b3 := sD d rfl
    show Calls _ _ _ _ fun e w' => (e = .returned (.tuple #[.agg #[.string (qN (mk2 (lim (x + y)) (some d))), .string (qD (mk2 (lim (x + y)) (some d)))], .int .i64 (qE (mk2 (lim (x + y)) (some d)))]) ∧ Below w.heap.size w w')
    cases hn : lim (x + y) with
    | none =>
      have AD : Hid (∀ W, Calls Tryz.prog 35 #[.string (zS x), .string (zS y)] W fun e w' => e = .returned (.tuple #[.string ⟨#[]⟩, .int .i64 30]) ∧ Below W.heap.size W w') := fun W => qadd_z b1 b2 W hn
      clear sX sY sD b1 b2 b3 hn
      have A_0 : Hid (Blk (((w.alloc (.cells #[.string an, .string ad] 23)).alloc (.cells #[.string bn, .string bd] 23)).alloc (.cells #[.string ⟨#[]⟩, .string ⟨#[]⟩] 23)) w.heap.size 23 #[.string an, .string ad]) := allocs_blk [(#[.string an, .string ad], 23), (#[.string bn, .string bd], 23), (#[.string ⟨#[]⟩, .string ⟨#[]⟩], 23)] w 0 _ rfl
      have B_0 : Hid (Blk (((w.alloc (.cells #[.string an, .string ad] 23)).alloc (.cells #[.string bn, .string bd] 23)).alloc (.cells #[.string ⟨#[]⟩, .string ⟨#[]⟩] 23)) (w.heap.size + 1) 23 #[.string bn, .string bd]) := allocs_blk [(#[.string an, .string ad], 23), (#[.string bn, .string bd], 23), (#[.string ⟨#[]⟩, .string ⟨#[]⟩], 23)] w 1 _ rfl
      have R_0 : Hid (Blk (((w.alloc (.cells #[.string an, .string ad] 23)).alloc (.cells #[.string bn, .string bd] 23)).alloc (.cells #[.string ⟨#[]⟩, .string ⟨#[]⟩] 23)) (w.heap.size + 2) 23 #[.string ⟨#[]⟩, .string ⟨#[]⟩]) := allocs_blk [(#[.string an, .string ad], 23), (#[.string bn, .string bd], 23), (#[.string ⟨#[]⟩, .string ⟨#[]⟩], 23)] w 2 _ rfl
      have HB_0 : Hid (Below w.heap.size w (((w.alloc (.cells #[.string an, .string ad] 23)).alloc (.cells #[.string bn, .string bd] 23)).alloc (.cells #[.string ⟨#[]⟩, .string ⟨#[]⟩] 23))) := allocs_below [(#[.string an, .string ad], 23), (#[.string bn, .string bd], 23), (#[.string ⟨#[]⟩, .string ⟨#[]⟩], 23)] w (Below.refl w.heap.size w) (Nat.le_refl _)
      go_enter Tryz.func9, Tryz.ntmps9
      have yy0 := A_0.out.cell (i := 0) (v := .string an) rfl; have yy1 := A_0.out.cell (i := 1) (v := .string ad) rfl
      have yy2 := B_0.out.cell (i := 0) (v := .string bn) rfl; have yy3 := B_0.out.cell (i := 1) (v := .string bd) rfl
      go_wp2_with fail
      refine (CR.out _).mono ?_
      rintro e v0 ⟨rfl, hb⟩
      clear yy0 yy1 yy2 yy3
      have A_1 : Hid (Blk v0 w.heap.size 23 #[.string an, .string ad]) := Lib.hid (A_0.out.below hb A_0.out.lt)
      have B_1 : Hid (Blk v0 (w.heap.size + 1) 23 #[.string bn, .string bd]) := Lib.hid (B_0.out.below hb B_0.out.lt)
      have R_1 : Hid (Blk v0 (w.heap.size + 2) 23 #[.string ⟨#[]⟩, .string ⟨#[]⟩]) := Lib.hid (R_0.out.below hb R_0.out.lt)
      have HB_1 : Hid (Below w.heap.size w v0) := Lib.hid (HB_0.out.trans (hb.mono HB_0.out.size))
      clear hb A_0 B_0 R_0 HB_0
      go_wp2_with fail
      refine (AD.out _).mono ?_
      rintro e v1 ⟨rfl, hb⟩
      have A_2 : Hid (Blk v1 w.heap.size 23 #[.string an, .string ad]) := Lib.hid (A_1.out.below hb A_1.out.lt)
      have B_2 : Hid (Blk v1 (w.heap.size + 1) 23 #[.string bn, .string bd]) := Lib.hid (B_1.out.below hb B_1.out.lt)
      have R_2 : Hid (Blk v1 (w.heap.size + 2) 23 #[.string ⟨#[]⟩, .string ⟨#[]⟩]) := Lib.hid (R_1.out.below hb R_1.out.lt)
      have HB_2 : Hid (Below w.heap.size w v1) := Lib.hid (HB_1.out.trans (hb.mono HB_1.out.size))
      clear hb A_1 B_1 R_1 HB_1
      have x0 := R_2.out.cell (i := 0) (v := .string ⟨#[]⟩) rfl; have x1 := R_2.out.cell (i := 1) (v := .string ⟨#[]⟩) rfl
      have f0 := R_2.out.frozen 0; have f1 := R_2.out.frozen 1
      obtain ⟨r0, r1⟩ := R_2.out.two (u := .string ⟨#[]⟩) (v := .string ⟨#[]⟩)
      have RR0 := Lib.hid r0; have RR1 := Lib.hid r1; clear r0 r1
      go_wp2_with fail
      have r0 := RR0.out; have r1 := RR1.out
      exact bodyPost_ret (v := .tuple #[.agg #[.string ⟨#[]⟩, .string ⟨#[]⟩], .int .i64 40]) (by simp [results, Tryz.results9, go_sem, r0, r1]) rfl ⟨rfl, (HB_2.out.setCell (p := ⟨(w.heap.size + 2), 0, none⟩) (by show w.heap.size ≤ (w.heap.size + 2); omega) _).setCell (p := ⟨(w.heap.size + 2), 1, none⟩) (by show w.heap.size ≤ (w.heap.size + 2); omega) _⟩
    | some n =>
      have AD : Hid (∀ W, Calls Tryz.prog 35 #[.string (zS x), .string (zS y)] W fun e w' => e = .returned (.tuple #[.string (zS n), .int .i64 0]) ∧ Below W.heap.size W w') := fun W => qadd_z b1 b2 W hn
      have hm := fun W => rmake_z (lim_abs hn).2 b3 W
      generalize mk2 (some n) (some d) = r at *
      have MK := Lib.hid hm
      clear sX sY sD b1 b2 b3 hn hm
      have A_0 : Hid (Blk (((w.alloc (.cells #[.string an, .string ad] 23)).alloc (.cells #[.string bn, .string bd] 23)).alloc (.cells #[.string ⟨#[]⟩, .string ⟨#[]⟩] 23)) w.heap.size 23 #[.string an, .string ad]) := allocs_blk [(#[.string an, .string ad], 23), (#[.string bn, .string bd], 23), (#[.string ⟨#[]⟩, .string ⟨#[]⟩], 23)] w 0 _ rfl
      have B_0 : Hid (Blk (((w.alloc (.cells #[.string an, .string ad] 23)).alloc (.cells #[.string bn, .string bd] 23)).alloc (.cells #[.string ⟨#[]⟩, .string ⟨#[]⟩] 23)) (w.heap.size + 1) 23 #[.string bn, .string bd]) := allocs_blk [(#[.string an, .string ad], 23), (#[.string bn, .string bd], 23), (#[.string ⟨#[]⟩, .string ⟨#[]⟩], 23)] w 1 _ rfl
      have R_0 : Hid (Blk (((w.alloc (.cells #[.string an, .string ad] 23)).alloc (.cells #[.string bn, .string bd] 23)).alloc (.cells #[.string ⟨#[]⟩, .string ⟨#[]⟩] 23)) (w.heap.size + 2) 23 #[.string ⟨#[]⟩, .string ⟨#[]⟩]) := allocs_blk [(#[.string an, .string ad], 23), (#[.string bn, .string bd], 23), (#[.string ⟨#[]⟩, .string ⟨#[]⟩], 23)] w 2 _ rfl
      have HB_0 : Hid (Below w.heap.size w (((w.alloc (.cells #[.string an, .string ad] 23)).alloc (.cells #[.string bn, .string bd] 23)).alloc (.cells #[.string ⟨#[]⟩, .string ⟨#[]⟩] 23))) := allocs_below [(#[.string an, .string ad], 23), (#[.string bn, .string bd], 23), (#[.string ⟨#[]⟩, .string ⟨#[]⟩], 23)] w (Below.refl w.heap.size w) (Nat.le_refl _)
      go_enter Tryz.func9, Tryz.ntmps9
      have yy0 := A_0.out.cell (i := 0) (v := .string an) rfl; have yy1 := A_0.out.cell (i := 1) (v := .string ad) rfl
      have yy2 := B_0.out.cell (i := 0) (v := .string bn) rfl; have yy3 := B_0.out.cell (i := 1) (v := .string bd) rfl
      go_wp2_with fail
      refine (CR.out _).mono ?_
      rintro e v0 ⟨rfl, hb⟩
      clear yy0 yy1 yy2 yy3
      have A_1 : Hid (Blk v0 w.heap.size 23 #[.string an, .string ad]) := Lib.hid (A_0.out.below hb A_0.out.lt)
      have B_1 : Hid (Blk v0 (w.heap.size + 1) 23 #[.string bn, .string bd]) := Lib.hid (B_0.out.below hb B_0.out.lt)
      have R_1 : Hid (Blk v0 (w.heap.size + 2) 23 #[.string ⟨#[]⟩, .string ⟨#[]⟩]) := Lib.hid (R_0.out.below hb R_0.out.lt)
      have HB_1 : Hid (Below w.heap.size w v0) := Lib.hid (HB_0.out.trans (hb.mono HB_0.out.size))
      clear hb A_0 B_0 R_0 HB_0
      go_wp2_with fail
      refine (AD.out _).mono ?_
      rintro e v1 ⟨rfl, hb⟩
      have A_2 : Hid (Blk v1 w.heap.size 23 #[.string an, .string ad]) := Lib.hid (A_1.out.below hb A_1.out.lt)
      have B_2 : Hid (Blk v1 (w.heap.size + 1) 23 #[.string bn, .string bd]) := Lib.hid (B_1.out.below hb B_1.out.lt)
      have R_2 : Hid (Blk v1 (w.heap.size + 2) 23 #[.string ⟨#[]⟩, .string ⟨#[]⟩]) := Lib.hid (R_1.out.below hb R_1.out.lt)
      have HB_2 : Hid (Below w.heap.size w v1) := Lib.hid (HB_1.out.trans (hb.mono HB_1.out.size))
      clear hb A_1 B_1 R_1 HB_1
      go_wp2_with fail
      refine (MK.out _).mono ?_
      rintro e v2 ⟨rfl, hb⟩
      have A_3 : Hid (Blk v2 w.heap.size 23 #[.string an, .string ad]) := Lib.hid (A_2.out.below hb A_2.out.lt)
      have B_3 : Hid (Blk v2 (w.heap.size + 1) 23 #[.string bn, .string bd]) := Lib.hid (B_2.out.below hb B_2.out.lt)
      have R_3 : Hid (Blk v2 (w.heap.size + 2) 23 #[.string ⟨#[]⟩, .string ⟨#[]⟩]) := Lib.hid (R_2.out.below hb R_2.out.lt)
      have HB_3 : Hid (Below w.heap.size w v2) := Lib.hid (HB_2.out.trans (hb.mono HB_2.out.size))
      clear hb A_2 B_2 R_2 HB_2
      have x0 := R_3.out.cell (i := 0) (v := .string ⟨#[]⟩) rfl; have x1 := R_3.out.cell (i := 1) (v := .string ⟨#[]⟩) rfl
      have f0 := R_3.out.frozen 0; have f1 := R_3.out.frozen 1
      obtain ⟨r0, r1⟩ := R_3.out.two (u := .string (qN r)) (v := .string (qD r))
      have RR0 := Lib.hid r0; have RR1 := Lib.hid r1; clear r0 r1
      go_wp2_with fail
      have r0 := RR0.out; have r1 := RR1.out
      exact bodyPost_ret (v := .tuple #[.agg #[.string (qN r), .string (qD r)], .int .i64 (qE r)]) (by simp [results, Tryz.results9, go_sem, r0, r1]) rfl ⟨rfl, (HB_3.out.setCell (p := ⟨(w.heap.size + 2), 0, none⟩) (by show w.heap.size ≤ (w.heap.size + 2); omega) _).setCell (p := ⟨(w.heap.size + 2), 1, none⟩) (by show w.heap.size ≤ (w.heap.size + 2); omega) _⟩
set_option maxRecDepth 100000 in
set_option maxHeartbeats 4000000 in
theorem rsub_any (an ad bn bd : ByteArray) (w : World) (ha : an.size ≤ 9000000000000000000 ∧ ad.size ≤ 9000000000000000000) (hb : bn.size ≤ 9000000000000000000 ∧ bd.size ≤ 9000000000000000000) :
    Calls Tryz.prog 10 #[.agg #[.string an, .string ad], .agg #[.string bn, .string bd]] w fun e w' => (e = .returned (.tuple #[.agg #[.string (qN (sumQ (· - ·) (rdQ an.data.toList ad.data.toList) (rdQ bn.data.toList bd.data.toList))), .string (qD (sumQ (· - ·) (rdQ an.data.toList ad.data.toList) (rdQ bn.data.toList bd.data.toList)))], .int .i64 (qE (sumQ (· - ·) (rdQ an.data.toList ad.data.toList) (rdQ bn.data.toList bd.data.toList)))]) ∧ Below w.heap.size w w') := by
  have hcr := fun W => rcross_any an ad bn bd W ha hb
  rw [sumQ_cr]
  generalize rdQ an.data.toList ad.data.toList = P at *; generalize rdQ bn.data.toList bd.data.toList = Q at *
  have sX : Sml (crX P Q) := by cases P <;> cases Q <;> first | exact (fun _ h => by cases h) | exact sml_lim _
  have sY : Sml (crX Q P) := by cases P <;> cases Q <;> first | exact (fun _ h => by cases h) | exact sml_lim _
  have sD : Sml (crD P Q) := by cases P <;> cases Q <;> first | exact (fun _ h => by cases h) | exact sml_lim _
  unfold crB at hcr
  generalize crX P Q = X at *; generalize crX Q P = Y at *; generalize crD P Q = D at *
  clear ha hb
  cases X <;> cases Y <;> cases D
  · skip
    have CR : Hid (∀ W, Calls Tryz.prog 34 #[.agg #[.string an, .string ad], .agg #[.string bn, .string bd]] W fun e w' => e = .returned (.tuple #[.string ⟨#[]⟩, .string ⟨#[]⟩, .string ⟨#[]⟩, .bool false]) ∧ Below W.heap.size W w') := hcr
    clear hcr
    clear sX sY sD
    have A_0 : Hid (Blk (((w.alloc (.cells #[.string an, .string ad] 23)).alloc (.cells #[.string bn, .string bd] 23)).alloc (.cells #[.string ⟨#[]⟩, .string ⟨#[]⟩] 23)) w.heap.size 23 #[.string an, .string ad]) := allocs_blk [(#[.string an, .string ad], 23), (#[.string bn, .string bd], 23), (#[.string ⟨#[]⟩, .string ⟨#[]⟩], 23)] w 0 _ rfl
    have B_0 : Hid (Blk (((w.alloc (.cells #[.string an, .string ad] 23)).alloc (.cells #[.string bn, .string bd] 23)).alloc (.cells #[.string ⟨#[]⟩, .string ⟨#[]⟩] 23)) (w.heap.size + 1) 23 #[.string bn, .string bd]) := allocs_blk [(#[.string an, .string ad], 23), (#[.string bn, .string bd], 23), (#[.string ⟨#[]⟩, .string ⟨#[]⟩], 23)] w 1 _ rfl
    have R_0 : Hid (Blk (((w.alloc (.cells #[.string an, .string ad] 23)).alloc (.cells #[.string bn, .string bd] 23)).alloc (.cells #[.string ⟨#[]⟩, .string ⟨#[]⟩] 23)) (w.heap.size + 2) 23 #[.string ⟨#[]⟩, .string ⟨#[]⟩]) := allocs_blk [(#[.string an, .string ad], 23), (#[.string bn, .string bd], 23), (#[.string ⟨#[]⟩, .string ⟨#[]⟩], 23)] w 2 _ rfl
    have HB_0 : Hid (Below w.heap.size w (((w.alloc (.cells #[.string an, .string ad] 23)).alloc (.cells #[.string bn, .string bd] 23)).alloc (.cells #[.string ⟨#[]⟩, .string ⟨#[]⟩] 23))) := allocs_below [(#[.string an, .string ad], 23), (#[.string bn, .string bd], 23), (#[.string ⟨#[]⟩, .string ⟨#[]⟩], 23)] w (Below.refl w.heap.size w) (Nat.le_refl _)
    go_enter Tryz.func10, Tryz.ntmps10
    have yy0 := A_0.out.cell (i := 0) (v := .string an) rfl; have yy1 := A_0.out.cell (i := 1) (v := .string ad) rfl
    have yy2 := B_0.out.cell (i := 0) (v := .string bn) rfl; have yy3 := B_0.out.cell (i := 1) (v := .string bd) rfl
    go_wp2_with fail
    refine (CR.out _).mono ?_
    rintro e v0 ⟨rfl, hb⟩
    clear yy0 yy1 yy2 yy3
    have A_1 : Hid (Blk v0 w.heap.size 23 #[.string an, .string ad]) := Lib.hid (A_0.out.below hb A_0.out.lt)
    have B_1 : Hid (Blk v0 (w.heap.size + 1) 23 #[.string bn, .string bd]) := Lib.hid (B_0.out.below hb B_0.out.lt)
    have R_1 : Hid (Blk v0 (w.heap.size + 2) 23 #[.string ⟨#[]⟩, .string ⟨#[]⟩]) := Lib.hid (R_0.out.below hb R_0.out.lt)
    have HB_1 : Hid (Below w.heap.size w v0) := Lib.hid (HB_0.out.trans (hb.mono HB_0.out.size))
    clear hb A_0 B_0 R_0 HB_0
    have x0 := R_1.out.cell (i := 0) (v := .string ⟨#[]⟩) rfl; have x1 := R_1.out.cell (i := 1) (v := .string ⟨#[]⟩) rfl
    have f0 := R_1.out.frozen 0; have f1 := R_1.out.frozen 1
    obtain ⟨r0, r1⟩ := R_1.out.two (u := .string ⟨#[]⟩) (v := .string ⟨#[]⟩)
    have RR0 := Lib.hid r0; have RR1 := Lib.hid r1; clear r0 r1
    go_wp2_with fail
    have r0 := RR0.out; have r1 := RR1.out
    exact bodyPost_ret (v := .tuple #[.agg #[.string ⟨#[]⟩, .string ⟨#[]⟩], .int .i64 40]) (by simp [results, Tryz.results10, go_sem, r0, r1]) rfl ⟨(by rw [mk2_none]; rfl), (HB_1.out.setCell (p := ⟨(w.heap.size + 2), 0, none⟩) (by show w.heap.size ≤ (w.heap.size + 2); omega) _).setCell (p := ⟨(w.heap.size + 2), 1, none⟩) (by show w.heap.size ≤ (w.heap.size + 2); omega) _⟩
  · rename_i d
    have CR : Hid (∀ W, Calls Tryz.prog 34 #[.agg #[.string an, .string ad], .agg #[.string bn, .string bd]] W fun e w' => e = .returned (.tuple #[.string ⟨#[]⟩, .string ⟨#[]⟩, .string (zS d), .bool false]) ∧ Below W.heap.size W w') := hcr
    clear hcr
    clear sX sY sD
    have A_0 : Hid (Blk (((w.alloc (.cells #[.string an, .string ad] 23)).alloc (.cells #[.string bn, .string bd] 23)).alloc (.cells #[.string ⟨#[]⟩, .string ⟨#[]⟩] 23)) w.heap.size 23 #[.string an, .string ad]) := allocs_blk [(#[.string an, .string ad], 23), (#[.string bn, .string bd], 23), (#[.string ⟨#[]⟩, .string ⟨#[]⟩], 23)] w 0 _ rfl
    have B_0 : Hid (Blk (((w.alloc (.cells #[.string an, .string ad] 23)).alloc (.cells #[.string bn, .string bd] 23)).alloc (.cells #[.string ⟨#[]⟩, .string ⟨#[]⟩] 23)) (w.heap.size + 1) 23 #[.string bn, .string bd]) := allocs_blk [(#[.string an, .string ad], 23), (#[.string bn, .string bd], 23), (#[.string ⟨#[]⟩, .string ⟨#[]⟩], 23)] w 1 _ rfl
    have R_0 : Hid (Blk (((w.alloc (.cells #[.string an, .string ad] 23)).alloc (.cells #[.string bn, .string bd] 23)).alloc (.cells #[.string ⟨#[]⟩, .string ⟨#[]⟩] 23)) (w.heap.size + 2) 23 #[.string ⟨#[]⟩, .string ⟨#[]⟩]) := allocs_blk [(#[.string an, .string ad], 23), (#[.string bn, .string bd], 23), (#[.string ⟨#[]⟩, .string ⟨#[]⟩], 23)] w 2 _ rfl
    have HB_0 : Hid (Below w.heap.size w (((w.alloc (.cells #[.string an, .string ad] 23)).alloc (.cells #[.string bn, .string bd] 23)).alloc (.cells #[.string ⟨#[]⟩, .string ⟨#[]⟩] 23))) := allocs_below [(#[.string an, .string ad], 23), (#[.string bn, .string bd], 23), (#[.string ⟨#[]⟩, .string ⟨#[]⟩], 23)] w (Below.refl w.heap.size w) (Nat.le_refl _)
    go_enter Tryz.func10, Tryz.ntmps10
    have yy0 := A_0.out.cell (i := 0) (v := .string an) rfl; have yy1 := A_0.out.cell (i := 1) (v := .string ad) rfl
    have yy2 := B_0.out.cell (i := 0) (v := .string bn) rfl; have yy3 := B_0.out.cell (i := 1) (v := .string bd) rfl
    go_wp2_with fail
    refine (CR.out _).mono ?_
    rintro e v0 ⟨rfl, hb⟩
    clear yy0 yy1 yy2 yy3
    have A_1 : Hid (Blk v0 w.heap.size 23 #[.string an, .string ad]) := Lib.hid (A_0.out.below hb A_0.out.lt)
    have B_1 : Hid (Blk v0 (w.heap.size + 1) 23 #[.string bn, .string bd]) := Lib.hid (B_0.out.below hb B_0.out.lt)
    have R_1 : Hid (Blk v0 (w.heap.size + 2) 23 #[.string ⟨#[]⟩, .string ⟨#[]⟩]) := Lib.hid (R_0.out.below hb R_0.out.lt)
    have HB_1 : Hid (Below w.heap.size w v0) := Lib.hid (HB_0.out.trans (hb.mono HB_0.out.size))
    clear hb A_0 B_0 R_0 HB_0
    have x0 := R_1.out.cell (i := 0) (v := .string ⟨#[]⟩) rfl; have x1 := R_1.out.cell (i := 1) (v := .string ⟨#[]⟩) rfl
    have f0 := R_1.out.frozen 0; have f1 := R_1.out.frozen 1
    obtain ⟨r0, r1⟩ := R_1.out.two (u := .string ⟨#[]⟩) (v := .string ⟨#[]⟩)
    have RR0 := Lib.hid r0; have RR1 := Lib.hid r1; clear r0 r1
    go_wp2_with fail
    have r0 := RR0.out; have r1 := RR1.out
    exact bodyPost_ret (v := .tuple #[.agg #[.string ⟨#[]⟩, .string ⟨#[]⟩], .int .i64 40]) (by simp [results, Tryz.results10, go_sem, r0, r1]) rfl ⟨rfl, (HB_1.out.setCell (p := ⟨(w.heap.size + 2), 0, none⟩) (by show w.heap.size ≤ (w.heap.size + 2); omega) _).setCell (p := ⟨(w.heap.size + 2), 1, none⟩) (by show w.heap.size ≤ (w.heap.size + 2); omega) _⟩
  · rename_i y
    have CR : Hid (∀ W, Calls Tryz.prog 34 #[.agg #[.string an, .string ad], .agg #[.string bn, .string bd]] W fun e w' => e = .returned (.tuple #[.string ⟨#[]⟩, .string (zS y), .string ⟨#[]⟩, .bool false]) ∧ Below W.heap.size W w') := hcr
    clear hcr
    clear sX sY sD
    have A_0 : Hid (Blk (((w.alloc (.cells #[.string an, .string ad] 23)).alloc (.cells #[.string bn, .string bd] 23)).alloc (.cells #[.string ⟨#[]⟩, .string ⟨#[]⟩] 23)) w.heap.size 23 #[.string an, .string ad]) := allocs_blk [(#[.string an, .string ad], 23), (#[.string bn, .string bd], 23), (#[.string ⟨#[]⟩, .string ⟨#[]⟩], 23)] w 0 _ rfl
    have B_0 : Hid (Blk (((w.alloc (.cells #[.string an, .string ad] 23)).alloc (.cells #[.string bn, .string bd] 23)).alloc (.cells #[.string ⟨#[]⟩, .string ⟨#[]⟩] 23)) (w.heap.size + 1) 23 #[.string bn, .string bd]) := allocs_blk [(#[.string an, .string ad], 23), (#[.string bn, .string bd], 23), (#[.string ⟨#[]⟩, .string ⟨#[]⟩], 23)] w 1 _ rfl
    have R_0 : Hid (Blk (((w.alloc (.cells #[.string an, .string ad] 23)).alloc (.cells #[.string bn, .string bd] 23)).alloc (.cells #[.string ⟨#[]⟩, .string ⟨#[]⟩] 23)) (w.heap.size + 2) 23 #[.string ⟨#[]⟩, .string ⟨#[]⟩]) := allocs_blk [(#[.string an, .string ad], 23), (#[.string bn, .string bd], 23), (#[.string ⟨#[]⟩, .string ⟨#[]⟩], 23)] w 2 _ rfl
    have HB_0 : Hid (Below w.heap.size w (((w.alloc (.cells #[.string an, .string ad] 23)).alloc (.cells #[.string bn, .string bd] 23)).alloc (.cells #[.string ⟨#[]⟩, .string ⟨#[]⟩] 23))) := allocs_below [(#[.string an, .string ad], 23), (#[.string bn, .string bd], 23), (#[.string ⟨#[]⟩, .string ⟨#[]⟩], 23)] w (Below.refl w.heap.size w) (Nat.le_refl _)
    go_enter Tryz.func10, Tryz.ntmps10
    have yy0 := A_0.out.cell (i := 0) (v := .string an) rfl; have yy1 := A_0.out.cell (i := 1) (v := .string ad) rfl
    have yy2 := B_0.out.cell (i := 0) (v := .string bn) rfl; have yy3 := B_0.out.cell (i := 1) (v := .string bd) rfl
    go_wp2_with fail
    refine (CR.out _).mono ?_
    rintro e v0 ⟨rfl, hb⟩
    clear yy0 yy1 yy2 yy3
    have A_1 : Hid (Blk v0 w.heap.size 23 #[.string an, .string ad]) := Lib.hid (A_0.out.below hb A_0.out.lt)
    have B_1 : Hid (Blk v0 (w.heap.size + 1) 23 #[.string bn, .string bd]) := Lib.hid (B_0.out.below hb B_0.out.lt)
    have R_1 : Hid (Blk v0 (w.heap.size + 2) 23 #[.string ⟨#[]⟩, .string ⟨#[]⟩]) := Lib.hid (R_0.out.below hb R_0.out.lt)
    have HB_1 : Hid (Below w.heap.size w v0) := Lib.hid (HB_0.out.trans (hb.mono HB_0.out.size))
    clear hb A_0 B_0 R_0 HB_0
    have x0 := R_1.out.cell (i := 0) (v := .string ⟨#[]⟩) rfl; have x1 := R_1.out.cell (i := 1) (v := .string ⟨#[]⟩) rfl
    have f0 := R_1.out.frozen 0; have f1 := R_1.out.frozen 1
    obtain ⟨r0, r1⟩ := R_1.out.two (u := .string ⟨#[]⟩) (v := .string ⟨#[]⟩)
    have RR0 := Lib.hid r0; have RR1 := Lib.hid r1; clear r0 r1
    go_wp2_with fail
    have r0 := RR0.out; have r1 := RR1.out
    exact bodyPost_ret (v := .tuple #[.agg #[.string ⟨#[]⟩, .string ⟨#[]⟩], .int .i64 40]) (by simp [results, Tryz.results10, go_sem, r0, r1]) rfl ⟨(by rw [mk2_none]; rfl), (HB_1.out.setCell (p := ⟨(w.heap.size + 2), 0, none⟩) (by show w.heap.size ≤ (w.heap.size + 2); omega) _).setCell (p := ⟨(w.heap.size + 2), 1, none⟩) (by show w.heap.size ≤ (w.heap.size + 2); omega) _⟩
  · rename_i y d
    have CR : Hid (∀ W, Calls Tryz.prog 34 #[.agg #[.string an, .string ad], .agg #[.string bn, .string bd]] W fun e w' => e = .returned (.tuple #[.string ⟨#[]⟩, .string (zS y), .string (zS d), .bool false]) ∧ Below W.heap.size W w') := hcr
    clear hcr
    clear sX sY sD
    have A_0 : Hid (Blk (((w.alloc (.cells #[.string an, .string ad] 23)).alloc (.cells #[.string bn, .string bd] 23)).alloc (.cells #[.string ⟨#[]⟩, .string ⟨#[]⟩] 23)) w.heap.size 23 #[.string an, .string ad]) := allocs_blk [(#[.string an, .string ad], 23), (#[.string bn, .string bd], 23), (#[.string ⟨#[]⟩, .string ⟨#[]⟩], 23)] w 0 _ rfl
    have B_0 : Hid (Blk (((w.alloc (.cells #[.string an, .string ad] 23)).alloc (.cells #[.string bn, .string bd] 23)).alloc (.cells #[.string ⟨#[]⟩, .string ⟨#[]⟩] 23)) (w.heap.size + 1) 23 #[.string bn, .string bd]) := allocs_blk [(#[.string an, .string ad], 23), (#[.string bn, .string bd], 23), (#[.string ⟨#[]⟩, .string ⟨#[]⟩], 23)] w 1 _ rfl
    have R_0 : Hid (Blk (((w.alloc (.cells #[.string an, .string ad] 23)).alloc (.cells #[.string bn, .string bd] 23)).alloc (.cells #[.string ⟨#[]⟩, .string ⟨#[]⟩] 23)) (w.heap.size + 2) 23 #[.string ⟨#[]⟩, .string ⟨#[]⟩]) := allocs_blk [(#[.string an, .string ad], 23), (#[.string bn, .string bd], 23), (#[.string ⟨#[]⟩, .string ⟨#[]⟩], 23)] w 2 _ rfl
    have HB_0 : Hid (Below w.heap.size w (((w.alloc (.cells #[.string an, .string ad] 23)).alloc (.cells #[.string bn, .string bd] 23)).alloc (.cells #[.string ⟨#[]⟩, .string ⟨#[]⟩] 23))) := allocs_below [(#[.string an, .string ad], 23), (#[.string bn, .string bd], 23), (#[.string ⟨#[]⟩, .string ⟨#[]⟩], 23)] w (Below.refl w.heap.size w) (Nat.le_refl _)
    go_enter Tryz.func10, Tryz.ntmps10
    have yy0 := A_0.out.cell (i := 0) (v := .string an) rfl; have yy1 := A_0.out.cell (i := 1) (v := .string ad) rfl
    have yy2 := B_0.out.cell (i := 0) (v := .string bn) rfl; have yy3 := B_0.out.cell (i := 1) (v := .string bd) rfl
    go_wp2_with fail
    refine (CR.out _).mono ?_
    rintro e v0 ⟨rfl, hb⟩
    clear yy0 yy1 yy2 yy3
    have A_1 : Hid (Blk v0 w.heap.size 23 #[.string an, .string ad]) := Lib.hid (A_0.out.below hb A_0.out.lt)
    have B_1 : Hid (Blk v0 (w.heap.size + 1) 23 #[.string bn, .string bd]) := Lib.hid (B_0.out.below hb B_0.out.lt)
    have R_1 : Hid (Blk v0 (w.heap.size + 2) 23 #[.string ⟨#[]⟩, .string ⟨#[]⟩]) := Lib.hid (R_0.out.below hb R_0.out.lt)
    have HB_1 : Hid (Below w.heap.size w v0) := Lib.hid (HB_0.out.trans (hb.mono HB_0.out.size))
    clear hb A_0 B_0 R_0 HB_0
    have x0 := R_1.out.cell (i := 0) (v := .string ⟨#[]⟩) rfl; have x1 := R_1.out.cell (i := 1) (v := .string ⟨#[]⟩) rfl
    have f0 := R_1.out.frozen 0; have f1 := R_1.out.frozen 1
    obtain ⟨r0, r1⟩ := R_1.out.two (u := .string ⟨#[]⟩) (v := .string ⟨#[]⟩)
    have RR0 := Lib.hid r0; have RR1 := Lib.hid r1; clear r0 r1
    go_wp2_with fail
    have r0 := RR0.out; have r1 := RR1.out
    exact bodyPost_ret (v := .tuple #[.agg #[.string ⟨#[]⟩, .string ⟨#[]⟩], .int .i64 40]) (by simp [results, Tryz.results10, go_sem, r0, r1]) rfl ⟨rfl, (HB_1.out.setCell (p := ⟨(w.heap.size + 2), 0, none⟩) (by show w.heap.size ≤ (w.heap.size + 2); omega) _).setCell (p := ⟨(w.heap.size + 2), 1, none⟩) (by show w.heap.size ≤ (w.heap.size + 2); omega) _⟩
  · rename_i x
    have CR : Hid (∀ W, Calls Tryz.prog 34 #[.agg #[.string an, .string ad], .agg #[.string bn, .string bd]] W fun e w' => e = .returned (.tuple #[.string (zS x), .string ⟨#[]⟩, .string ⟨#[]⟩, .bool false]) ∧ Below W.heap.size W w') := hcr
    clear hcr
    clear sX sY sD
    have A_0 : Hid (Blk (((w.alloc (.cells #[.string an, .string ad] 23)).alloc (.cells #[.string bn, .string bd] 23)).alloc (.cells #[.string ⟨#[]⟩, .string ⟨#[]⟩] 23)) w.heap.size 23 #[.string an, .string ad]) := allocs_blk [(#[.string an, .string ad], 23), (#[.string bn, .string bd], 23), (#[.string ⟨#[]⟩, .string ⟨#[]⟩], 23)] w 0 _ rfl
    have B_0 : Hid (Blk (((w.alloc (.cells #[.string an, .string ad] 23)).alloc (.cells #[.string bn, .string bd] 23)).alloc (.cells #[.string ⟨#[]⟩, .string ⟨#[]⟩] 23)) (w.heap.size + 1) 23 #[.string bn, .string bd]) := allocs_blk [(#[.string an, .string ad], 23), (#[.string bn, .string bd], 23), (#[.string ⟨#[]⟩, .string ⟨#[]⟩], 23)] w 1 _ rfl
    have R_0 : Hid (Blk (((w.alloc (.cells #[.string an, .string ad] 23)).alloc (.cells #[.string bn, .string bd] 23)).alloc (.cells #[.string ⟨#[]⟩, .string ⟨#[]⟩] 23)) (w.heap.size + 2) 23 #[.string ⟨#[]⟩, .string ⟨#[]⟩]) := allocs_blk [(#[.string an, .string ad], 23), (#[.string bn, .string bd], 23), (#[.string ⟨#[]⟩, .string ⟨#[]⟩], 23)] w 2 _ rfl
    have HB_0 : Hid (Below w.heap.size w (((w.alloc (.cells #[.string an, .string ad] 23)).alloc (.cells #[.string bn, .string bd] 23)).alloc (.cells #[.string ⟨#[]⟩, .string ⟨#[]⟩] 23))) := allocs_below [(#[.string an, .string ad], 23), (#[.string bn, .string bd], 23), (#[.string ⟨#[]⟩, .string ⟨#[]⟩], 23)] w (Below.refl w.heap.size w) (Nat.le_refl _)
    go_enter Tryz.func10, Tryz.ntmps10
    have yy0 := A_0.out.cell (i := 0) (v := .string an) rfl; have yy1 := A_0.out.cell (i := 1) (v := .string ad) rfl
    have yy2 := B_0.out.cell (i := 0) (v := .string bn) rfl; have yy3 := B_0.out.cell (i := 1) (v := .string bd) rfl
    go_wp2_with fail
    refine (CR.out _).mono ?_
    rintro e v0 ⟨rfl, hb⟩
    clear yy0 yy1 yy2 yy3
    have A_1 : Hid (Blk v0 w.heap.size 23 #[.string an, .string ad]) := Lib.hid (A_0.out.below hb A_0.out.lt)
    have B_1 : Hid (Blk v0 (w.heap.size + 1) 23 #[.string bn, .string bd]) := Lib.hid (B_0.out.below hb B_0.out.lt)
    have R_1 : Hid (Blk v0 (w.heap.size + 2) 23 #[.string ⟨#[]⟩, .string ⟨#[]⟩]) := Lib.hid (R_0.out.below hb R_0.out.lt)
    have HB_1 : Hid (Below w.heap.size w v0) := Lib.hid (HB_0.out.trans (hb.mono HB_0.out.size))
    clear hb A_0 B_0 R_0 HB_0
    have x0 := R_1.out.cell (i := 0) (v := .string ⟨#[]⟩) rfl; have x1 := R_1.out.cell (i := 1) (v := .string ⟨#[]⟩) rfl
    have f0 := R_1.out.frozen 0; have f1 := R_1.out.frozen 1
    obtain ⟨r0, r1⟩ := R_1.out.two (u := .string ⟨#[]⟩) (v := .string ⟨#[]⟩)
    have RR0 := Lib.hid r0; have RR1 := Lib.hid r1; clear r0 r1
    go_wp2_with fail
    have r0 := RR0.out; have r1 := RR1.out
    exact bodyPost_ret (v := .tuple #[.agg #[.string ⟨#[]⟩, .string ⟨#[]⟩], .int .i64 40]) (by simp [results, Tryz.results10, go_sem, r0, r1]) rfl ⟨(by rw [mk2_none]; rfl), (HB_1.out.setCell (p := ⟨(w.heap.size + 2), 0, none⟩) (by show w.heap.size ≤ (w.heap.size + 2); omega) _).setCell (p := ⟨(w.heap.size + 2), 1, none⟩) (by show w.heap.size ≤ (w.heap.size + 2); omega) _⟩
  · rename_i x d
    have CR : Hid (∀ W, Calls Tryz.prog 34 #[.agg #[.string an, .string ad], .agg #[.string bn, .string bd]] W fun e w' => e = .returned (.tuple #[.string (zS x), .string ⟨#[]⟩, .string (zS d), .bool false]) ∧ Below W.heap.size W w') := hcr
    clear hcr
    clear sX sY sD
    have A_0 : Hid (Blk (((w.alloc (.cells #[.string an, .string ad] 23)).alloc (.cells #[.string bn, .string bd] 23)).alloc (.cells #[.string ⟨#[]⟩, .string ⟨#[]⟩] 23)) w.heap.size 23 #[.string an, .string ad]) := allocs_blk [(#[.string an, .string ad], 23), (#[.string bn, .string bd], 23), (#[.string ⟨#[]⟩, .string ⟨#[]⟩], 23)] w 0 _ rfl
    have B_0 : Hid (Blk (((w.alloc (.cells #[.string an, .string ad] 23)).alloc (.cells #[.string bn, .string bd] 23)).alloc (.cells #[.string ⟨#[]⟩, .string ⟨#[]⟩] 23)) (w.heap.size + 1) 23 #[.string bn, .string bd]) := allocs_blk [(#[.string an, .string ad], 23), (#[.string bn, .string bd], 23), (#[.string ⟨#[]⟩, .string ⟨#[]⟩], 23)] w 1 _ rfl
    have R_0 : Hid (Blk (((w.alloc (.cells #[.string an, .string ad] 23)).alloc (.cells #[.string bn, .string bd] 23)).alloc (.cells #[.string ⟨#[]⟩, .string ⟨#[]⟩] 23)) (w.heap.size + 2) 23 #[.string ⟨#[]⟩, .string ⟨#[]⟩]) := allocs_blk [(#[.string an, .string ad], 23), (#[.string bn, .string bd], 23), (#[.string ⟨#[]⟩, .string ⟨#[]⟩], 23)] w 2 _ rfl
    have HB_0 : Hid (Below w.heap.size w (((w.alloc (.cells #[.string an, .string ad] 23)).alloc (.cells #[.string bn, .string bd] 23)).alloc (.cells #[.string ⟨#[]⟩, .string ⟨#[]⟩] 23))) := allocs_below [(#[.string an, .string ad], 23), (#[.string bn, .string bd], 23), (#[.string ⟨#[]⟩, .string ⟨#[]⟩], 23)] w (Below.refl w.heap.size w) (Nat.le_refl _)
    go_enter Tryz.func10, Tryz.ntmps10
    have yy0 := A_0.out.cell (i := 0) (v := .string an) rfl; have yy1 := A_0.out.cell (i := 1) (v := .string ad) rfl
    have yy2 := B_0.out.cell (i := 0) (v := .string bn) rfl; have yy3 := B_0.out.cell (i := 1) (v := .string bd) rfl
    go_wp2_with fail
    refine (CR.out _).mono ?_
    rintro e v0 ⟨rfl, hb⟩
    clear yy0 yy1 yy2 yy3
    have A_1 : Hid (Blk v0 w.heap.size 23 #[.string an, .string ad]) := Lib.hid (A_0.out.below hb A_0.out.lt)
    have B_1 : Hid (Blk v0 (w.heap.size + 1) 23 #[.string bn, .string bd]) := Lib.hid (B_0.out.below hb B_0.out.lt)
    have R_1 : Hid (Blk v0 (w.heap.size + 2) 23 #[.string ⟨#[]⟩, .string ⟨#[]⟩]) := Lib.hid (R_0.out.below hb R_0.out.lt)
    have HB_1 : Hid (Below w.heap.size w v0) := Lib.hid (HB_0.out.trans (hb.mono HB_0.out.size))
    clear hb A_0 B_0 R_0 HB_0
    have x0 := R_1.out.cell (i := 0) (v := .string ⟨#[]⟩) rfl; have x1 := R_1.out.cell (i := 1) (v := .string ⟨#[]⟩) rfl
    have f0 := R_1.out.frozen 0; have f1 := R_1.out.frozen 1
    obtain ⟨r0, r1⟩ := R_1.out.two (u := .string ⟨#[]⟩) (v := .string ⟨#[]⟩)
    have RR0 := Lib.hid r0; have RR1 := Lib.hid r1; clear r0 r1
    go_wp2_with fail
    have r0 := RR0.out; have r1 := RR1.out
    exact bodyPost_ret (v := .tuple #[.agg #[.string ⟨#[]⟩, .string ⟨#[]⟩], .int .i64 40]) (by simp [results, Tryz.results10, go_sem, r0, r1]) rfl ⟨rfl, (HB_1.out.setCell (p := ⟨(w.heap.size + 2), 0, none⟩) (by show w.heap.size ≤ (w.heap.size + 2); omega) _).setCell (p := ⟨(w.heap.size + 2), 1, none⟩) (by show w.heap.size ≤ (w.heap.size + 2); omega) _⟩
  · rename_i x y
    have CR : Hid (∀ W, Calls Tryz.prog 34 #[.agg #[.string an, .string ad], .agg #[.string bn, .string bd]] W fun e w' => e = .returned (.tuple #[.string (zS x), .string (zS y), .string ⟨#[]⟩, .bool false]) ∧ Below W.heap.size W w') := hcr
    clear hcr
    clear sX sY sD
    have A_0 : Hid (Blk (((w.alloc (.cells #[.string an, .string ad] 23)).alloc (.cells #[.string bn, .string bd] 23)).alloc (.cells #[.string ⟨#[]⟩, .string ⟨#[]⟩] 23)) w.heap.size 23 #[.string an, .string ad]) := allocs_blk [(#[.string an, .string ad], 23), (#[.string bn, .string bd], 23), (#[.string ⟨#[]⟩, .string ⟨#[]⟩], 23)] w 0 _ rfl
    have B_0 : Hid (Blk (((w.alloc (.cells #[.string an, .string ad] 23)).alloc (.cells #[.string bn, .string bd] 23)).alloc (.cells #[.string ⟨#[]⟩, .string ⟨#[]⟩] 23)) (w.heap.size + 1) 23 #[.string bn, .string bd]) := allocs_blk [(#[.string an, .string ad], 23), (#[.string bn, .string bd], 23), (#[.string ⟨#[]⟩, .string ⟨#[]⟩], 23)] w 1 _ rfl
    have R_0 : Hid (Blk (((w.alloc (.cells #[.string an, .string ad] 23)).alloc (.cells #[.string bn, .string bd] 23)).alloc (.cells #[.string ⟨#[]⟩, .string ⟨#[]⟩] 23)) (w.heap.size + 2) 23 #[.string ⟨#[]⟩, .string ⟨#[]⟩]) := allocs_blk [(#[.string an, .string ad], 23), (#[.string bn, .string bd], 23), (#[.string ⟨#[]⟩, .string ⟨#[]⟩], 23)] w 2 _ rfl
    have HB_0 : Hid (Below w.heap.size w (((w.alloc (.cells #[.string an, .string ad] 23)).alloc (.cells #[.string bn, .string bd] 23)).alloc (.cells #[.string ⟨#[]⟩, .string ⟨#[]⟩] 23))) := allocs_below [(#[.string an, .string ad], 23), (#[.string bn, .string bd], 23), (#[.string ⟨#[]⟩, .string ⟨#[]⟩], 23)] w (Below.refl w.heap.size w) (Nat.le_refl _)
    go_enter Tryz.func10, Tryz.ntmps10
    have yy0 := A_0.out.cell (i := 0) (v := .string an) rfl; have yy1 := A_0.out.cell (i := 1) (v := .string ad) rfl
    have yy2 := B_0.out.cell (i := 0) (v := .string bn) rfl; have yy3 := B_0.out.cell (i := 1) (v := .string bd) rfl
    go_wp2_with fail
    refine (CR.out _).mono ?_
    rintro e v0 ⟨rfl, hb⟩
    clear yy0 yy1 yy2 yy3
    have A_1 : Hid (Blk v0 w.heap.size 23 #[.string an, .string ad]) := Lib.hid (A_0.out.below hb A_0.out.lt)
    have B_1 : Hid (Blk v0 (w.heap.size + 1) 23 #[.string bn, .string bd]) := Lib.hid (B_0.out.below hb B_0.out.lt)
    have R_1 : Hid (Blk v0 (w.heap.size + 2) 23 #[.string ⟨#[]⟩, .string ⟨#[]⟩]) := Lib.hid (R_0.out.below hb R_0.out.lt)
    have HB_1 : Hid (Below w.heap.size w v0) := Lib.hid (HB_0.out.trans (hb.mono HB_0.out.size))
    clear hb A_0 B_0 R_0 HB_0
    have x0 := R_1.out.cell (i := 0) (v := .string ⟨#[]⟩) rfl; have x1 := R_1.out.cell (i := 1) (v := .string ⟨#[]⟩) rfl
    have f0 := R_1.out.frozen 0; have f1 := R_1.out.frozen 1
    obtain ⟨r0, r1⟩ := R_1.out.two (u := .string ⟨#[]⟩) (v := .string ⟨#[]⟩)
    have RR0 := Lib.hid r0; have RR1 := Lib.hid r1; clear r0 r1
    go_wp2_with fail
    have r0 := RR0.out; have r1 := RR1.out
    exact bodyPost_ret (v := .tuple #[.agg #[.string ⟨#[]⟩, .string ⟨#[]⟩], .int .i64 40]) (by simp [results, Tryz.results10, go_sem, r0, r1]) rfl ⟨(by rw [mk2_none]; rfl), (HB_1.out.setCell (p := ⟨(w.heap.size + 2), 0, none⟩) (by show w.heap.size ≤ (w.heap.size + 2); omega) _).setCell (p := ⟨(w.heap.size + 2), 1, none⟩) (by show w.heap.size ≤ (w.heap.size + 2); omega) _⟩
  · rename_i x y d
    have CR : Hid (∀ W, Calls Tryz.prog 34 #[.agg #[.string an, .string ad], .agg #[.string bn, .string bd]] W fun e w' => e = .returned (.tuple #[.string (zS x), .string (zS y), .string (zS d), .bool true]) ∧ Below W.heap.size W w') := hcr
    clear hcr
    have b1 := sX x rfl; have b2 := sY y rfl; have b3 := sD d rfl
    show Calls _ _ _ _ fun e w' => (e = .returned (.tuple #[.agg #[.string (qN (mk2 (lim (x - y)) (some d))), .string (qD (mk2 (lim (x - y)) (some d)))], .int .i64 (qE (mk2 (lim (x - y)) (some d)))]) ∧ Below w.heap.size w w')
    cases hn : lim (x - y) with
    | none =>
      have AD : Hid (∀ W, Calls Tryz.prog 36 #[.string (zS x), .string (zS y)] W fun e w' => e = .returned (.tuple #[.string ⟨#[]⟩, .int .i64 30]) ∧ Below W.heap.size W w') := fun W => qsub_z b1 b2 W hn
      clear sX sY sD b1 b2 b3 hn
      have A_0 : Hid (Blk (((w.alloc (.cells #[.string an, .string ad] 23)).alloc (.cells #[.string bn, .string bd] 23)).alloc (.cells #[.string ⟨#[]⟩, .string ⟨#[]⟩] 23)) w.heap.size 23 #[.string an, .string ad]) := allocs_blk [(#[.string an, .string ad], 23), (#[.string bn, .string bd], 23), (#[.string ⟨#[]⟩, .string ⟨#[]⟩], 23)] w 0 _ rfl
      have B_0 : Hid (Blk (((w.alloc (.cells #[.string an, .string ad] 23)).alloc (.cells #[.string bn, .string bd] 23)).alloc (.cells #[.string ⟨#[]⟩, .string ⟨#[]⟩] 23)) (w.heap.size + 1) 23 #[.string bn, .string bd]) := allocs_blk [(#[.string an, .string ad], 23), (#[.string bn, .string bd], 23), (#[.string ⟨#[]⟩, .string ⟨#[]⟩], 23)] w 1 _ rfl
      have R_0 : Hid (Blk (((w.alloc (.cells #[.string an, .string ad] 23)).alloc (.cells #[.string bn, .string bd] 23)).alloc (.cells #[.string ⟨#[]⟩, .string ⟨#[]⟩] 23)) (w.heap.size + 2) 23 #[.string ⟨#[]⟩, .string ⟨#[]⟩]) := allocs_blk [(#[.string an, .string ad], 23), (#[.string bn, .string bd], 23), (#[.string ⟨#[]⟩, .string ⟨#[]⟩], 23)] w 2 _ rfl
      have HB_0 : Hid (Below w.heap.size w (((w.alloc (.cells #[.string an, .string ad] 23)).alloc (.cells #[.string bn, .string bd] 23)).alloc (.cells #[.string ⟨#[]⟩, .string ⟨#[]⟩] 23))) := allocs_below [(#[.string an, .string ad], 23), (#[.string bn, .string bd], 23), (#[.string ⟨#[]⟩, .string ⟨#[]⟩], 23)] w (Below.refl w.heap.size w) (Nat.le_refl _)
      go_enter Tryz.func10, Tryz.ntmps10
      have yy0 := A_0.out.cell (i := 0) (v := .string an) rfl; have yy1 := A_0.out.cell (i := 1) (v := .string ad) rfl
      have yy2 := B_0.out.cell (i := 0) (v := .string bn) rfl; have yy3 := B_0.out.cell (i := 1) (v := .string bd) rfl
      go_wp2_with fail
      refine (CR.out _).mono ?_
      rintro e v0 ⟨rfl, hb⟩
      clear yy0 yy1 yy2 yy3
      have A_1 : Hid (Blk v0 w.heap.size 23 #[.string an, .string ad]) := Lib.hid (A_0.out.below hb A_0.out.lt)
      have B_1 : Hid (Blk v0 (w.heap.size + 1) 23 #[.string bn, .string bd]) := Lib.hid (B_0.out.below hb B_0.out.lt)
      have R_1 : Hid (Blk v0 (w.heap.size + 2) 23 #[.string ⟨#[]⟩, .string ⟨#[]⟩]) := Lib.hid (R_0.out.below hb R_0.out.lt)
      have HB_1 : Hid (Below w.heap.size w v0) := Lib.hid (HB_0.out.trans (hb.mono HB_0.out.size))
      clear hb A_0 B_0 R_0 HB_0
      go_wp2_with fail
      refine (AD.out _).mono ?_
      rintro e v1 ⟨rfl, hb⟩
      have A_2 : Hid (Blk v1 w.heap.size 23 #[.string an, .string ad]) := Lib.hid (A_1.out.below hb A_1.out.lt)
      have B_2 : Hid (Blk v1 (w.heap.size + 1) 23 #[.string bn, .string bd]) := Lib.hid (B_1.out.below hb B_1.out.lt)
      have R_2 : Hid (Blk v1 (w.heap.size + 2) 23 #[.string ⟨#[]⟩, .string ⟨#[]⟩]) := Lib.hid (R_1.out.below hb R_1.out.lt)
      have HB_2 : Hid (Below w.heap.size w v1) := Lib.hid (HB_1.out.trans (hb.mono HB_1.out.size))
      clear hb A_1 B_1 R_1 HB_1
      have x0 := R_2.out.cell (i := 0) (v := .string ⟨#[]⟩) rfl; have x1 := R_2.out.cell (i := 1) (v := .string ⟨#[]⟩) rfl
      have f0 := R_2.out.frozen 0; have f1 := R_2.out.frozen 1
      obtain ⟨r0, r1⟩ := R_2.out.two (u := .string ⟨#[]⟩) (v := .string ⟨#[]⟩)
      have RR0 := Lib.hid r0; have RR1 := Lib.hid r1; clear r0 r1
      go_wp2_with fail
      have r0 := RR0.out; have r1 := RR1.out
      exact bodyPost_ret (v := .tuple #[.agg #[.string ⟨#[]⟩, .string ⟨#[]⟩], .int .i64 40]) (by simp [results, Tryz.results10, go_sem, r0, r1]) rfl ⟨rfl, (HB_2.out.setCell (p := ⟨(w.heap.size + 2), 0, none⟩) (by show w.heap.size ≤ (w.heap.size + 2); omega) _).setCell (p := ⟨(w.heap.size + 2), 1, none⟩) (by show w.heap.size ≤ (w.heap.size + 2); omega) _⟩
    | some n =>
      have AD : Hid (∀ W, Calls Tryz.prog 36 #[.string (zS x), .string (zS y)] W fun e w' => e = .returned (.tuple #[.string (zS n), .int .i64 0]) ∧ Below W.heap.size W w') := fun W => qsub_z b1 b2 W hn
      have hm := fun W => rmake_z (lim_abs hn).2 b3 W
      generalize mk2 (some n) (some d) = r at *
      have MK := Lib.hid hm
      clear sX sY sD b1 b2 b3 hn hm
      have A_0 : Hid (Blk (((w.alloc (.cells #[.string an, .string ad] 23)).alloc (.cells #[.string bn, .string bd] 23)).alloc (.cells #[.string ⟨#[]⟩, .string ⟨#[]⟩] 23)) w.heap.size 23 #[.string an, .string ad]) := allocs_blk [(#[.string an, .string ad], 23), (#[.string bn, .string bd], 23), (#[.string ⟨#[]⟩, .string ⟨#[]⟩], 23)] w 0 _ rfl
      have B_0 : Hid (Blk (((w.alloc (.cells #[.string an, .string ad] 23)).alloc (.cells #[.string bn, .string bd] 23)).alloc (.cells #[.string ⟨#[]⟩, .string ⟨#[]⟩] 23)) (w.heap.size + 1) 23 #[.string bn, .string bd]) := allocs_blk [(#[.string an, .string ad], 23), (#[.string bn, .string bd], 23), (#[.string ⟨#[]⟩, .string ⟨#[]⟩], 23)] w 1 _ rfl
      have R_0 : Hid (Blk (((w.alloc (.cells #[.string an, .string ad] 23)).alloc (.cells #[.string bn, .string bd] 23)).alloc (.cells #[.string ⟨#[]⟩, .string ⟨#[]⟩] 23)) (w.heap.size + 2) 23 #[.string ⟨#[]⟩, .string ⟨#[]⟩]) := allocs_blk [(#[.string an, .string ad], 23), (#[.string bn, .string bd], 23), (#[.string ⟨#[]⟩, .string ⟨#[]⟩], 23)] w 2 _ rfl
      have HB_0 : Hid (Below w.heap.size w (((w.alloc (.cells #[.string an, .string ad] 23)).alloc (.cells #[.string bn, .string bd] 23)).alloc (.cells #[.string ⟨#[]⟩, .string ⟨#[]⟩] 23))) := allocs_below [(#[.string an, .string ad], 23), (#[.string bn, .string bd], 23), (#[.string ⟨#[]⟩, .string ⟨#[]⟩], 23)] w (Below.refl w.heap.size w) (Nat.le_refl _)
      go_enter Tryz.func10, Tryz.ntmps10
      have yy0 := A_0.out.cell (i := 0) (v := .string an) rfl; have yy1 := A_0.out.cell (i := 1) (v := .string ad) rfl
      have yy2 := B_0.out.cell (i := 0) (v := .string bn) rfl; have yy3 := B_0.out.cell (i := 1) (v := .string bd) rfl
      go_wp2_with fail
      refine (CR.out _).mono ?_
      rintro e v0 ⟨rfl, hb⟩
      clear yy0 yy1 yy2 yy3
      have A_1 : Hid (Blk v0 w.heap.size 23 #[.string an, .string ad]) := Lib.hid (A_0.out.below hb A_0.out.lt)
      have B_1 : Hid (Blk v0 (w.heap.size + 1) 23 #[.string bn, .string bd]) := Lib.hid (B_0.out.below hb B_0.out.lt)
      have R_1 : Hid (Blk v0 (w.heap.size + 2) 23 #[.string ⟨#[]⟩, .string ⟨#[]⟩]) := Lib.hid (R_0.out.below hb R_0.out.lt)
      have HB_1 : Hid (Below w.heap.size w v0) := Lib.hid (HB_0.out.trans (hb.mono HB_0.out.size))
      clear hb A_0 B_0 R_0 HB_0
      go_wp2_with fail
      refine (AD.out _).mono ?_
      rintro e v1 ⟨rfl, hb⟩
      have A_2 : Hid (Blk v1 w.heap.size 23 #[.string an, .string ad]) := Lib.hid (A_1.out.below hb A_1.out.lt)
      have B_2 : Hid (Blk v1 (w.heap.size + 1) 23 #[.string bn, .string bd]) := Lib.hid (B_1.out.below hb B_1.out.lt)
      have R_2 : Hid (Blk v1 (w.heap.size + 2) 23 #[.string ⟨#[]⟩, .string ⟨#[]⟩]) := Lib.hid (R_1.out.below hb R_1.out.lt)
      have HB_2 : Hid (Below w.heap.size w v1) := Lib.hid (HB_1.out.trans (hb.mono HB_1.out.size))
      clear hb A_1 B_1 R_1 HB_1
      go_wp2_with fail
      refine (MK.out _).mono ?_
      rintro e v2 ⟨rfl, hb⟩
      have A_3 : Hid (Blk v2 w.heap.size 23 #[.string an, .string ad]) := Lib.hid (A_2.out.below hb A_2.out.lt)
      have B_3 : Hid (Blk v2 (w.heap.size + 1) 23 #[.string bn, .string bd]) := Lib.hid (B_2.out.below hb B_2.out.lt)
      have R_3 : Hid (Blk v2 (w.heap.size + 2) 23 #[.string ⟨#[]⟩, .string ⟨#[]⟩]) := Lib.hid (R_2.out.below hb R_2.out.lt)
      have HB_3 : Hid (Below w.heap.size w v2) := Lib.hid (HB_2.out.trans (hb.mono HB_2.out.size))
      clear hb A_2 B_2 R_2 HB_2
      have x0 := R_3.out.cell (i := 0) (v := .string ⟨#[]⟩) rfl; have x1 := R_3.out.cell (i := 1) (v := .string ⟨#[]⟩) rfl
      have f0 := R_3.out.frozen 0; have f1 := R_3.out.frozen 1
      obtain ⟨r0, r1⟩ := R_3.out.two (u := .string (qN r)) (v := .string (qD r))
      have RR0 := Lib.hid r0; have RR1 := Lib.hid r1; clear r0 r1
      go_wp2_with fail
      have r0 := RR0.out; have r1 := RR1.out
      exact bodyPost_ret (v := .tuple #[.agg #[.string (qN r), .string (qD r)], .int .i64 (qE r)]) (by simp [results, Tryz.results10, go_sem, r0, r1]) rfl ⟨rfl, (HB_3.out.setCell (p := ⟨(w.heap.size + 2), 0, none⟩) (by show w.heap.size ≤ (w.heap.size + 2); omega) _).setCell (p := ⟨(w.heap.size + 2), 1, none⟩) (by show w.heap.size ≤ (w.heap.size + 2); omega) _⟩
set_option maxRecDepth 100000 in
set_option maxHeartbeats 4000000 in
theorem rmul_any (an ad bn bd : ByteArray) (w : World) (ha : an.size ≤ 9000000000000000000 ∧ ad.size ≤ 9000000000000000000) (hb : bn.size ≤ 9000000000000000000 ∧ bd.size ≤ 9000000000000000000) :
    Calls Tryz.prog 11 #[.agg #[.string an, .string ad], .agg #[.string bn, .string bd]] w fun e w' => (e = .returned (.tuple #[.agg #[.string (qN (mulQ (rdQ an.data.toList ad.data.toList) (rdQ bn.data.toList bd.data.toList))), .string (qD (mulQ (rdQ an.data.toList ad.data.toList) (rdQ bn.data.toList bd.data.toList)))], .int .i64 (qE (mulQ (rdQ an.data.toList ad.data.toList) (rdQ bn.data.toList bd.data.toList)))]) ∧ Below w.heap.size w w') := by
  have hva := fun W => rvalid_any an ad W ha.1 ha.2
  have hvb := fun W => rvalid_any bn bd W hb.1 hb.2
  unfold fV at hva hvb
  cases hp : rdQ an.data.toList ad.data.toList with
  | none =>
    rw [hp] at hva
    obtain ⟨vb, hvb2⟩ : ∃ v, v = (rdQ bn.data.toList bd.data.toList).isSome := ⟨_, rfl⟩
    rw [← hvb2] at hvb
    have VA := Lib.hid hva; have VB := Lib.hid hvb
    have hcase : rdQ bn.data.toList bd.data.toList = rdQ bn.data.toList bd.data.toList := rfl
    generalize rdQ bn.data.toList bd.data.toList = Q
    clear hva hvb hvb2 hp ha hb hcase
    have A_0 : Hid (Blk (((w.alloc (.cells #[.string an, .string ad] 23)).alloc (.cells #[.string bn, .string bd] 23)).alloc (.cells #[.string ⟨#[]⟩, .string ⟨#[]⟩] 23)) w.heap.size 23 #[.string an, .string ad]) := allocs_blk [(#[.string an, .string ad], 23), (#[.string bn, .string bd], 23), (#[.string ⟨#[]⟩, .string ⟨#[]⟩], 23)] w 0 _ rfl
    have B_0 : Hid (Blk (((w.alloc (.cells #[.string an, .string ad] 23)).alloc (.cells #[.string bn, .string bd] 23)).alloc (.cells #[.string ⟨#[]⟩, .string ⟨#[]⟩] 23)) (w.heap.size + 1) 23 #[.string bn, .string bd]) := allocs_blk [(#[.string an, .string ad], 23), (#[.string bn, .string bd], 23), (#[.string ⟨#[]⟩, .string ⟨#[]⟩], 23)] w 1 _ rfl
    have R_0 : Hid (Blk (((w.alloc (.cells #[.string an, .string ad] 23)).alloc (.cells #[.string bn, .string bd] 23)).alloc (.cells #[.string ⟨#[]⟩, .string ⟨#[]⟩] 23)) (w.heap.size + 2) 23 #[.string ⟨#[]⟩, .string ⟨#[]⟩]) := allocs_blk [(#[.string an, .string ad], 23), (#[.string bn, .string bd], 23), (#[.string ⟨#[]⟩, .string ⟨#[]⟩], 23)] w 2 _ rfl
    have HB_0 : Hid (Below w.heap.size w (((w.alloc (.cells #[.string an, .string ad] 23)).alloc (.cells #[.string bn, .string bd] 23)).alloc (.cells #[.string ⟨#[]⟩, .string ⟨#[]⟩] 23))) := allocs_below [(#[.string an, .string ad], 23), (#[.string bn, .string bd], 23), (#[.string ⟨#[]⟩, .string ⟨#[]⟩], 23)] w (Below.refl w.heap.size w) (Nat.le_refl _)
    go_enter Tryz.func11, Tryz.ntmps11
    have yy0 := A_0.out.cell (i := 0) (v := .string an) rfl; have yy1 := A_0.out.cell (i := 1) (v := .string ad) rfl
    go_wp2_with fail
    refine (VA.out _).mono ?_
    rintro e v0 ⟨rfl, hb⟩
    clear yy0 yy1
    have A_1 : Hid (Blk v0 w.heap.size 23 #[.string an, .string ad]) := Lib.hid (A_0.out.below hb A_0.out.lt)
    have B_1 : Hid (Blk v0 (w.heap.size + 1) 23 #[.string bn, .string bd]) := Lib.hid (B_0.out.below hb B_0.out.lt)
    have R_1 : Hid (Blk v0 (w.heap.size + 2) 23 #[.string ⟨#[]⟩, .string ⟨#[]⟩]) := Lib.hid (R_0.out.below hb R_0.out.lt)
    have HB_1 : Hid (Below w.heap.size w v0) := Lib.hid (HB_0.out.trans (hb.mono HB_0.out.size))
    clear hb A_0 B_0 R_0 HB_0
    have yy0 := B_1.out.cell (i := 0) (v := .string bn) rfl; have yy1 := B_1.out.cell (i := 1) (v := .string bd) rfl
    go_wp2_with fail
    refine (VB.out _).mono ?_
    rintro e v1 ⟨rfl, hb⟩
    clear yy0 yy1
    have A_2 : Hid (Blk v1 w.heap.size 23 #[.string an, .string ad]) := Lib.hid (A_1.out.below hb A_1.out.lt)
    have B_2 : Hid (Blk v1 (w.heap.size + 1) 23 #[.string bn, .string bd]) := Lib.hid (B_1.out.below hb B_1.out.lt)
    have R_2 : Hid (Blk v1 (w.heap.size + 2) 23 #[.string ⟨#[]⟩, .string ⟨#[]⟩]) := Lib.hid (R_1.out.below hb R_1.out.lt)
    have HB_2 : Hid (Below w.heap.size w v1) := Lib.hid (HB_1.out.trans (hb.mono HB_1.out.size))
    clear hb A_1 B_1 R_1 HB_1
    have x0 := R_2.out.cell (i := 0) (v := .string ⟨#[]⟩) rfl; have x1 := R_2.out.cell (i := 1) (v := .string ⟨#[]⟩) rfl
    have f0 := R_2.out.frozen 0; have f1 := R_2.out.frozen 1
    obtain ⟨r0, r1⟩ := R_2.out.two (u := .string ⟨#[]⟩) (v := .string ⟨#[]⟩)
    have RR0 := Lib.hid r0; have RR1 := Lib.hid r1; clear r0 r1
    go_wp2_with fail
    have r0 := RR0.out; have r1 := RR1.out
    exact bodyPost_ret (v := .tuple #[.agg #[.string ⟨#[]⟩, .string ⟨#[]⟩], .int .i64 40]) (by simp [results, Tryz.results11, go_sem, r0, r1]) rfl ⟨rfl, (HB_2.out.setCell (p := ⟨(w.heap.size + 2), 0, none⟩) (by show w.heap.size ≤ (w.heap.size + 2); omega) _).setCell (p := ⟨(w.heap.size + 2), 1, none⟩) (by show w.heap.size ≤ (w.heap.size + 2); omega) _⟩
  | some p =>
    rw [hp] at hva
    obtain ⟨p1, p2, p3⟩ := rdQ_some hp
    cases hq : rdQ bn.data.toList bd.data.toList with
    | none =>
      rw [hq] at hvb
      have VA := Lib.hid hva; have VB := Lib.hid hvb
      clear hva hvb hp hq ha hb p1 p2 p3
      have A_0 : Hid (Blk (((w.alloc (.cells #[.string an, .string ad] 23)).alloc (.cells #[.string bn, .string bd] 23)).alloc (.cells #[.string ⟨#[]⟩, .string ⟨#[]⟩] 23)) w.heap.size 23 #[.string an, .string ad]) := allocs_blk [(#[.string an, .string ad], 23), (#[.string bn, .string bd], 23), (#[.string ⟨#[]⟩, .string ⟨#[]⟩], 23)] w 0 _ rfl
      have B_0 : Hid (Blk (((w.alloc (.cells #[.string an, .string ad] 23)).alloc (.cells #[.string bn, .string bd] 23)).alloc (.cells #[.string ⟨#[]⟩, .string ⟨#[]⟩] 23)) (w.heap.size + 1) 23 #[.string bn, .string bd]) := allocs_blk [(#[.string an, .string ad], 23), (#[.string bn, .string bd], 23), (#[.string ⟨#[]⟩, .string ⟨#[]⟩], 23)] w 1 _ rfl
      have R_0 : Hid (Blk (((w.alloc (.cells #[.string an, .string ad] 23)).alloc (.cells #[.string bn, .string bd] 23)).alloc (.cells #[.string ⟨#[]⟩, .string ⟨#[]⟩] 23)) (w.heap.size + 2) 23 #[.string ⟨#[]⟩, .string ⟨#[]⟩]) := allocs_blk [(#[.string an, .string ad], 23), (#[.string bn, .string bd], 23), (#[.string ⟨#[]⟩, .string ⟨#[]⟩], 23)] w 2 _ rfl
      have HB_0 : Hid (Below w.heap.size w (((w.alloc (.cells #[.string an, .string ad] 23)).alloc (.cells #[.string bn, .string bd] 23)).alloc (.cells #[.string ⟨#[]⟩, .string ⟨#[]⟩] 23))) := allocs_below [(#[.string an, .string ad], 23), (#[.string bn, .string bd], 23), (#[.string ⟨#[]⟩, .string ⟨#[]⟩], 23)] w (Below.refl w.heap.size w) (Nat.le_refl _)
      go_enter Tryz.func11, Tryz.ntmps11
      have yy0 := A_0.out.cell (i := 0) (v := .string an) rfl; have yy1 := A_0.out.cell (i := 1) (v := .string ad) rfl
      go_wp2_with fail
      refine (VA.out _).mono ?_
      rintro e v0 ⟨rfl, hb⟩
      clear yy0 yy1
      have A_1 : Hid (Blk v0 w.heap.size 23 #[.string an, .string ad]) := Lib.hid (A_0.out.below hb A_0.out.lt)
      have B_1 : Hid (Blk v0 (w.heap.size + 1) 23 #[.string bn, .string bd]) := Lib.hid (B_0.out.below hb B_0.out.lt)
      have R_1 : Hid (Blk v0 (w.heap.size + 2) 23 #[.string ⟨#[]⟩, .string ⟨#[]⟩]) := Lib.hid (R_0.out.below hb R_0.out.lt)
      have HB_1 : Hid (Below w.heap.size w v0) := Lib.hid (HB_0.out.trans (hb.mono HB_0.out.size))
      clear hb A_0 B_0 R_0 HB_0
      have yy0 := B_1.out.cell (i := 0) (v := .string bn) rfl; have yy1 := B_1.out.cell (i := 1) (v := .string bd) rfl
      go_wp2_with fail
      refine (VB.out _).mono ?_
      rintro e v1 ⟨rfl, hb⟩
      clear yy0 yy1
      have A_2 : Hid (Blk v1 w.heap.size 23 #[.string an, .string ad]) := Lib.hid (A_1.out.below hb A_1.out.lt)
      have B_2 : Hid (Blk v1 (w.heap.size + 1) 23 #[.string bn, .string bd]) := Lib.hid (B_1.out.below hb B_1.out.lt)
      have R_2 : Hid (Blk v1 (w.heap.size + 2) 23 #[.string ⟨#[]⟩, .string ⟨#[]⟩]) := Lib.hid (R_1.out.below hb R_1.out.lt)
      have HB_2 : Hid (Below w.heap.size w v1) := Lib.hid (HB_1.out.trans (hb.mono HB_1.out.size))
      clear hb A_1 B_1 R_1 HB_1
      have x0 := R_2.out.cell (i := 0) (v := .string ⟨#[]⟩) rfl; have x1 := R_2.out.cell (i := 1) (v := .string ⟨#[]⟩) rfl
      have f0 := R_2.out.frozen 0; have f1 := R_2.out.frozen 1
      obtain ⟨r0, r1⟩ := R_2.out.two (u := .string ⟨#[]⟩) (v := .string ⟨#[]⟩)
      have RR0 := Lib.hid r0; have RR1 := Lib.hid r1; clear r0 r1
      go_wp2_with fail
      have r0 := RR0.out; have r1 := RR1.out
      exact bodyPost_ret (v := .tuple #[.agg #[.string ⟨#[]⟩, .string ⟨#[]⟩], .int .i64 40]) (by simp [results, Tryz.results11, go_sem, r0, r1]) rfl ⟨rfl, (HB_2.out.setCell (p := ⟨(w.heap.size + 2), 0, none⟩) (by show w.heap.size ≤ (w.heap.size + 2); omega) _).setCell (p := ⟨(w.heap.size + 2), 1, none⟩) (by show w.heap.size ≤ (w.heap.size + 2); omega) _⟩
    | some q =>
      rw [hq] at hvb
      obtain ⟨q1, q2, q3⟩ := rdQ_some hq
      have e1 := bs_of_rd p1; have e2 := bs_of_rd p2; have e3 := bs_of_rd q1; have e4 := bs_of_rd q2
      have b1 := (rd_some p1).2.1; have b2 := (rd_some p2).2.1; have b3 := (rd_some q1).2.1; have b4 := (rd_some q2).2.1
      subst e1 e2 e3 e4
      have VA := Lib.hid hva; have VB := Lib.hid hvb
      clear hva hvb hp hq ha hb p1 p2 q1 q2
      show Calls _ _ _ _ fun e w' => (e = .returned (.tuple #[.agg #[.string (qN (mk2 (lim (p.1 * q.1)) (lim (p.2 * q.2)))), .string (qD (mk2 (lim (p.1 * q.1)) (lim (p.2 * q.2))))], .int .i64 (qE (mk2 (lim (p.1 * q.1)) (lim (p.2 * q.2))))]) ∧ Below w.heap.size w w')
      cases hx : lim (p.1 * q.1) <;> cases hd : lim (p.2 * q.2)
      · skip
        have M1 : Hid (∀ W, Calls Tryz.prog 37 #[.string (zS p.1), .string (zS q.1)] W fun e w' => e = .returned (.tuple #[.string ⟨#[]⟩, .int .i64 30]) ∧ Below W.heap.size W w') := fun W => qmul_z b1 b3 W hx
        have M2 : Hid (∀ W, Calls Tryz.prog 37 #[.string (zS p.2), .string (zS q.2)] W fun e w' => e = .returned (.tuple #[.string ⟨#[]⟩, .int .i64 30]) ∧ Below W.heap.size W w') := fun W => qmul_z b2 b4 W hd
        clear hx hd b1 b2 b3 b4 p3 q3
        have A_0 : Hid (Blk (((w.alloc (.cells #[.string (zS p.1), .string (zS p.2)] 23)).alloc (.cells #[.string (zS q.1), .string (zS q.2)] 23)).alloc (.cells #[.string ⟨#[]⟩, .string ⟨#[]⟩] 23)) w.heap.size 23 #[.string (zS p.1), .string (zS p.2)]) := allocs_blk [(#[.string (zS p.1), .string (zS p.2)], 23), (#[.string (zS q.1), .string (zS q.2)], 23), (#[.string ⟨#[]⟩, .string ⟨#[]⟩], 23)] w 0 _ rfl
        have B_0 : Hid (Blk (((w.alloc (.cells #[.string (zS p.1), .string (zS p.2)] 23)).alloc (.cells #[.string (zS q.1), .string (zS q.2)] 23)).alloc (.cells #[.string ⟨#[]⟩, .string ⟨#[]⟩] 23)) (w.heap.size + 1) 23 #[.string (zS q.1), .string (zS q.2)]) := allocs_blk [(#[.string (zS p.1), .string (zS p.2)], 23), (#[.string (zS q.1), .string (zS q.2)], 23), (#[.string ⟨#[]⟩, .string ⟨#[]⟩], 23)] w 1 _ rfl
        have R_0 : Hid (Blk (((w.alloc (.cells #[.string (zS p.1), .string (zS p.2)] 23)).alloc (.cells #[.string (zS q.1), .string (zS q.2)] 23)).alloc (.cells #[.string ⟨#[]⟩, .string ⟨#[]⟩] 23)) (w.heap.size + 2) 23 #[.string ⟨#[]⟩, .string ⟨#[]⟩]) := allocs_blk [(#[.string (zS p.1), .string (zS p.2)], 23), (#[.string (zS q.1), .string (zS q.2)], 23), (#[.string ⟨#[]⟩, .string ⟨#[]⟩], 23)] w 2 _ rfl
        have HB_0 : Hid (Below w.heap.size w (((w.alloc (.cells #[.string (zS p.1), .string (zS p.2)] 23)).alloc (.cells #[.string (zS q.1), .string (zS q.2)] 23)).alloc (.cells #[.string ⟨#[]⟩, .string ⟨#[]⟩] 23))) := allocs_below [(#[.string (zS p.1), .string (zS p.2)], 23), (#[.string (zS q.1), .string (zS q.2)], 23), (#[.string ⟨#[]⟩, .string ⟨#[]⟩], 23)] w (Below.refl w.heap.size w) (Nat.le_refl _)
        go_enter Tryz.func11, Tryz.ntmps11
        have yy0 := A_0.out.cell (i := 0) (v := .string (zS p.1)) rfl; have yy1 := A_0.out.cell (i := 1) (v := .string (zS p.2)) rfl
        go_wp2_with fail
        refine (VA.out _).mono ?_
        rintro e v0 ⟨rfl, hb⟩
        clear yy0 yy1
        have A_1 : Hid (Blk v0 w.heap.size 23 #[.string (zS p.1), .string (zS p.2)]) := Lib.hid (A_0.out.below hb A_0.out.lt)
        have B_1 : Hid (Blk v0 (w.heap.size + 1) 23 #[.string (zS q.1), .string (zS q.2)]) := Lib.hid (B_0.out.below hb B_0.out.lt)
        have R_1 : Hid (Blk v0 (w.heap.size + 2) 23 #[.string ⟨#[]⟩, .string ⟨#[]⟩]) := Lib.hid (R_0.out.below hb R_0.out.lt)
        have HB_1 : Hid (Below w.heap.size w v0) := Lib.hid (HB_0.out.trans (hb.mono HB_0.out.size))
        clear hb A_0 B_0 R_0 HB_0
        have yy0 := B_1.out.cell (i := 0) (v := .string (zS q.1)) rfl; have yy1 := B_1.out.cell (i := 1) (v := .string (zS q.2)) rfl
        go_wp2_with fail
        refine (VB.out _).mono ?_
        rintro e v1 ⟨rfl, hb⟩
        clear yy0 yy1
        have A_2 : Hid (Blk v1 w.heap.size 23 #[.string (zS p.1), .string (zS p.2)]) := Lib.hid (A_1.out.below hb A_1.out.lt)
        have B_2 : Hid (Blk v1 (w.heap.size + 1) 23 #[.string (zS q.1), .string (zS q.2)]) := Lib.hid (B_1.out.below hb B_1.out.lt)
        have R_2 : Hid (Blk v1 (w.heap.size + 2) 23 #[.string ⟨#[]⟩, .string ⟨#[]⟩]) := Lib.hid (R_1.out.below hb R_1.out.lt)
        have HB_2 : Hid (Below w.heap.size w v1) := Lib.hid (HB_1.out.trans (hb.mono HB_1.out.size))
        clear hb A_1 B_1 R_1 HB_1
        have yy0 := A_2.out.cell (i := 0) (v := .string (zS p.1)) rfl; have yy1 := A_2.out.cell (i := 1) (v := .string (zS p.2)) rfl
        have yy2 := B_2.out.cell (i := 0) (v := .string (zS q.1)) rfl; have yy3 := B_2.out.cell (i := 1) (v := .string (zS q.2)) rfl
        go_wp2_with fail
        refine (M1.out _).mono ?_
        rintro e v2 ⟨rfl, hb⟩
        clear yy0 yy1 yy2 yy3
        have A_3 : Hid (Blk v2 w.heap.size 23 #[.string (zS p.1), .string (zS p.2)]) := Lib.hid (A_2.out.below hb A_2.out.lt)
        have B_3 : Hid (Blk v2 (w.heap.size + 1) 23 #[.string (zS q.1), .string (zS q.2)]) := Lib.hid (B_2.out.below hb B_2.out.lt)
        have R_3 : Hid (Blk v2 (w.heap.size + 2) 23 #[.string ⟨#[]⟩, .string ⟨#[]⟩]) := Lib.hid (R_2.out.below hb R_2.out.lt)
        have HB_3 : Hid (Below w.heap.size w v2) := Lib.hid (HB_2.out.trans (hb.mono HB_2.out.size))
        clear hb A_2 B_2 R_2 HB_2
        have yy0 := A_3.out.cell (i := 0) (v := .string (zS p.1)) rfl; have yy1 := A_3.out.cell (i := 1) (v := .string (zS p.2)) rfl
        have yy2 := B_3.out.cell (i := 0) (v := .string (zS q.1)) rfl; have yy3 := B_3.out.cell (i := 1) (v := .string (zS q.2)) rfl
        go_wp2_with fail
        refine (M2.out _).mono ?_
        rintro e v3 ⟨rfl, hb⟩
        clear yy0 yy1 yy2 yy3
        have A_4 : Hid (Blk v3 w.heap.size 23 #[.string (zS p.1), .string (zS p.2)]) := Lib.hid (A_3.out.below hb A_3.out.lt)
        have B_4 : Hid (Blk v3 (w.heap.size + 1) 23 #[.string (zS q.1), .string (zS q.2)]) := Lib.hid (B_3.out.below hb B_3.out.lt)
        have R_4 : Hid (Blk v3 (w.heap.size + 2) 23 #[.string ⟨#[]⟩, .string ⟨#[]⟩]) := Lib.hid (R_3.out.below hb R_3.out.lt)
        have HB_4 : Hid (Below w.heap.size w v3) := Lib.hid (HB_3.out.trans (hb.mono HB_3.out.size))
        clear hb A_3 B_3 R_3 HB_3
        have x0 := R_4.out.cell (i := 0) (v := .string ⟨#[]⟩) rfl; have x1 := R_4.out.cell (i := 1) (v := .string ⟨#[]⟩) rfl
        have f0 := R_4.out.frozen 0; have f1 := R_4.out.frozen 1
        obtain ⟨r0, r1⟩ := R_4.out.two (u := .string ⟨#[]⟩) (v := .string ⟨#[]⟩)
        have RR0 := Lib.hid r0; have RR1 := Lib.hid r1; clear r0 r1
        go_wp2_with fail
        have r0 := RR0.out; have r1 := RR1.out
        exact bodyPost_ret (v := .tuple #[.agg #[.string ⟨#[]⟩, .string ⟨#[]⟩], .int .i64 40]) (by simp [results, Tryz.results11, go_sem, r0, r1]) rfl ⟨rfl, (HB_4.out.setCell (p := ⟨(w.heap.size + 2), 0, none⟩) (by show w.heap.size ≤ (w.heap.size + 2); omega) _).setCell (p := ⟨(w.heap.size + 2), 1, none⟩) (by show w.heap.size ≤ (w.heap.size + 2); omega) _⟩
      · rename_i d
        have M1 : Hid (∀ W, Calls Tryz.prog 37 #[.string (zS p.1), .string (zS q.1)] W fun e w' => e = .returned (.tuple #[.string ⟨#[]⟩, .int .i64 30]) ∧ Below W.heap.size W w') := fun W => qmul_z b1 b3 W hx
        have M2 : Hid (∀ W, Calls Tryz.prog 37 #[.string (zS p.2), .string (zS q.2)] W fun e w' => e = .returned (.tuple #[.string (zS d), .int .i64 0]) ∧ Below W.heap.size W w') := fun W => qmul_z b2 b4 W hd
        clear hx hd b1 b2 b3 b4 p3 q3
        have A_0 : Hid (Blk (((w.alloc (.cells #[.string (zS p.1), .string (zS p.2)] 23)).alloc (.cells #[.string (zS q.1), .string (zS q.2)] 23)).alloc (.cells #[.string ⟨#[]⟩, .string ⟨#[]⟩] 23)) w.heap.size 23 #[.string (zS p.1), .string (zS p.2)]) := allocs_blk [(#[.string (zS p.1), .string (zS p.2)], 23), (#[.string (zS q.1), .string (zS q.2)], 23), (#[.string ⟨#[]⟩, .string ⟨#[]⟩], 23)] w 0 _ rfl
        have B_0 : Hid (Blk (((w.alloc (.cells #[.string (zS p.1), .string (zS p.2)] 23)).alloc (.cells #[.string (zS q.1), .string (zS q.2)] 23)).alloc (.cells #[.string ⟨#[]⟩, .string ⟨#[]⟩] 23)) (w.heap.size + 1) 23 #[.string (zS q.1), .string (zS q.2)]) := allocs_blk [(#[.string (zS p.1), .string (zS p.2)], 23), (#[.string (zS q.1), .string (zS q.2)], 23), (#[.string ⟨#[]⟩, .string ⟨#[]⟩], 23)] w 1 _ rfl
        have R_0 : Hid (Blk (((w.alloc (.cells #[.string (zS p.1), .string (zS p.2)] 23)).alloc (.cells #[.string (zS q.1), .string (zS q.2)] 23)).alloc (.cells #[.string ⟨#[]⟩, .string ⟨#[]⟩] 23)) (w.heap.size + 2) 23 #[.string ⟨#[]⟩, .string ⟨#[]⟩]) := allocs_blk [(#[.string (zS p.1), .string (zS p.2)], 23), (#[.string (zS q.1), .string (zS q.2)], 23), (#[.string ⟨#[]⟩, .string ⟨#[]⟩], 23)] w 2 _ rfl
        have HB_0 : Hid (Below w.heap.size w (((w.alloc (.cells #[.string (zS p.1), .string (zS p.2)] 23)).alloc (.cells #[.string (zS q.1), .string (zS q.2)] 23)).alloc (.cells #[.string ⟨#[]⟩, .string ⟨#[]⟩] 23))) := allocs_below [(#[.string (zS p.1), .string (zS p.2)], 23), (#[.string (zS q.1), .string (zS q.2)], 23), (#[.string ⟨#[]⟩, .string ⟨#[]⟩], 23)] w (Below.refl w.heap.size w) (Nat.le_refl _)
        go_enter Tryz.func11, Tryz.ntmps11
        have yy0 := A_0.out.cell (i := 0) (v := .string (zS p.1)) rfl; have yy1 := A_0.out.cell (i := 1) (v := .string (zS p.2)) rfl
        go_wp2_with fail
        refine (VA.out _).mono ?_
        rintro e v0 ⟨rfl, hb⟩
        clear yy0 yy1
        have A_1 : Hid (Blk v0 w.heap.size 23 #[.string (zS p.1), .string (zS p.2)]) := Lib.hid (A_0.out.below hb A_0.out.lt)
        have B_1 : Hid (Blk v0 (w.heap.size + 1) 23 #[.string (zS q.1), .string (zS q.2)]) := Lib.hid (B_0.out.below hb B_0.out.lt)
        have R_1 : Hid (Blk v0 (w.heap.size + 2) 23 #[.string ⟨#[]⟩, .string ⟨#[]⟩]) := Lib.hid (R_0.out.below hb R_0.out.lt)
        have HB_1 : Hid (Below w.heap.size w v0) := Lib.hid (HB_0.out.trans (hb.mono HB_0.out.size))
        clear hb A_0 B_0 R_0 HB_0
        have yy0 := B_1.out.cell (i := 0) (v := .string (zS q.1)) rfl; have yy1 := B_1.out.cell (i := 1) (v := .string (zS q.2)) rfl
        go_wp2_with fail
        refine (VB.out _).mono ?_
        rintro e v1 ⟨rfl, hb⟩
        clear yy0 yy1
        have A_2 : Hid (Blk v1 w.heap.size 23 #[.string (zS p.1), .string (zS p.2)]) := Lib.hid (A_1.out.below hb A_1.out.lt)
        have B_2 : Hid (Blk v1 (w.heap.size + 1) 23 #[.string (zS q.1), .string (zS q.2)]) := Lib.hid (B_1.out.below hb B_1.out.lt)
        have R_2 : Hid (Blk v1 (w.heap.size + 2) 23 #[.string ⟨#[]⟩, .string ⟨#[]⟩]) := Lib.hid (R_1.out.below hb R_1.out.lt)
        have HB_2 : Hid (Below w.heap.size w v1) := Lib.hid (HB_1.out.trans (hb.mono HB_1.out.size))
        clear hb A_1 B_1 R_1 HB_1
        have yy0 := A_2.out.cell (i := 0) (v := .string (zS p.1)) rfl; have yy1 := A_2.out.cell (i := 1) (v := .string (zS p.2)) rfl
        have yy2 := B_2.out.cell (i := 0) (v := .string (zS q.1)) rfl; have yy3 := B_2.out.cell (i := 1) (v := .string (zS q.2)) rfl
        go_wp2_with fail
        refine (M1.out _).mono ?_
        rintro e v2 ⟨rfl, hb⟩
        clear yy0 yy1 yy2 yy3
        have A_3 : Hid (Blk v2 w.heap.size 23 #[.string (zS p.1), .string (zS p.2)]) := Lib.hid (A_2.out.below hb A_2.out.lt)
        have B_3 : Hid (Blk v2 (w.heap.size + 1) 23 #[.string (zS q.1), .string (zS q.2)]) := Lib.hid (B_2.out.below hb B_2.out.lt)
        have R_3 : Hid (Blk v2 (w.heap.size + 2) 23 #[.string ⟨#[]⟩, .string ⟨#[]⟩]) := Lib.hid (R_2.out.below hb R_2.out.lt)
        have HB_3 : Hid (Below w.heap.size w v2) := Lib.hid (HB_2.out.trans (hb.mono HB_2.out.size))
        clear hb A_2 B_2 R_2 HB_2
        have yy0 := A_3.out.cell (i := 0) (v := .string (zS p.1)) rfl; have yy1 := A_3.out.cell (i := 1) (v := .string (zS p.2)) rfl
        have yy2 := B_3.out.cell (i := 0) (v := .string (zS q.1)) rfl; have yy3 := B_3.out.cell (i := 1) (v := .string (zS q.2)) rfl
        go_wp2_with fail
        refine (M2.out _).mono ?_
        rintro e v3 ⟨rfl, hb⟩
        clear yy0 yy1 yy2 yy3
        have A_4 : Hid (Blk v3 w.heap.size 23 #[.string (zS p.1), .string (zS p.2)]) := Lib.hid (A_3.out.below hb A_3.out.lt)
        have B_4 : Hid (Blk v3 (w.heap.size + 1) 23 #[.string (zS q.1), .string (zS q.2)]) := Lib.hid (B_3.out.below hb B_3.out.lt)
        have R_4 : Hid (Blk v3 (w.heap.size + 2) 23 #[.string ⟨#[]⟩, .string ⟨#[]⟩]) := Lib.hid (R_3.out.below hb R_3.out.lt)
        have HB_4 : Hid (Below w.heap.size w v3) := Lib.hid (HB_3.out.trans (hb.mono HB_3.out.size))
        clear hb A_3 B_3 R_3 HB_3
        have x0 := R_4.out.cell (i := 0) (v := .string ⟨#[]⟩) rfl; have x1 := R_4.out.cell (i := 1) (v := .string ⟨#[]⟩) rfl
        have f0 := R_4.out.frozen 0; have f1 := R_4.out.frozen 1
        obtain ⟨r0, r1⟩ := R_4.out.two (u := .string ⟨#[]⟩) (v := .string ⟨#[]⟩)
        have RR0 := Lib.hid r0; have RR1 := Lib.hid r1; clear r0 r1
        go_wp2_with fail
        have r0 := RR0.out; have r1 := RR1.out
        exact bodyPost_ret (v := .tuple #[.agg #[.string ⟨#[]⟩, .string ⟨#[]⟩], .int .i64 40]) (by simp [results, Tryz.results11, go_sem, r0, r1]) rfl ⟨rfl, (HB_4.out.setCell (p := ⟨(w.heap.size + 2), 0, none⟩) (by show w.heap.size ≤ (w.heap.size + 2); omega) _).setCell (p := ⟨(w.heap.size + 2), 1, none⟩) (by show w.heap.size ≤ (w.heap.size + 2); omega) _⟩
      · rename_i n
        have M1 : Hid (∀ W, Calls Tryz.prog 37 #[.string (zS p.1), .string (zS q.1)] W fun e w' => e = .returned (.tuple #[.string (zS n), .int .i64 0]) ∧ Below W.heap.size W w') := fun W => qmul_z b1 b3 W hx
        have M2 : Hid (∀ W, Calls Tryz.prog 37 #[.string (zS p.2), .string (zS q.2)] W fun e w' => e = .returned (.tuple #[.string ⟨#[]⟩, .int .i64 30]) ∧ Below W.heap.size W w') := fun W => qmul_z b2 b4 W hd
        clear hx hd b1 b2 b3 b4 p3 q3
        have A_0 : Hid (Blk (((w.alloc (.cells #[.string (zS p.1), .string (zS p.2)] 23)).alloc (.cells #[.string (zS q.1), .string (zS q.2)] 23)).alloc (.cells #[.string ⟨#[]⟩, .string ⟨#[]⟩] 23)) w.heap.size 23 #[.string (zS p.1), .string (zS p.2)]) := allocs_blk [(#[.string (zS p.1), .string (zS p.2)], 23), (#[.string (zS q.1), .string (zS q.2)], 23), (#[.string ⟨#[]⟩, .string ⟨#[]⟩], 23)] w 0 _ rfl
        have B_0 : Hid (Blk (((w.alloc (.cells #[.string (zS p.1), .string (zS p.2)] 23)).alloc (.cells #[.string (zS q.1), .string (zS q.2)] 23)).alloc (.cells #[.string ⟨#[]⟩, .string ⟨#[]⟩] 23)) (w.heap.size + 1) 23 #[.string (zS q.1), .string (zS q.2)]) := allocs_blk [(#[.string (zS p.1), .string (zS p.2)], 23), (#[.string (zS q.1), .string (zS q.2)], 23), (#[.string ⟨#[]⟩, .string ⟨#[]⟩], 23)] w 1 _ rfl
        have R_0 : Hid (Blk (((w.alloc (.cells #[.string (zS p.1), .string (zS p.2)] 23)).alloc (.cells #[.string (zS q.1), .string (zS q.2)] 23)).alloc (.cells #[.string ⟨#[]⟩, .string ⟨#[]⟩] 23)) (w.heap.size + 2) 23 #[.string ⟨#[]⟩, .string ⟨#[]⟩]) := allocs_blk [(#[.string (zS p.1), .string (zS p.2)], 23), (#[.string (zS q.1), .string (zS q.2)], 23), (#[.string ⟨#[]⟩, .string ⟨#[]⟩], 23)] w 2 _ rfl
        have HB_0 : Hid (Below w.heap.size w (((w.alloc (.cells #[.string (zS p.1), .string (zS p.2)] 23)).alloc (.cells #[.string (zS q.1), .string (zS q.2)] 23)).alloc (.cells #[.string ⟨#[]⟩, .string ⟨#[]⟩] 23))) := allocs_below [(#[.string (zS p.1), .string (zS p.2)], 23), (#[.string (zS q.1), .string (zS q.2)], 23), (#[.string ⟨#[]⟩, .string ⟨#[]⟩], 23)] w (Below.refl w.heap.size w) (Nat.le_refl _)
        go_enter Tryz.func11, Tryz.ntmps11
        have yy0 := A_0.out.cell (i := 0) (v := .string (zS p.1)) rfl; have yy1 := A_0.out.cell (i := 1) (v := .string (zS p.2)) rfl
        go_wp2_with fail
        refine (VA.out _).mono ?_
        rintro e v0 ⟨rfl, hb⟩
        clear yy0 yy1
        have A_1 : Hid (Blk v0 w.heap.size 23 #[.string (zS p.1), .string (zS p.2)]) := Lib.hid (A_0.out.below hb A_0.out.lt)
        have B_1 : Hid (Blk v0 (w.heap.size + 1) 23 #[.string (zS q.1), .string (zS q.2)]) := Lib.hid (B_0.out.below hb B_0.out.lt)
        have R_1 : Hid (Blk v0 (w.heap.size + 2) 23 #[.string ⟨#[]⟩, .string ⟨#[]⟩]) := Lib.hid (R_0.out.below hb R_0.out.lt)
        have HB_1 : Hid (Below w.heap.size w v0) := Lib.hid (HB_0.out.trans (hb.mono HB_0.out.size))
        clear hb A_0 B_0 R_0 HB_0
        have yy0 := B_1.out.cell (i := 0) (v := .string (zS q.1)) rfl; have yy1 := B_1.out.cell (i := 1) (v := .string (zS q.2)) rfl
        go_wp2_with fail
        refine (VB.out _).mono ?_
        rintro e v1 ⟨rfl, hb⟩
        clear yy0 yy1
        have A_2 : Hid (Blk v1 w.heap.size 23 #[.string (zS p.1), .string (zS p.2)]) := Lib.hid (A_1.out.below hb A_1.out.lt)
        have B_2 : Hid (Blk v1 (w.heap.size + 1) 23 #[.string (zS q.1), .string (zS q.2)]) := Lib.hid (B_1.out.below hb B_1.out.lt)
        have R_2 : Hid (Blk v1 (w.heap.size + 2) 23 #[.string ⟨#[]⟩, .string ⟨#[]⟩]) := Lib.hid (R_1.out.below hb R_1.out.lt)
        have HB_2 : Hid (Below w.heap.size w v1) := Lib.hid (HB_1.out.trans (hb.mono HB_1.out.size))
        clear hb A_1 B_1 R_1 HB_1
        have yy0 := A_2.out.cell (i := 0) (v := .string (zS p.1)) rfl; have yy1 := A_2.out.cell (i := 1) (v := .string (zS p.2)) rfl
        have yy2 := B_2.out.cell (i := 0) (v := .string (zS q.1)) rfl; have yy3 := B_2.out.cell (i := 1) (v := .string (zS q.2)) rfl
        go_wp2_with fail
        refine (M1.out _).mono ?_
        rintro e v2 ⟨rfl, hb⟩
        clear yy0 yy1 yy2 yy3
        have A_3 : Hid (Blk v2 w.heap.size 23 #[.string (zS p.1), .string (zS p.2)]) := Lib.hid (A_2.out.below hb A_2.out.lt)
        have B_3 : Hid (Blk v2 (w.heap.size + 1) 23 #[.string (zS q.1), .string (zS q.2)]) := Lib.hid (B_2.out.below hb B_2.out.lt)
        have R_3 : Hid (Blk v2 (w.heap.size + 2) 23 #[.string ⟨#[]⟩, .string ⟨#[]⟩]) := Lib.hid (R_2.out.below hb R_2.out.lt)
        have HB_3 : Hid (Below w.heap.size w v2) := Lib.hid (HB_2.out.trans (hb.mono HB_2.out.size))
        clear hb A_2 B_2 R_2 HB_2
        have yy0 := A_3.out.cell (i := 0) (v := .string (zS p.1)) rfl; have yy1 := A_3.out.cell (i := 1) (v := .string (zS p.2)) rfl
        have yy2 := B_3.out.cell (i := 0) (v := .string (zS q.1)) rfl; have yy3 := B_3.out.cell (i := 1) (v := .string (zS q.2)) rfl
        go_wp2_with fail
        refine (M2.out _).mono ?_
        rintro e v3 ⟨rfl, hb⟩
        clear yy0 yy1 yy2 yy3
        have A_4 : Hid (Blk v3 w.heap.size 23 #[.string (zS p.1), .string (zS p.2)]) := Lib.hid (A_3.out.below hb A_3.out.lt)
        have B_4 : Hid (Blk v3 (w.heap.size + 1) 23 #[.string (zS q.1), .string (zS q.2)]) := Lib.hid (B_3.out.below hb B_3.out.lt)
        have R_4 : Hid (Blk v3 (w.heap.size + 2) 23 #[.string ⟨#[]⟩, .string ⟨#[]⟩]) := Lib.hid (R_3.out.below hb R_3.out.lt)
        have HB_4 : Hid (Below w.heap.size w v3) := Lib.hid (HB_3.out.trans (hb.mono HB_3.out.size))
        clear hb A_3 B_3 R_3 HB_3
        have x0 := R_4.out.cell (i := 0) (v := .string ⟨#[]⟩) rfl; have x1 := R_4.out.cell (i := 1) (v := .string ⟨#[]⟩) rfl
        have f0 := R_4.out.frozen 0; have f1 := R_4.out.frozen 1
        obtain ⟨r0, r1⟩ := R_4.out.two (u := .string ⟨#[]⟩) (v := .string ⟨#[]⟩)
        have RR0 := Lib.hid r0; have RR1 := Lib.hid r1; clear r0 r1
        go_wp2_with fail
        have r0 := RR0.out; have r1 := RR1.out
        exact bodyPost_ret (v := .tuple #[.agg #[.string ⟨#[]⟩, .string ⟨#[]⟩], .int .i64 40]) (by simp [results, Tryz.results11, go_sem, r0, r1]) rfl ⟨rfl, (HB_4.out.setCell (p := ⟨(w.heap.size + 2), 0, none⟩) (by show w.heap.size ≤ (w.heap.size + 2); omega) _).setCell (p := ⟨(w.heap.size + 2), 1, none⟩) (by show w.heap.size ≤ (w.heap.size + 2); omega) _⟩
      · rename_i n d
        have M1 : Hid (∀ W, Calls Tryz.prog 37 #[.string (zS p.1), .string (zS q.1)] W fun e w' => e = .returned (.tuple #[.string (zS n), .int .i64 0]) ∧ Below W.heap.size W w') := fun W => qmul_z b1 b3 W hx
        have M2 : Hid (∀ W, Calls Tryz.prog 37 #[.string (zS p.2), .string (zS q.2)] W fun e w' => e = .returned (.tuple #[.string (zS d), .int .i64 0]) ∧ Below W.heap.size W w') := fun W => qmul_z b2 b4 W hd
        have hm := fun W => rmake_z (lim_abs hx).2 (lim_abs hd).2 W
        generalize mk2 (some n) (some d) = r at *
        have MK := Lib.hid hm; clear hm
        clear hx hd b1 b2 b3 b4 p3 q3
        have A_0 : Hid (Blk (((w.alloc (.cells #[.string (zS p.1), .string (zS p.2)] 23)).alloc (.cells #[.string (zS q.1), .string (zS q.2)] 23)).alloc (.cells #[.string ⟨#[]⟩, .string ⟨#[]⟩] 23)) w.heap.size 23 #[.string (zS p.1), .string (zS p.2)]) := allocs_blk [(#[.string (zS p.1), .string (zS p.2)], 23), (#[.string (zS q.1), .string (zS q.2)], 23), (#[.string ⟨#[]⟩, .string ⟨#[]⟩], 23)] w 0 _ rfl
        have B_0 : Hid (Blk (((w.alloc (.cells #[.string (zS p.1), .string (zS p.2)] 23)).alloc (.cells #[.string (zS q.1), .string (zS q.2)] 23)).alloc (.cells #[.string ⟨#[]⟩, .string ⟨#[]⟩] 23)) (w.heap.size + 1) 23 #[.string (zS q.1), .string (zS q.2)]) := allocs_blk [(#[.string (zS p.1), .string (zS p.2)], 23), (#[.string (zS q.1), .string (zS q.2)], 23), (#[.string ⟨#[]⟩, .string ⟨#[]⟩], 23)] w 1 _ rfl
        have R_0 : Hid (Blk (((w.alloc (.cells #[.string (zS p.1), .string (zS p.2)] 23)).alloc (.cells #[.string (zS q.1), .string (zS q.2)] 23)).alloc (.cells #[.string ⟨#[]⟩, .string ⟨#[]⟩] 23)) (w.heap.size + 2) 23 #[.string ⟨#[]⟩, .string ⟨#[]⟩]) := allocs_blk [(#[.string (zS p.1), .string (zS p.2)], 23), (#[.string (zS q.1), .string (zS q.2)], 23), (#[.string ⟨#[]⟩, .string ⟨#[]⟩], 23)] w 2 _ rfl
        have HB_0 : Hid (Below w.heap.size w (((w.alloc (.cells #[.string (zS p.1), .string (zS p.2)] 23)).alloc (.cells #[.string (zS q.1), .string (zS q.2)] 23)).alloc (.cells #[.string ⟨#[]⟩, .string ⟨#[]⟩] 23))) := allocs_below [(#[.string (zS p.1), .string (zS p.2)], 23), (#[.string (zS q.1), .string (zS q.2)], 23), (#[.string ⟨#[]⟩, .string ⟨#[]⟩], 23)] w (Below.refl w.heap.size w) (Nat.le_refl _)
        go_enter Tryz.func11, Tryz.ntmps11
        have yy0 := A_0.out.cell (i := 0) (v := .string (zS p.1)) rfl; have yy1 := A_0.out.cell (i := 1) (v := .string (zS p.2)) rfl
        go_wp2_with fail
        refine (VA.out _).mono ?_
        rintro e v0 ⟨rfl, hb⟩
        clear yy0 yy1
        have A_1 : Hid (Blk v0 w.heap.size 23 #[.string (zS p.1), .string (zS p.2)]) := Lib.hid (A_0.out.below hb A_0.out.lt)
        have B_1 : Hid (Blk v0 (w.heap.size + 1) 23 #[.string (zS q.1), .string (zS q.2)]) := Lib.hid (B_0.out.below hb B_0.out.lt)
        have R_1 : Hid (Blk v0 (w.heap.size + 2) 23 #[.string ⟨#[]⟩, .string ⟨#[]⟩]) := Lib.hid (R_0.out.below hb R_0.out.lt)
        have HB_1 : Hid (Below w.heap.size w v0) := Lib.hid (HB_0.out.trans (hb.mono HB_0.out.size))
        clear hb A_0 B_0 R_0 HB_0
        have yy0 := B_1.out.cell (i := 0) (v := .string (zS q.1)) rfl; have yy1 := B_1.out.cell (i := 1) (v := .string (zS q.2)) rfl
        go_wp2_with fail
        refine (VB.out _).mono ?_
        rintro e v1 ⟨rfl, hb⟩
        clear yy0 yy1
        have A_2 : Hid (Blk v1 w.heap.size 23 #[.string (zS p.1), .string (zS p.2)]) := Lib.hid (A_1.out.below hb A_1.out.lt)
        have B_2 : Hid (Blk v1 (w.heap.size + 1) 23 #[.string (zS q.1), .string (zS q.2)]) := Lib.hid (B_1.out.below hb B_1.out.lt)
        have R_2 : Hid (Blk v1 (w.heap.size + 2) 23 #[.string ⟨#[]⟩, .string ⟨#[]⟩]) := Lib.hid (R_1.out.below hb R_1.out.lt)
        have HB_2 : Hid (Below w.heap.size w v1) := Lib.hid (HB_1.out.trans (hb.mono HB_1.out.size))
        clear hb A_1 B_1 R_1 HB_1
        have yy0 := A_2.out.cell (i := 0) (v := .string (zS p.1)) rfl; have yy1 := A_2.out.cell (i := 1) (v := .string (zS p.2)) rfl
        have yy2 := B_2.out.cell (i := 0) (v := .string (zS q.1)) rfl; have yy3 := B_2.out.cell (i := 1) (v := .string (zS q.2)) rfl
        go_wp2_with fail
        refine (M1.out _).mono ?_
        rintro e v2 ⟨rfl, hb⟩
        clear yy0 yy1 yy2 yy3
        have A_3 : Hid (Blk v2 w.heap.size 23 #[.string (zS p.1), .string (zS p.2)]) := Lib.hid (A_2.out.below hb A_2.out.lt)
        have B_3 : Hid (Blk v2 (w.heap.size + 1) 23 #[.string (zS q.1), .string (zS q.2)]) := Lib.hid (B_2.out.below hb B_2.out.lt)
        have R_3 : Hid (Blk v2 (w.heap.size + 2) 23 #[.string ⟨#[]⟩, .string ⟨#[]⟩]) := Lib.hid (R_2.out.below hb R_2.out.lt)
        have HB_3 : Hid (Below w.heap.size w v2) := Lib.hid (HB_2.out.trans (hb.mono HB_2.out.size))
        clear hb A_2 B_2 R_2 HB_2
        have yy0 := A_3.out.cell (i := 0) (v := .string (zS p.1)) rfl; have yy1 := A_3.out.cell (i := 1) (v := .string (zS p.2)) rfl
        have yy2 := B_3.out.cell (i := 0) (v := .string (zS q.1)) rfl; have yy3 := B_3.out.cell (i := 1) (v := .string (zS q.2)) rfl
        go_wp2_with fail
        refine (M2.out _).mono ?_
        rintro e v3 ⟨rfl, hb⟩
        clear yy0 yy1 yy2 yy3
        have A_4 : Hid (Blk v3 w.heap.size 23 #[.string (zS p.1), .string (zS p.2)]) := Lib.hid (A_3.out.below hb A_3.out.lt)
        have B_4 : Hid (Blk v3 (w.heap.size + 1) 23 #[.string (zS q.1), .string (zS q.2)]) := Lib.hid (B_3.out.below hb B_3.out.lt)
        have R_4 : Hid (Blk v3 (w.heap.size + 2) 23 #[.string ⟨#[]⟩, .string ⟨#[]⟩]) := Lib.hid (R_3.out.below hb R_3.out.lt)
        have HB_4 : Hid (Below w.heap.size w v3) := Lib.hid (HB_3.out.trans (hb.mono HB_3.out.size))
        clear hb A_3 B_3 R_3 HB_3
        go_wp2_with fail
        refine (MK.out _).mono ?_
        rintro e v4 ⟨rfl, hb⟩
        have A_5 : Hid (Blk v4 w.heap.size 23 #[.string (zS p.1), .string (zS p.2)]) := Lib.hid (A_4.out.below hb A_4.out.lt)
        have B_5 : Hid (Blk v4 (w.heap.size + 1) 23 #[.string (zS q.1), .string (zS q.2)]) := Lib.hid (B_4.out.below hb B_4.out.lt)
        have R_5 : Hid (Blk v4 (w.heap.size + 2) 23 #[.string ⟨#[]⟩, .string ⟨#[]⟩]) := Lib.hid (R_4.out.below hb R_4.out.lt)
        have HB_5 : Hid (Below w.heap.size w v4) := Lib.hid (HB_4.out.trans (hb.mono HB_4.out.size))
        clear hb A_4 B_4 R_4 HB_4
        have x0 := R_5.out.cell (i := 0) (v := .string ⟨#[]⟩) rfl; have x1 := R_5.out.cell (i := 1) (v := .string ⟨#[]⟩) rfl
        have f0 := R_5.out.frozen 0; have f1 := R_5.out.frozen 1
        obtain ⟨r0, r1⟩ := R_5.out.two (u := .string (qN r)) (v := .string (qD r))
        have RR0 := Lib.hid r0; have RR1 := Lib.hid r1; clear r0 r1
        go_wp2_with fail
        have r0 := RR0.out; have r1 := RR1.out
        exact bodyPost_ret (v := .tuple #[.agg #[.string (qN r), .string (qD r)], .int .i64 (qE r)]) (by simp [results, Tryz.results11, go_sem, r0, r1]) rfl ⟨rfl, (HB_5.out.setCell (p := ⟨(w.heap.size + 2), 0, none⟩) (by show w.heap.size ≤ (w.heap.size + 2); omega) _).setCell (p := ⟨(w.heap.size + 2), 1, none⟩) (by show w.heap.size ≤ (w.heap.size + 2); omega) _⟩
set_option maxRecDepth 100000 in
set_option maxHeartbeats 4000000 in
theorem rdiv_any (an ad bn bd : ByteArray) (w : World) (ha : an.size ≤ 9000000000000000000 ∧ ad.size ≤ 9000000000000000000) (hb : bn.size ≤ 9000000000000000000 ∧ bd.size ≤ 9000000000000000000) :
    Calls Tryz.prog 12 #[.agg #[.string an, .string ad], .agg #[.string bn, .string bd]] w fun e w' => (e = .returned (.tuple #[.agg #[.string (qN (divQ (rdQ an.data.toList ad.data.toList) (rdQ bn.data.toList bd.data.toList))), .string (qD (divQ (rdQ an.data.toList ad.data.toList) (rdQ bn.data.toList bd.data.toList)))], .int .i64 (qE (divQ (rdQ an.data.toList ad.data.toList) (rdQ bn.data.toList bd.data.toList)))]) ∧ Below w.heap.size w w') := by
  have hva := fun W => rvalid_any an ad W ha.1 ha.2
  have hvb := fun W => rvalid_any bn bd W hb.1 hb.2
  unfold fV at hva hvb
  cases hp : rdQ an.data.toList ad.data.toList with
  | none =>
    rw [hp] at hva
    obtain ⟨vb, hvb2⟩ : ∃ v, v = (rdQ bn.data.toList bd.data.toList).isSome := ⟨_, rfl⟩
    rw [← hvb2] at hvb
    have VA := Lib.hid hva; have VB := Lib.hid hvb
    have hcase : rdQ bn.data.toList bd.data.toList = rdQ bn.data.toList bd.data.toList := rfl
    generalize rdQ bn.data.toList bd.data.toList = Q
    clear hva hvb hvb2 hp ha hb hcase
    have A_0 : Hid (Blk (((w.alloc (.cells #[.string an, .string ad] 23)).alloc (.cells #[.string bn, .string bd] 23)).alloc (.cells #[.string ⟨#[]⟩, .string ⟨#[]⟩] 23)) w.heap.size 23 #[.string an, .string ad]) := allocs_blk [(#[.string an, .string ad], 23), (#[.string bn, .string bd], 23), (#[.string ⟨#[]⟩, .string ⟨#[]⟩], 23)] w 0 _ rfl
    have B_0 : Hid (Blk (((w.alloc (.cells #[.string an, .string ad] 23)).alloc (.cells #[.string bn, .string bd] 23)).alloc (.cells #[.string ⟨#[]⟩, .string ⟨#[]⟩] 23)) (w.heap.size + 1) 23 #[.string bn, .string bd]) := allocs_blk [(#[.string an, .string ad], 23), (#[.string bn, .string bd], 23), (#[.string ⟨#[]⟩, .string ⟨#[]⟩], 23)] w 1 _ rfl
    have R_0 : Hid (Blk (((w.alloc (.cells #[.string an, .string ad] 23)).alloc (.cells #[.string bn, .string bd] 23)).alloc (.cells #[.string ⟨#[]⟩, .string ⟨#[]⟩] 23)) (w.heap.size + 2) 23 #[.string ⟨#[]⟩, .string ⟨#[]⟩]) := allocs_blk [(#[.string an, .string ad], 23), (#[.string bn, .string bd], 23), (#[.string ⟨#[]⟩, .string ⟨#[]⟩], 23)] w 2 _ rfl
    have HB_0 : Hid (Below w.heap.size w (((w.alloc (.cells #[.string an, .string ad] 23)).alloc (.cells #[.string bn, .string bd] 23)).alloc (.cells #[.string ⟨#[]⟩, .string ⟨#[]⟩] 23))) := allocs_below [(#[.string an, .string ad], 23), (#[.string bn, .string bd], 23), (#[.string ⟨#[]⟩, .string ⟨#[]⟩], 23)] w (Below.refl w.heap.size w) (Nat.le_refl _)
    go_enter Tryz.func12, Tryz.ntmps12
    have yy0 := A_0.out.cell (i := 0) (v := .string an) rfl; have yy1 := A_0.out.cell (i := 1) (v := .string ad) rfl
    go_wp2_with fail
    refine (VA.out _).mono ?_
    rintro e v0 ⟨rfl, hb⟩
    clear yy0 yy1
    have A_1 : Hid (Blk v0 w.heap.size 23 #[.string an, .string ad]) := Lib.hid (A_0.out.below hb A_0.out.lt)
    have B_1 : Hid (Blk v0 (w.heap.size + 1) 23 #[.string bn, .string bd]) := Lib.hid (B_0.out.below hb B_0.out.lt)
    have R_1 : Hid (Blk v0 (w.heap.size + 2) 23 #[.string ⟨#[]⟩, .string ⟨#[]⟩]) := Lib.hid (R_0.out.below hb R_0.out.lt)
    have HB_1 : Hid (Below w.heap.size w v0) := Lib.hid (HB_0.out.trans (hb.mono HB_0.out.size))
    clear hb A_0 B_0 R_0 HB_0
    have yy0 := B_1.out.cell (i := 0) (v := .string bn) rfl; have yy1 := B_1.out.cell (i := 1) (v := .string bd) rfl
    go_wp2_with fail
    refine (VB.out _).mono ?_
    rintro e v1 ⟨rfl, hb⟩
    clear yy0 yy1
    have A_2 : Hid (Blk v1 w.heap.size 23 #[.string an, .string ad]) := Lib.hid (A_1.out.below hb A_1.out.lt)
    have B_2 : Hid (Blk v1 (w.heap.size + 1) 23 #[.string bn, .string bd]) := Lib.hid (B_1.out.below hb B_1.out.lt)
    have R_2 : Hid (Blk v1 (w.heap.size + 2) 23 #[.string ⟨#[]⟩, .string ⟨#[]⟩]) := Lib.hid (R_1.out.below hb R_1.out.lt)
    have HB_2 : Hid (Below w.heap.size w v1) := Lib.hid (HB_1.out.trans (hb.mono HB_1.out.size))
    clear hb A_1 B_1 R_1 HB_1
    have x0 := R_2.out.cell (i := 0) (v := .string ⟨#[]⟩) rfl; have x1 := R_2.out.cell (i := 1) (v := .string ⟨#[]⟩) rfl
    have f0 := R_2.out.frozen 0; have f1 := R_2.out.frozen 1
    obtain ⟨r0, r1⟩ := R_2.out.two (u := .string ⟨#[]⟩) (v := .string ⟨#[]⟩)
    have RR0 := Lib.hid r0; have RR1 := Lib.hid r1; clear r0 r1
    go_wp2_with fail
    have r0 := RR0.out; have r1 := RR1.out
    exact bodyPost_ret (v := .tuple #[.agg #[.string ⟨#[]⟩, .string ⟨#[]⟩], .int .i64 40]) (by simp [results, Tryz.results12, go_sem, r0, r1]) rfl ⟨rfl, (HB_2.out.setCell (p := ⟨(w.heap.size + 2), 0, none⟩) (by show w.heap.size ≤ (w.heap.size + 2); omega) _).setCell (p := ⟨(w.heap.size + 2), 1, none⟩) (by show w.heap.size ≤ (w.heap.size + 2); omega) _⟩
  | some p =>
    rw [hp] at hva
    obtain ⟨p1, p2, p3⟩ := rdQ_some hp
    cases hq : rdQ bn.data.toList bd.data.toList with
    | none =>
      rw [hq] at hvb
      have VA := Lib.hid hva; have VB := Lib.hid hvb
      clear hva hvb hp hq ha hb p1 p2 p3
      have A_0 : Hid (Blk (((w.alloc (.cells #[.string an, .string ad] 23)).alloc (.cells #[.string bn, .string bd] 23)).alloc (.cells #[.string ⟨#[]⟩, .string ⟨#[]⟩] 23)) w.heap.size 23 #[.string an, .string ad]) := allocs_blk [(#[.string an, .string ad], 23), (#[.string bn, .string bd], 23), (#[.string ⟨#[]⟩, .string ⟨#[]⟩], 23)] w 0 _ rfl
      have B_0 : Hid (Blk (((w.alloc (.cells #[.string an, .string ad] 23)).alloc (.cells #[.string bn, .string bd] 23)).alloc (.cells #[.string ⟨#[]⟩, .string ⟨#[]⟩] 23)) (w.heap.size + 1) 23 #[.string bn, .string bd]) := allocs_blk [(#[.string an, .string ad], 23), (#[.string bn, .string bd], 23), (#[.string ⟨#[]⟩, .string ⟨#[]⟩], 23)] w 1 _ rfl
      have R_0 : Hid (Blk (((w.alloc (.cells #[.string an, .string ad] 23)).alloc (.cells #[.string bn, .string bd] 23)).alloc (.cells #[.string ⟨#[]⟩, .string ⟨#[]⟩] 23)) (w.heap.size + 2) 23 #[.string ⟨#[]⟩, .string ⟨#[]⟩]) := allocs_blk [(#[.string an, .string ad], 23), (#[.string bn, .string bd], 23), (#[.string ⟨#[]⟩, .string ⟨#[]⟩], 23)] w 2 _ rfl
      have HB_0 : Hid (Below w.heap.size w (((w.alloc (.cells #[.string an, .string ad] 23)).alloc (.cells #[.string bn, .string bd] 23)).alloc (.cells #[.string ⟨#[]⟩, .string ⟨#[]⟩] 23))) := allocs_below [(#[.string an, .string ad], 23), (#[.string bn, .string bd], 23), (#[.string ⟨#[]⟩, .string ⟨#[]⟩], 23)] w (Below.refl w.heap.size w) (Nat.le_refl _)
      go_enter Tryz.func12, Tryz.ntmps12
      have yy0 := A_0.out.cell (i := 0) (v := .string an) rfl; have yy1 := A_0.out.cell (i := 1) (v := .string ad) rfl
      go_wp2_with fail
      refine (VA.out _).mono ?_
      rintro e v0 ⟨rfl, hb⟩
      clear yy0 yy1
      have A_1 : Hid (Blk v0 w.heap.size 23 #[.string an, .string ad]) := Lib.hid (A_0.out.below hb A_0.out.lt)
      have B_1 : Hid (Blk v0 (w.heap.size + 1) 23 #[.string bn, .string bd]) := Lib.hid (B_0.out.below hb B_0.out.lt)
      have R_1 : Hid (Blk v0 (w.heap.size + 2) 23 #[.string ⟨#[]⟩, .string ⟨#[]⟩]) := Lib.hid (R_0.out.below hb R_0.out.lt)
      have HB_1 : Hid (Below w.heap.size w v0) := Lib.hid (HB_0.out.trans (hb.mono HB_0.out.size))
      clear hb A_0 B_0 R_0 HB_0
      have yy0 := B_1.out.cell (i := 0) (v := .string bn) rfl; have yy1 := B_1.out.cell (i := 1) (v := .string bd) rfl
      go_wp2_with fail
      refine (VB.out _).mono ?_
      rintro e v1 ⟨rfl, hb⟩
      clear yy0 yy1
      have A_2 : Hid (Blk v1 w.heap.size 23 #[.string an, .string ad]) := Lib.hid (A_1.out.below hb A_1.out.lt)
      have B_2 : Hid (Blk v1 (w.heap.size + 1) 23 #[.string bn, .string bd]) := Lib.hid (B_1.out.below hb B_1.out.lt)
      have R_2 : Hid (Blk v1 (w.heap.size + 2) 23 #[.string ⟨#[]⟩, .string ⟨#[]⟩]) := Lib.hid (R_1.out.below hb R_1.out.lt)
      have HB_2 : Hid (Below w.heap.size w v1) := Lib.hid (HB_1.out.trans (hb.mono HB_1.out.size))
      clear hb A_1 B_1 R_1 HB_1
      have x0 := R_2.out.cell (i := 0) (v := .string ⟨#[]⟩) rfl; have x1 := R_2.out.cell (i := 1) (v := .string ⟨#[]⟩) rfl
      have f0 := R_2.out.frozen 0; have f1 := R_2.out.frozen 1
      obtain ⟨r0, r1⟩ := R_2.out.two (u := .string ⟨#[]⟩) (v := .string ⟨#[]⟩)
      have RR0 := Lib.hid r0; have RR1 := Lib.hid r1; clear r0 r1
      go_wp2_with fail
      have r0 := RR0.out; have r1 := RR1.out
      exact bodyPost_ret (v := .tuple #[.agg #[.string ⟨#[]⟩, .string ⟨#[]⟩], .int .i64 40]) (by simp [results, Tryz.results12, go_sem, r0, r1]) rfl ⟨rfl, (HB_2.out.setCell (p := ⟨(w.heap.size + 2), 0, none⟩) (by show w.heap.size ≤ (w.heap.size + 2); omega) _).setCell (p := ⟨(w.heap.size + 2), 1, none⟩) (by show w.heap.size ≤ (w.heap.size + 2); omega) _⟩
    | some q =>
      rw [hq] at hvb
      obtain ⟨q1, q2, q3⟩ := rdQ_some hq
      have e1 := bs_of_rd p1; have e2 := bs_of_rd p2; have e3 := bs_of_rd q1; have e4 := bs_of_rd q2
      have b1 := (rd_some p1).2.1; have b2 := (rd_some p2).2.1; have b3 := (rd_some q1).2.1; have b4 := (rd_some q2).2.1
      subst e1 e2 e3 e4
      have VA := Lib.hid hva; have VB := Lib.hid hvb
      clear hva hvb hp hq ha hb p1 p2 q1 q2
      show Calls _ _ _ _ fun e w' => (e = .returned (.tuple #[.agg #[.string (qN (mk2 (lim (p.1 * q.2)) (lim (p.2 * q.1)))), .string (qD (mk2 (lim (p.1 * q.2)) (lim (p.2 * q.1))))], .int .i64 (qE (mk2 (lim (p.1 * q.2)) (lim (p.2 * q.1))))]) ∧ Below w.heap.size w w')
      cases hx : lim (p.1 * q.2) <;> cases hd : lim (p.2 * q.1)
      · skip
        have M1 : Hid (∀ W, Calls Tryz.prog 37 #[.string (zS p.1), .string (zS q.2)] W fun e w' => e = .returned (.tuple #[.string ⟨#[]⟩, .int .i64 30]) ∧ Below W.heap.size W w') := fun W => qmul_z b1 b4 W hx
        have M2 : Hid (∀ W, Calls Tryz.prog 37 #[.string (zS p.2), .string (zS q.1)] W fun e w' => e = .returned (.tuple #[.string ⟨#[]⟩, .int .i64 30]) ∧ Below W.heap.size W w') := fun W => qmul_z b2 b3 W hd
        clear hx hd b1 b2 b3 b4 p3 q3
        have A_0 : Hid (Blk (((w.alloc (.cells #[.string (zS p.1), .string (zS p.2)] 23)).alloc (.cells #[.string (zS q.1), .string (zS q.2)] 23)).alloc (.cells #[.string ⟨#[]⟩, .string ⟨#[]⟩] 23)) w.heap.size 23 #[.string (zS p.1), .string (zS p.2)]) := allocs_blk [(#[.string (zS p.1), .string (zS p.2)], 23), (#[.string (zS q.1), .string (zS q.2)], 23), (#[.string ⟨#[]⟩, .string ⟨#[]⟩], 23)] w 0 _ rfl
        have B_0 : Hid (Blk (((w.alloc (.cells #[.string (zS p.1), .string (zS p.2)] 23)).alloc (.cells #[.string (zS q.1), .string (zS q.2)] 23)).alloc (.cells #[.string ⟨#[]⟩, .string ⟨#[]⟩] 23)) (w.heap.size + 1) 23 #[.string (zS q.1), .string (zS q.2)]) := allocs_blk [(#[.string (zS p.1), .string (zS p.2)], 23), (#[.string (zS q.1), .string (zS q.2)], 23), (#[.string ⟨#[]⟩, .string ⟨#[]⟩], 23)] w 1 _ rfl
        have R_0 : Hid (Blk (((w.alloc (.cells #[.string (zS p.1), .string (zS p.2)] 23)).alloc (.cells #[.string (zS q.1), .string (zS q.2)] 23)).alloc (.cells #[.string ⟨#[]⟩, .string ⟨#[]⟩] 23)) (w.heap.size + 2) 23 #[.string ⟨#[]⟩, .string ⟨#[]⟩]) := allocs_blk [(#[.string (zS p.1), .string (zS p.2)], 23), (#[.string (zS q.1), .string (zS q.2)], 23), (#[.string ⟨#[]⟩, .string ⟨#[]⟩], 23)] w 2 _ rfl
        have HB_0 : Hid (Below w.heap.size w (((w.alloc (.cells #[.string (zS p.1), .string (zS p.2)] 23)).alloc (.cells #[.string (zS q.1), .string (zS q.2)] 23)).alloc (.cells #[.string ⟨#[]⟩, .string ⟨#[]⟩] 23))) := allocs_below [(#[.string (zS p.1), .string (zS p.2)], 23), (#[.string (zS q.1), .string (zS q.2)], 23), (#[.string ⟨#[]⟩, .string ⟨#[]⟩], 23)] w (Below.refl w.heap.size w) (Nat.le_refl _)
        go_enter Tryz.func12, Tryz.ntmps12
        have yy0 := A_0.out.cell (i := 0) (v := .string (zS p.1)) rfl; have yy1 := A_0.out.cell (i := 1) (v := .string (zS p.2)) rfl
        go_wp2_with fail
        refine (VA.out _).mono ?_
        rintro e v0 ⟨rfl, hb⟩
        clear yy0 yy1
        have A_1 : Hid (Blk v0 w.heap.size 23 #[.string (zS p.1), .string (zS p.2)]) := Lib.hid (A_0.out.below hb A_0.out.lt)
        have B_1 : Hid (Blk v0 (w.heap.size + 1) 23 #[.string (zS q.1), .string (zS q.2)]) := Lib.hid (B_0.out.below hb B_0.out.lt)
        have R_1 : Hid (Blk v0 (w.heap.size + 2) 23 #[.string ⟨#[]⟩, .string ⟨#[]⟩]) := Lib.hid (R_0.out.below hb R_0.out.lt)
        have HB_1 : Hid (Below w.heap.size w v0) := Lib.hid (HB_0.out.trans (hb.mono HB_0.out.size))
        clear hb A_0 B_0 R_0 HB_0
        have yy0 := B_1.out.cell (i := 0) (v := .string (zS q.1)) rfl; have yy1 := B_1.out.cell (i := 1) (v := .string (zS q.2)) rfl
        go_wp2_with fail
        refine (VB.out _).mono ?_
        rintro e v1 ⟨rfl, hb⟩
        clear yy0 yy1
        have A_2 : Hid (Blk v1 w.heap.size 23 #[.string (zS p.1), .string (zS p.2)]) := Lib.hid (A_1.out.below hb A_1.out.lt)
        have B_2 : Hid (Blk v1 (w.heap.size + 1) 23 #[.string (zS q.1), .string (zS q.2)]) := Lib.hid (B_1.out.below hb B_1.out.lt)
        have R_2 : Hid (Blk v1 (w.heap.size + 2) 23 #[.string ⟨#[]⟩, .string ⟨#[]⟩]) := Lib.hid (R_1.out.below hb R_1.out.lt)
        have HB_2 : Hid (Below w.heap.size w v1) := Lib.hid (HB_1.out.trans (hb.mono HB_1.out.size))
        clear hb A_1 B_1 R_1 HB_1
        have yy0 := A_2.out.cell (i := 0) (v := .string (zS p.1)) rfl; have yy1 := A_2.out.cell (i := 1) (v := .string (zS p.2)) rfl
        have yy2 := B_2.out.cell (i := 0) (v := .string (zS q.1)) rfl; have yy3 := B_2.out.cell (i := 1) (v := .string (zS q.2)) rfl
        go_wp2_with fail
        refine (M1.out _).mono ?_
        rintro e v2 ⟨rfl, hb⟩
        clear yy0 yy1 yy2 yy3
        have A_3 : Hid (Blk v2 w.heap.size 23 #[.string (zS p.1), .string (zS p.2)]) := Lib.hid (A_2.out.below hb A_2.out.lt)
        have B_3 : Hid (Blk v2 (w.heap.size + 1) 23 #[.string (zS q.1), .string (zS q.2)]) := Lib.hid (B_2.out.below hb B_2.out.lt)
        have R_3 : Hid (Blk v2 (w.heap.size + 2) 23 #[.string ⟨#[]⟩, .string ⟨#[]⟩]) := Lib.hid (R_2.out.below hb R_2.out.lt)
        have HB_3 : Hid (Below w.heap.size w v2) := Lib.hid (HB_2.out.trans (hb.mono HB_2.out.size))
        clear hb A_2 B_2 R_2 HB_2
        have yy0 := A_3.out.cell (i := 0) (v := .string (zS p.1)) rfl; have yy1 := A_3.out.cell (i := 1) (v := .string (zS p.2)) rfl
        have yy2 := B_3.out.cell (i := 0) (v := .string (zS q.1)) rfl; have yy3 := B_3.out.cell (i := 1) (v := .string (zS q.2)) rfl
        go_wp2_with fail
        refine (M2.out _).mono ?_
        rintro e v3 ⟨rfl, hb⟩
        clear yy0 yy1 yy2 yy3
        have A_4 : Hid (Blk v3 w.heap.size 23 #[.string (zS p.1), .string (zS p.2)]) := Lib.hid (A_3.out.below hb A_3.out.lt)
        have B_4 : Hid (Blk v3 (w.heap.size + 1) 23 #[.string (zS q.1), .string (zS q.2)]) := Lib.hid (B_3.out.below hb B_3.out.lt)
        have R_4 : Hid (Blk v3 (w.heap.size + 2) 23 #[.string ⟨#[]⟩, .string ⟨#[]⟩]) := Lib.hid (R_3.out.below hb R_3.out.lt)
        have HB_4 : Hid (Below w.heap.size w v3) := Lib.hid (HB_3.out.trans (hb.mono HB_3.out.size))
        clear hb A_3 B_3 R_3 HB_3
        have x0 := R_4.out.cell (i := 0) (v := .string ⟨#[]⟩) rfl; have x1 := R_4.out.cell (i := 1) (v := .string ⟨#[]⟩) rfl
        have f0 := R_4.out.frozen 0; have f1 := R_4.out.frozen 1
        obtain ⟨r0, r1⟩ := R_4.out.two (u := .string ⟨#[]⟩) (v := .string ⟨#[]⟩)
        have RR0 := Lib.hid r0; have RR1 := Lib.hid r1; clear r0 r1
        go_wp2_with fail
        have r0 := RR0.out; have r1 := RR1.out
        exact bodyPost_ret (v := .tuple #[.agg #[.string ⟨#[]⟩, .string ⟨#[]⟩], .int .i64 40]) (by simp [results, Tryz.results12, go_sem, r0, r1]) rfl ⟨rfl, (HB_4.out.setCell (p := ⟨(w.heap.size + 2), 0, none⟩) (by show w.heap.size ≤ (w.heap.size + 2); omega) _).setCell (p := ⟨(w.heap.size + 2), 1, none⟩) (by show w.heap.size ≤ (w.heap.size + 2); omega) _⟩
      · rename_i d
        have M1 : Hid (∀ W, Calls Tryz.prog 37 #[.string (zS p.1), .string (zS q.2)] W fun e w' => e = .returned (.tuple #[.string ⟨#[]⟩, .int .i64 30]) ∧ Below W.heap.size W w') := fun W => qmul_z b1 b4 W hx
        have M2 : Hid (∀ W, Calls Tryz.prog 37 #[.string (zS p.2), .string (zS q.1)] W fun e w' => e = .returned (.tuple #[.string (zS d), .int .i64 0]) ∧ Below W.heap.size W w') := fun W => qmul_z b2 b3 W hd
        clear hx hd b1 b2 b3 b4 p3 q3
        have A_0 : Hid (Blk (((w.alloc (.cells #[.string (zS p.1), .string (zS p.2)] 23)).alloc (.cells #[.string (zS q.1), .string (zS q.2)] 23)).alloc (.cells #[.string ⟨#[]⟩, .string ⟨#[]⟩] 23)) w.heap.size 23 #[.string (zS p.1), .string (zS p.2)]) := allocs_blk [(#[.string (zS p.1), .string (zS p.2)], 23), (#[.string (zS q.1), .string (zS q.2)], 23), (#[.string ⟨#[]⟩, .string ⟨#[]⟩], 23)] w 0 _ rfl
        have B_0 : Hid (Blk (((w.alloc (.cells #[.string (zS p.1), .string (zS p.2)] 23)).alloc (.cells #[.string (zS q.1), .string (zS q.2)] 23)).alloc (.cells #[.string ⟨#[]⟩, .string ⟨#[]⟩] 23)) (w.heap.size + 1) 23 #[.string (zS q.1), .string (zS q.2)]) := allocs_blk [(#[.string (zS p.1), .string (zS p.2)], 23), (#[.string (zS q.1), .string (zS q.2)], 23), (#[.string ⟨#[]⟩, .string ⟨#[]⟩], 23)] w 1 _ rfl
        have R_0 : Hid (Blk (((w.alloc (.cells #[.string (zS p.1), .string (zS p.2)] 23)).alloc (.cells #[.string (zS q.1), .string (zS q.2)] 23)).alloc (.cells #[.string ⟨#[]⟩, .string ⟨#[]⟩] 23)) (w.heap.size + 2) 23 #[.string ⟨#[]⟩, .string ⟨#[]⟩]) := allocs_blk [(#[.string (zS p.1), .string (zS p.2)], 23), (#[.string (zS q.1), .string (zS q.2)], 23), (#[.string ⟨#[]⟩, .string ⟨#[]⟩], 23)] w 2 _ rfl
        have HB_0 : Hid (Below w.heap.size w (((w.alloc (.cells #[.string (zS p.1), .string (zS p.2)] 23)).alloc (.cells #[.string (zS q.1), .string (zS q.2)] 23)).alloc (.cells #[.string ⟨#[]⟩, .string ⟨#[]⟩] 23))) := allocs_below [(#[.string (zS p.1), .string (zS p.2)], 23), (#[.string (zS q.1), .string (zS q.2)], 23), (#[.string ⟨#[]⟩, .string ⟨#[]⟩], 23)] w (Below.refl w.heap.size w) (Nat.le_refl _)
        go_enter Tryz.func12, Tryz.ntmps12
        have yy0 := A_0.out.cell (i := 0) (v := .string (zS p.1)) rfl; have yy1 := A_0.out.cell (i := 1) (v := .string (zS p.2)) rfl
        go_wp2_with fail
        refine (VA.out _).mono ?_
        rintro e v0 ⟨rfl, hb⟩
        clear yy0 yy1
        have A_1 : Hid (Blk v0 w.heap.size 23 #[.string (zS p.1), .string (zS p.2)]) := Lib.hid (A_0.out.below hb A_0.out.lt)
        have B_1 : Hid (Blk v0 (w.heap.size + 1) 23 #[.string (zS q.1), .string (zS q.2)]) := Lib.hid (B_0.out.below hb B_0.out.lt)
        have R_1 : Hid (Blk v0 (w.heap.size + 2) 23 #[.string ⟨#[]⟩, .string ⟨#[]⟩]) := Lib.hid (R_0.out.below hb R_0.out.lt)
        have HB_1 : Hid (Below w.heap.size w v0) := Lib.hid (HB_0.out.trans (hb.mono HB_0.out.size))
        clear hb A_0 B_0 R_0 HB_0
        have yy0 := B_1.out.cell (i := 0) (v := .string (zS q.1)) rfl; have yy1 := B_1.out.cell (i := 1) (v := .string (zS q.2)) rfl
        go_wp2_with fail
        refine (VB.out _).mono ?_
        rintro e v1 ⟨rfl, hb⟩
        clear yy0 yy1
        have A_2 : Hid (Blk v1 w.heap.size 23 #[.string (zS p.1), .string (zS p.2)]) := Lib.hid (A_1.out.below hb A_1.out.lt)
        have B_2 : Hid (Blk v1 (w.heap.size + 1) 23 #[.string (zS q.1), .string (zS q.2)]) := Lib.hid (B_1.out.below hb B_1.out.lt)
        have R_2 : Hid (Blk v1 (w.heap.size + 2) 23 #[.string ⟨#[]⟩, .string ⟨#[]⟩]) := Lib.hid (R_1.out.below hb R_1.out.lt)
        have HB_2 : Hid (Below w.heap.size w v1) := Lib.hid (HB_1.out.trans (hb.mono HB_1.out.size))
        clear hb A_1 B_1 R_1 HB_1
        have yy0 := A_2.out.cell (i := 0) (v := .string (zS p.1)) rfl; have yy1 := A_2.out.cell (i := 1) (v := .string (zS p.2)) rfl
        have yy2 := B_2.out.cell (i := 0) (v := .string (zS q.1)) rfl; have yy3 := B_2.out.cell (i := 1) (v := .string (zS q.2)) rfl
        go_wp2_with fail
        refine (M1.out _).mono ?_
        rintro e v2 ⟨rfl, hb⟩
        clear yy0 yy1 yy2 yy3
        have A_3 : Hid (Blk v2 w.heap.size 23 #[.string (zS p.1), .string (zS p.2)]) := Lib.hid (A_2.out.below hb A_2.out.lt)
        have B_3 : Hid (Blk v2 (w.heap.size + 1) 23 #[.string (zS q.1), .string (zS q.2)]) := Lib.hid (B_2.out.below hb B_2.out.lt)
        have R_3 : Hid (Blk v2 (w.heap.size + 2) 23 #[.string ⟨#[]⟩, .string ⟨#[]⟩]) := Lib.hid (R_2.out.below hb R_2.out.lt)
        have HB_3 : Hid (Below w.heap.size w v2) := Lib.hid (HB_2.out.trans (hb.mono HB_2.out.size))
        clear hb A_2 B_2 R_2 HB_2
        have yy0 := A_3.out.cell (i := 0) (v := .string (zS p.1)) rfl; have yy1 := A_3.out.cell (i := 1) (v := .string (zS p.2)) rfl
        have yy2 := B_3.out.cell (i := 0) (v := .string (zS q.1)) rfl; have yy3 := B_3.out.cell (i := 1) (v := .string (zS q.2)) rfl
        go_wp2_with fail
        refine (M2.out _).mono ?_
        rintro e v3 ⟨rfl, hb⟩
        clear yy0 yy1 yy2 yy3
        have A_4 : Hid (Blk v3 w.heap.size 23 #[.string (zS p.1), .string (zS p.2)]) := Lib.hid (A_3.out.below hb A_3.out.lt)
        have B_4 : Hid (Blk v3 (w.heap.size + 1) 23 #[.string (zS q.1), .string (zS q.2)]) := Lib.hid (B_3.out.below hb B_3.out.lt)
        have R_4 : Hid (Blk v3 (w.heap.size + 2) 23 #[.string ⟨#[]⟩, .string ⟨#[]⟩]) := Lib.hid (R_3.out.below hb R_3.out.lt)
        have HB_4 : Hid (Below w.heap.size w v3) := Lib.hid (HB_3.out.trans (hb.mono HB_3.out.size))
        clear hb A_3 B_3 R_3 HB_3
        have x0 := R_4.out.cell (i := 0) (v := .string ⟨#[]⟩) rfl; have x1 := R_4.out.cell (i := 1) (v := .string ⟨#[]⟩) rfl
        have f0 := R_4.out.frozen 0; have f1 := R_4.out.frozen 1
        obtain ⟨r0, r1⟩ := R_4.out.two (u := .string ⟨#[]⟩) (v := .string ⟨#[]⟩)
        have RR0 := Lib.hid r0; have RR1 := Lib.hid r1; clear r0 r1
        go_wp2_with fail
        have r0 := RR0.out; have r1 := RR1.out
        exact bodyPost_ret (v := .tuple #[.agg #[.string ⟨#[]⟩, .string ⟨#[]⟩], .int .i64 40]) (by simp [results, Tryz.results12, go_sem, r0, r1]) rfl ⟨rfl, (HB_4.out.setCell (p := ⟨(w.heap.size + 2), 0, none⟩) (by show w.heap.size ≤ (w.heap.size + 2); omega) _).setCell (p := ⟨(w.heap.size + 2), 1, none⟩) (by show w.heap.size ≤ (w.heap.size + 2); omega) _⟩
      · rename_i n
        have M1 : Hid (∀ W, Calls Tryz.prog 37 #[.string (zS p.1), .string (zS q.2)] W fun e w' => e = .returned (.tuple #[.string (zS n), .int .i64 0]) ∧ Below W.heap.size W w') := fun W => qmul_z b1 b4 W hx
        have M2 : Hid (∀ W, Calls Tryz.prog 37 #[.string (zS p.2), .string (zS q.1)] W fun e w' => e = .returned (.tuple #[.string ⟨#[]⟩, .int .i64 30]) ∧ Below W.heap.size W w') := fun W => qmul_z b2 b3 W hd
        clear hx hd b1 b2 b3 b4 p3 q3
        have A_0 : Hid (Blk (((w.alloc (.cells #[.string (zS p.1), .string (zS p.2)] 23)).alloc (.cells #[.string (zS q.1), .string (zS q.2)] 23)).alloc (.cells #[.string ⟨#[]⟩, .string ⟨#[]⟩] 23)) w.heap.size 23 #[.string (zS p.1), .string (zS p.2)]) := allocs_blk [(#[.string (zS p.1), .string (zS p.2)], 23), (#[.string (zS q.1), .string (zS q.2)], 23), (#[.string ⟨#[]⟩, .string ⟨#[]⟩], 23)] w 0 _ rfl
        have B_0 : Hid (Blk (((w.alloc (.cells #[.string (zS p.1), .string (zS p.2)] 23)).alloc (.cells #[.string (zS q.1), .string (zS q.2)] 23)).alloc (.cells #[.string ⟨#[]⟩, .string ⟨#[]⟩] 23)) (w.heap.size + 1) 23 #[.string (zS q.1), .string (zS q.2)]) := allocs_blk [(#[.string (zS p.1), .string (zS p.2)], 23), (#[.string (zS q.1), .string (zS q.2)], 23), (#[.string ⟨#[]⟩, .string ⟨#[]⟩], 23)] w 1 _ rfl
        have R_0 : Hid (Blk (((w.alloc (.cells #[.string (zS p.1), .string (zS p.2)] 23)).alloc (.cells #[.string (zS q.1), .string (zS q.2)] 23)).alloc (.cells #[.string ⟨#[]⟩, .string ⟨#[]⟩] 23)) (w.heap.size + 2) 23 #[.string ⟨#[]⟩, .string ⟨#[]⟩]) := allocs_blk [(#[.string (zS p.1), .string (zS p.2)], 23), (#[.string (zS q.1), .string (zS q.2)], 23), (#[.string ⟨#[]⟩, .string ⟨#[]⟩], 23)] w 2 _ rfl
        have HB_0 : Hid (Below w.heap.size w (((w.alloc (.cells #[.string (zS p.1), .string (zS p.2)] 23)).alloc (.cells #[.string (zS q.1), .string (zS q.2)] 23)).alloc (.cells #[.string ⟨#[]⟩, .string ⟨#[]⟩] 23))) := allocs_below [(#[.string (zS p.1), .string (zS p.2)], 23), (#[.string (zS q.1), .string (zS q.2)], 23), (#[.string ⟨#[]⟩, .string ⟨#[]⟩], 23)] w (Below.refl w.heap.size w) (Nat.le_refl _)
        go_enter Tryz.func12, Tryz.ntmps12
        have yy0 := A_0.out.cell (i := 0) (v := .string (zS p.1)) rfl; have yy1 := A_0.out.cell (i := 1) (v := .string (zS p.2)) rfl
        go_wp2_with fail
        refine (VA.out _).mono ?_
        rintro e v0 ⟨rfl, hb⟩
        clear yy0 yy1
        have A_1 : Hid (Blk v0 w.heap.size 23 #[.string (zS p.1), .string (zS p.2)]) := Lib.hid (A_0.out.below hb A_0.out.lt)
        have B_1 : Hid (Blk v0 (w.heap.size + 1) 23 #[.string (zS q.1), .string (zS q.2)]) := Lib.hid (B_0.out.below hb B_0.out.lt)
        have R_1 : Hid (Blk v0 (w.heap.size + 2) 23 #[.string ⟨#[]⟩, .string ⟨#[]⟩]) := Lib.hid (R_0.out.below hb R_0.out.lt)
        have HB_1 : Hid (Below w.heap.size w v0) := Lib.hid (HB_0.out.trans (hb.mono HB_0.out.size))
        clear hb A_0 B_0 R_0 HB_0
        have yy0 := B_1.out.cell (i := 0) (v := .string (zS q.1)) rfl; have yy1 := B_1.out.cell (i := 1) (v := .string (zS q.2)) rfl
        go_wp2_with fail
        refine (VB.out _).mono ?_
        rintro e v1 ⟨rfl, hb⟩
        clear yy0 yy1
        have A_2 : Hid (Blk v1 w.heap.size 23 #[.string (zS p.1), .string (zS p.2)]) := Lib.hid (A_1.out.below hb A_1.out.lt)
        have B_2 : Hid (Blk v1 (w.heap.size + 1) 23 #[.string (zS q.1), .string (zS q.2)]) := Lib.hid (B_1.out.below hb B_1.out.lt)
        have R_2 : Hid (Blk v1 (w.heap.size + 2) 23 #[.string ⟨#[]⟩, .string ⟨#[]⟩]) := Lib.hid (R_1.out.below hb R_1.out.lt)
        have HB_2 : Hid (Below w.heap.size w v1) := Lib.hid (HB_1.out.trans (hb.mono HB_1.out.size))
        clear hb A_1 B_1 R_1 HB_1
        have yy0 := A_2.out.cell (i := 0) (v := .string (zS p.1)) rfl; have yy1 := A_2.out.cell (i := 1) (v := .string (zS p.2)) rfl
        have yy2 := B_2.out.cell (i := 0) (v := .string (zS q.1)) rfl; have yy3 := B_2.out.cell (i := 1) (v := .string (zS q.2)) rfl
        go_wp2_with fail
        refine (M1.out _).mono ?_
        rintro e v2 ⟨rfl, hb⟩
        clear yy0 yy1 yy2 yy3
        have A_3 : Hid (Blk v2 w.heap.size 23 #[.string (zS p.1), .string (zS p.2)]) := Lib.hid (A_2.out.below hb A_2.out.lt)
        have B_3 : Hid (Blk v2 (w.heap.size + 1) 23 #[.string (zS q.1), .string (zS q.2)]) := Lib.hid (B_2.out.below hb B_2.out.lt)
        have R_3 : Hid (Blk v2 (w.heap.size + 2) 23 #[.string ⟨#[]⟩, .string ⟨#[]⟩]) := Lib.hid (R_2.out.below hb R_2.out.lt)
        have HB_3 : Hid (Below w.heap.size w v2) := Lib.hid (HB_2.out.trans (hb.mono HB_2.out.size))
        clear hb A_2 B_2 R_2 HB_2
        have yy0 := A_3.out.cell (i := 0) (v := .string (zS p.1)) rfl; have yy1 := A_3.out.cell (i := 1) (v := .string (zS p.2)) rfl
        have yy2 := B_3.out.cell (i := 0) (v := .string (zS q.1)) rfl; have yy3 := B_3.out.cell (i := 1) (v := .string (zS q.2)) rfl
        go_wp2_with fail
        refine (M2.out _).mono ?_
        rintro e v3 ⟨rfl, hb⟩
        clear yy0 yy1 yy2 yy3
        have A_4 : Hid (Blk v3 w.heap.size 23 #[.string (zS p.1), .string (zS p.2)]) := Lib.hid (A_3.out.below hb A_3.out.lt)
        have B_4 : Hid (Blk v3 (w.heap.size + 1) 23 #[.string (zS q.1), .string (zS q.2)]) := Lib.hid (B_3.out.below hb B_3.out.lt)
        have R_4 : Hid (Blk v3 (w.heap.size + 2) 23 #[.string ⟨#[]⟩, .string ⟨#[]⟩]) := Lib.hid (R_3.out.below hb R_3.out.lt)
        have HB_4 : Hid (Below w.heap.size w v3) := Lib.hid (HB_3.out.trans (hb.mono HB_3.out.size))
        clear hb A_3 B_3 R_3 HB_3
        have x0 := R_4.out.cell (i := 0) (v := .string ⟨#[]⟩) rfl; have x1 := R_4.out.cell (i := 1) (v := .string ⟨#[]⟩) rfl
        have f0 := R_4.out.frozen 0; have f1 := R_4.out.frozen 1
        obtain ⟨r0, r1⟩ := R_4.out.two (u := .string ⟨#[]⟩) (v := .string ⟨#[]⟩)
        have RR0 := Lib.hid r0; have RR1 := Lib.hid r1; clear r0 r1
        go_wp2_with fail
        have r0 := RR0.out; have r1 := RR1.out
        exact bodyPost_ret (v := .tuple #[.agg #[.string ⟨#[]⟩, .string ⟨#[]⟩], .int .i64 40]) (by simp [results, Tryz.results12, go_sem, r0, r1]) rfl ⟨rfl, (HB_4.out.setCell (p := ⟨(w.heap.size + 2), 0, none⟩) (by show w.heap.size ≤ (w.heap.size + 2); omega) _).setCell (p := ⟨(w.heap.size + 2), 1, none⟩) (by show w.heap.size ≤ (w.heap.size + 2); omega) _⟩
      · rename_i n d
        have M1 : Hid (∀ W, Calls Tryz.prog 37 #[.string (zS p.1), .string (zS q.2)] W fun e w' => e = .returned (.tuple #[.string (zS n), .int .i64 0]) ∧ Below W.heap.size W w') := fun W => qmul_z b1 b4 W hx
        have M2 : Hid (∀ W, Calls Tryz.prog 37 #[.string (zS p.2), .string (zS q.1)] W fun e w' => e = .returned (.tuple #[.string (zS d), .int .i64 0]) ∧ Below W.heap.size W w') := fun W => qmul_z b2 b3 W hd
        have hm := fun W => rmake_z (lim_abs hx).2 (lim_abs hd).2 W
        generalize mk2 (some n) (some d) = r at *
        have MK := Lib.hid hm; clear hm
        clear hx hd b1 b2 b3 b4 p3 q3
        have A_0 : Hid (Blk (((w.alloc (.cells #[.string (zS p.1), .string (zS p.2)] 23)).alloc (.cells #[.string (zS q.1), .string (zS q.2)] 23)).alloc (.cells #[.string ⟨#[]⟩, .string ⟨#[]⟩] 23)) w.heap.size 23 #[.string (zS p.1), .string (zS p.2)]) := allocs_blk [(#[.string (zS p.1), .string (zS p.2)], 23), (#[.string (zS q.1), .string (zS q.2)], 23), (#[.string ⟨#[]⟩, .string ⟨#[]⟩], 23)] w 0 _ rfl
        have B_0 : Hid (Blk (((w.alloc (.cells #[.string (zS p.1), .string (zS p.2)] 23)).alloc (.cells #[.string (zS q.1), .string (zS q.2)] 23)).alloc (.cells #[.string ⟨#[]⟩, .string ⟨#[]⟩] 23)) (w.heap.size + 1) 23 #[.string (zS q.1), .string (zS q.2)]) := allocs_blk [(#[.string (zS p.1), .string (zS p.2)], 23), (#[.string (zS q.1), .string (zS q.2)], 23), (#[.string ⟨#[]⟩, .string ⟨#[]⟩], 23)] w 1 _ rfl
        have R_0 : Hid (Blk (((w.alloc (.cells #[.string (zS p.1), .string (zS p.2)] 23)).alloc (.cells #[.string (zS q.1), .string (zS q.2)] 23)).alloc (.cells #[.string ⟨#[]⟩, .string ⟨#[]⟩] 23)) (w.heap.size + 2) 23 #[.string ⟨#[]⟩, .string ⟨#[]⟩]) := allocs_blk [(#[.string (zS p.1), .string (zS p.2)], 23), (#[.string (zS q.1), .string (zS q.2)], 23), (#[.string ⟨#[]⟩, .string ⟨#[]⟩], 23)] w 2 _ rfl
        have HB_0 : Hid (Below w.heap.size w (((w.alloc (.cells #[.string (zS p.1), .string (zS p.2)] 23)).alloc (.cells #[.string (zS q.1), .string (zS q.2)] 23)).alloc (.cells #[.string ⟨#[]⟩, .string ⟨#[]⟩] 23))) := allocs_below [(#[.string (zS p.1), .string (zS p.2)], 23), (#[.string (zS q.1), .string (zS q.2)], 23), (#[.string ⟨#[]⟩, .string ⟨#[]⟩], 23)] w (Below.refl w.heap.size w) (Nat.le_refl _)
        go_enter Tryz.func12, Tryz.ntmps12
        have yy0 := A_0.out.cell (i := 0) (v := .string (zS p.1)) rfl; have yy1 := A_0.out.cell (i := 1) (v := .string (zS p.2)) rfl
        go_wp2_with fail
        refine (VA.out _).mono ?_
        rintro e v0 ⟨rfl, hb⟩
        clear yy0 yy1
        have A_1 : Hid (Blk v0 w.heap.size 23 #[.string (zS p.1), .string (zS p.2)]) := Lib.hid (A_0.out.below hb A_0.out.lt)
        have B_1 : Hid (Blk v0 (w.heap.size + 1) 23 #[.string (zS q.1), .string (zS q.2)]) := Lib.hid (B_0.out.below hb B_0.out.lt)
        have R_1 : Hid (Blk v0 (w.heap.size + 2) 23 #[.string ⟨#[]⟩, .string ⟨#[]⟩]) := Lib.hid (R_0.out.below hb R_0.out.lt)
        have HB_1 : Hid (Below w.heap.size w v0) := Lib.hid (HB_0.out.trans (hb.mono HB_0.out.size))
        clear hb A_0 B_0 R_0 HB_0
        have yy0 := B_1.out.cell (i := 0) (v := .string (zS q.1)) rfl; have yy1 := B_1.out.cell (i := 1) (v := .string (zS q.2)) rfl
        go_wp2_with fail
        refine (VB.out _).mono ?_
        rintro e v1 ⟨rfl, hb⟩
        clear yy0 yy1
        have A_2 : Hid (Blk v1 w.heap.size 23 #[.string (zS p.1), .string (zS p.2)]) := Lib.hid (A_1.out.below hb A_1.out.lt)
        have B_2 : Hid (Blk v1 (w.heap.size + 1) 23 #[.string (zS q.1), .string (zS q.2)]) := Lib.hid (B_1.out.below hb B_1.out.lt)
        have R_2 : Hid (Blk v1 (w.heap.size + 2) 23 #[.string ⟨#[]⟩, .string ⟨#[]⟩]) := Lib.hid (R_1.out.below hb R_1.out.lt)
        have HB_2 : Hid (Below w.heap.size w v1) := Lib.hid (HB_1.out.trans (hb.mono HB_1.out.size))
        clear hb A_1 B_1 R_1 HB_1
        have yy0 := A_2.out.cell (i := 0) (v := .string (zS p.1)) rfl; have yy1 := A_2.out.cell (i := 1) (v := .string (zS p.2)) rfl
        have yy2 := B_2.out.cell (i := 0) (v := .string (zS q.1)) rfl; have yy3 := B_2.out.cell (i := 1) (v := .string (zS q.2)) rfl
        go_wp2_with fail
        refine (M1.out _).mono ?_
        rintro e v2 ⟨rfl, hb⟩
        clear yy0 yy1 yy2 yy3
        have A_3 : Hid (Blk v2 w.heap.size 23 #[.string (zS p.1), .string (zS p.2)]) := Lib.hid (A_2.out.below hb A_2.out.lt)
        have B_3 : Hid (Blk v2 (w.heap.size + 1) 23 #[.string (zS q.1), .string (zS q.2)]) := Lib.hid (B_2.out.below hb B_2.out.lt)
        have R_3 : Hid (Blk v2 (w.heap.size + 2) 23 #[.string ⟨#[]⟩, .string ⟨#[]⟩]) := Lib.hid (R_2.out.below hb R_2.out.lt)
        have HB_3 : Hid (Below w.heap.size w v2) := Lib.hid (HB_2.out.trans (hb.mono HB_2.out.size))
        clear hb A_2 B_2 R_2 HB_2
        have yy0 := A_3.out.cell (i := 0) (v := .string (zS p.1)) rfl; have yy1 := A_3.out.cell (i := 1) (v := .string (zS p.2)) rfl
        have yy2 := B_3.out.cell (i := 0) (v := .string (zS q.1)) rfl; have yy3 := B_3.out.cell (i := 1) (v := .string (zS q.2)) rfl
        go_wp2_with fail
        refine (M2.out _).mono ?_
        rintro e v3 ⟨rfl, hb⟩
        clear yy0 yy1 yy2 yy3
        have A_4 : Hid (Blk v3 w.heap.size 23 #[.string (zS p.1), .string (zS p.2)]) := Lib.hid (A_3.out.below hb A_3.out.lt)
        have B_4 : Hid (Blk v3 (w.heap.size + 1) 23 #[.string (zS q.1), .string (zS q.2)]) := Lib.hid (B_3.out.below hb B_3.out.lt)
        have R_4 : Hid (Blk v3 (w.heap.size + 2) 23 #[.string ⟨#[]⟩, .string ⟨#[]⟩]) := Lib.hid (R_3.out.below hb R_3.out.lt)
        have HB_4 : Hid (Below w.heap.size w v3) := Lib.hid (HB_3.out.trans (hb.mono HB_3.out.size))
        clear hb A_3 B_3 R_3 HB_3
        go_wp2_with fail
        refine (MK.out _).mono ?_
        rintro e v4 ⟨rfl, hb⟩
        have A_5 : Hid (Blk v4 w.heap.size 23 #[.string (zS p.1), .string (zS p.2)]) := Lib.hid (A_4.out.below hb A_4.out.lt)
        have B_5 : Hid (Blk v4 (w.heap.size + 1) 23 #[.string (zS q.1), .string (zS q.2)]) := Lib.hid (B_4.out.below hb B_4.out.lt)
        have R_5 : Hid (Blk v4 (w.heap.size + 2) 23 #[.string ⟨#[]⟩, .string ⟨#[]⟩]) := Lib.hid (R_4.out.below hb R_4.out.lt)
        have HB_5 : Hid (Below w.heap.size w v4) := Lib.hid (HB_4.out.trans (hb.mono HB_4.out.size))
        clear hb A_4 B_4 R_4 HB_4
        have x0 := R_5.out.cell (i := 0) (v := .string ⟨#[]⟩) rfl; have x1 := R_5.out.cell (i := 1) (v := .string ⟨#[]⟩) rfl
        have f0 := R_5.out.frozen 0; have f1 := R_5.out.frozen 1
        obtain ⟨r0, r1⟩ := R_5.out.two (u := .string (qN r)) (v := .string (qD r))
        have RR0 := Lib.hid r0; have RR1 := Lib.hid r1; clear r0 r1
        go_wp2_with fail
        have r0 := RR0.out; have r1 := RR1.out
        exact bodyPost_ret (v := .tuple #[.agg #[.string (qN r), .string (qD r)], .int .i64 (qE r)]) (by simp [results, Tryz.results12, go_sem, r0, r1]) rfl ⟨rfl, (HB_5.out.setCell (p := ⟨(w.heap.size + 2), 0, none⟩) (by show w.heap.size ≤ (w.heap.size + 2); omega) _).setCell (p := ⟨(w.heap.size + 2), 1, none⟩) (by show w.heap.size ≤ (w.heap.size + 2); omega) _⟩
end Go.Proofs.YtgokpdidhpogdaaGreat
