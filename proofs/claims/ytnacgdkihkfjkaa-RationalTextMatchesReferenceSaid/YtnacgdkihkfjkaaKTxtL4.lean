/- RationalTextMatchesReference: the law's walk. Conditions: ints, a byte; the strings' lengths are ints. -/
import Derived.Deep.CutRange
import Derived.Test.YtnacgdkihkfjkaaGS
import Derived.Test.YtnacgdkihkfjkaaGJ
import Derived.Test.YtnacgdkihkfjkaaGR
namespace Go.Proofs.Ytnacgdkihkfjkaa
open Go.RowKit Go.Lib

/-- What the statement asks of two strings. -/
theorem item_any (u v : ByteArray) (hu : u.size ≤ 9000000000000000000) (hv : v.size ≤ 9000000000000000000) : ∃ (s tn td : ByteArray) (ez : Int) (b : Bool), (∀ W, Calls Try.prog 13 #[.agg #[.string u, .string v]] W fun e w' => e = .returned (.string s) ∧ Below W.heap.size W w') ∧ (∀ W, Calls Try.prog 15 #[.agg #[.string u, .string v]] W fun e w' => e = .returned (.string s) ∧ Below W.heap.size W w') ∧ (∀ W, Calls Try.prog 16 #[.agg #[.string u, .string v]] W fun e w' => e = .returned (.bool b) ∧ Below W.heap.size W w') ∧ (∀ W, Calls Try.prog 14 #[.string s] W fun e w' => e = .returned (.tuple #[.agg #[.string tn, .string td], .int .i64 ez]) ∧ Below W.heap.size W w') ∧
    ((s = ⟨#[]⟩ ∧ ez = 40 ∧ b = false) ∨ ((s.toList == []) = false ∧ tn = u ∧ td = v ∧ ez = 0 ∧ b = true)) := by
  have h1 := fun W => fprint_any u v W ⟨hu, hv⟩
  have h2 := fun W => rprint_any u v W ⟨hu, hv⟩
  have h3 := fun W => fvalid_any u v W hu hv
  have hg := @gdO_rdQ u.data.toList v.data.toList
  cases hq : rdQ u.data.toList v.data.toList with
  | none =>
    rw [hq] at h1 h2 h3
    refine ⟨⟨#[]⟩, ⟨#[]⟩, ⟨#[]⟩, 40, false, h1, h2, h3, fun W => ?_, .inl ⟨rfl, rfl, rfl⟩⟩
    have h4 := fparse_any ⟨#[]⟩ W (Nat.zero_le _)
    rw [show (⟨#[]⟩ : ByteArray).data.toList = [] from rfl, parse_nil] at h4
    exact h4
  | some p =>
    rw [hq] at h1 h2 h3 hg
    obtain ⟨a, b, c⟩ := rdQ_some hq
    have e1 := bs_of_rd a; have e2 := bs_of_rd b
    refine ⟨printQ (some p), zS p.1, zS p.2, 0, true, h1, h2, h3, fun W => ?_, .inr ⟨?_, e1.symm, e2.symm, rfl, rfl⟩⟩
    · have h4 := fparse_any (printQ (some p)) W (by have := print_size (hg p rfl); omega)
      rw [parse_print (hg p rfl)] at h4
      exact h4
    · rw [toList_data, beq_eq_false_iff_ne]; exact print_ne
theorem item2_any (t : ByteArray) (ht : t.size ≤ 9000000000000000000) : ∃ (rn rd : ByteArray) (ez : Int), (∀ W, Calls Try.prog 14 #[.string t] W fun e w' => e = .returned (.tuple #[.agg #[.string rn, .string rd], .int .i64 ez]) ∧ Below W.heap.size W w') ∧ (∀ W, Calls Try.prog 18 #[.string t] W fun e w' => e = .returned (.tuple #[.agg #[.string rn, .string rd], .int .i64 ez]) ∧ Below W.heap.size W w') ∧ (ez = 40 ∨ (ez = 0 ∧ (∀ W, Calls Try.prog 13 #[.agg #[.string rn, .string rd]] W fun e w' => e = .returned (.string t) ∧ Below W.heap.size W w'))) := by
  have h1 := fun W => fparse_any t W ht
  have h2 := fun W => rparse_any t W ht
  cases hq : parseQ t.data.toList with
  | none =>
    rw [hq] at h1 h2
    exact ⟨⟨#[]⟩, ⟨#[]⟩, 40, h1, h2, .inl rfl⟩
  | some p =>
    rw [hq] at h1 h2
    obtain ⟨hg, hp⟩ := parse_some hq
    refine ⟨zS p.1, zS p.2, 0, h1, h2, .inr ⟨rfl, fun W => ?_⟩⟩
    have h3 := fprint_any (zS p.1) (zS p.2) W (good_zs hg)
    rw [good_rd hg] at h3
    have e : printQ (some p) = t := by rw [← bs_self (printQ (some p)), hp, bs_self]
    rw [e] at h3
    exact h3
set_option maxRecDepth 100000 in
set_option maxHeartbeats 40000000 in
theorem text_law (xn xd : ByteArray) (i0 i1 i2 i3 at0' cc : Int) (raw : ByteArray) (w : World) (hi0 : -9223372036854775808 ≤ i0 ∧ i0 ≤ 9223372036854775807) (hi1 : -9223372036854775808 ≤ i1 ∧ i1 ≤ 9223372036854775807) (hi2 : -9223372036854775808 ≤ i2 ∧ i2 ≤ 9223372036854775807) (hi3 : -9223372036854775808 ≤ i3 ∧ i3 ≤ 9223372036854775807) (hat : -9223372036854775808 ≤ at0' ∧ at0' ≤ 9223372036854775807) (hcc : 0 ≤ cc ∧ cc < 256) (hraw : raw.size ≤ 9223372036854775807) :
    Calls Try.prog 3 #[.agg #[.string xn, .string xd], .agg #[.int .i64 i0, .int .i64 i1, .int .i64 i2, .int .i64 i3], .int .i64 at0', .int .u8 cc, .string raw] w fun e w' => e = .returned (.bool true) ∧ Below w.heap.size w w' := by
  have HSA := Lib.hid (fun W => sane_any W); have HLO := Lib.hid (fun W => rlong_any i0 i1 i2 i3 W hi0 hi1 hi2 hi3)
  have HCU := Lib.hid (fun W => cut_any xn xd W)
  have s1 := cutN_size 210 xn; have s2 := cutN_size 210 xd
  obtain ⟨a, ha⟩ : ∃ a, a = cutN 210 xn := ⟨_, rfl⟩
  obtain ⟨b, hb⟩ : ∃ a, a = cutN 210 xd := ⟨_, rfl⟩
  rw [← ha] at s1 HCU; rw [← hb] at s2 HCU
  have IT0 := item_any a b (by omega) (by omega)
  have I0 := Lib.hid IT0; have HAT := Lib.hid hat; have HC := Lib.hid hcc; have HRAW := Lib.hid hraw
  have X_0 : Hid (Blk ((w.alloc (.cells #[.string xn, .string xd] 23)).alloc (.cells #[.int .i64 i0, .int .i64 i1, .int .i64 i2, .int .i64 i3] 24)) w.heap.size 23 #[.string xn, .string xd]) := allocs_blk [(#[.string xn, .string xd], 23), (#[.int .i64 i0, .int .i64 i1, .int .i64 i2, .int .i64 i3], 24)] w 0 _ rfl
  have L_0 : Hid (Blk ((w.alloc (.cells #[.string xn, .string xd] 23)).alloc (.cells #[.int .i64 i0, .int .i64 i1, .int .i64 i2, .int .i64 i3] 24)) (w.heap.size + 1) 24 #[.int .i64 i0, .int .i64 i1, .int .i64 i2, .int .i64 i3]) := allocs_blk [(#[.string xn, .string xd], 23), (#[.int .i64 i0, .int .i64 i1, .int .i64 i2, .int .i64 i3], 24)] w 1 _ rfl
  have HB_0 : Hid (Below w.heap.size w ((w.alloc (.cells #[.string xn, .string xd] 23)).alloc (.cells #[.int .i64 i0, .int .i64 i1, .int .i64 i2, .int .i64 i3] 24))) := allocs_below [(#[.string xn, .string xd], 23), (#[.int .i64 i0, .int .i64 i1, .int .i64 i2, .int .i64 i3], 24)] w (Below.refl w.heap.size w) (Nat.le_refl _)
  clear s1 s2 ha hb IT0 hat hcc hraw hi0 hi1 hi2 hi3
  go_enter Try.func3, Try.ntmps3
  go_wp2_with fail
  refine (HSA.out _).mono ?_
  rintro e v0 ⟨rfl, hb⟩
  have X_1 : Hid (Blk v0 w.heap.size 23 #[.string xn, .string xd]) := Lib.hid (X_0.out.below hb X_0.out.lt)
  have L_1 : Hid (Blk v0 (w.heap.size + 1) 24 #[.int .i64 i0, .int .i64 i1, .int .i64 i2, .int .i64 i3]) := Lib.hid (L_0.out.below hb L_0.out.lt)
  have HB_1 : Hid (Below w.heap.size w v0) := Lib.hid (HB_0.out.trans (hb.mono HB_0.out.size))
  clear hb X_0 L_0 HB_0
  have yy0 := L_1.out.cell (i := 0) (v := .int .i64 i0) rfl; have yy1 := L_1.out.cell (i := 1) (v := .int .i64 i1) rfl; have yy2 := L_1.out.cell (i := 2) (v := .int .i64 i2) rfl; have yy3 := L_1.out.cell (i := 3) (v := .int .i64 i3) rfl
  go_wp2_with fail
  refine (HLO.out _).mono ?_
  rintro e v1 ⟨n, d, hl, hn9, hd9, rfl, hb⟩
  have HG : Hid (Good (n, d)) := ⟨hl, lt200 hn9 (by omega), lt200 hd9 (by omega)⟩
  clear hl hn9 hd9
  clear yy0 yy1 yy2 yy3
  have X_2 : Hid (Blk (v1.alloc (.cells #[.string (zS n), .string (zS d)] 23)) w.heap.size 23 #[.string xn, .string xd]) := Lib.hid (allocs_keep [(#[.string (zS n), .string (zS d)], 23)] _ (X_1.out.below hb X_1.out.lt))
  have HB_2 : Hid (Below w.heap.size w (v1.alloc (.cells #[.string (zS n), .string (zS d)] 23))) := Lib.hid (allocs_below [(#[.string (zS n), .string (zS d)], 23)] _ (HB_1.out.trans (hb.mono HB_1.out.size)) (HB_1.out.trans (hb.mono HB_1.out.size)).size)
  have M_2 : Hid (Blk (v1.alloc (.cells #[.string (zS n), .string (zS d)] 23)) v1.heap.size 23 #[.string (zS n), .string (zS d)]) := Lib.hid (allocs_blk [(#[.string (zS n), .string (zS d)], 23)] v1 0 _ rfl)
  clear hb X_1 L_1 HB_1
  have IT1 := item_any (zS n) (zS d) (good_zs HG.out).1 (good_zs HG.out).2
  have I1 := Lib.hid IT1
  clear IT1
  go_upto_region 3 with fail
  go_cut [32, 33, 34] from 29 to 34 (fun s l i wx => l = .int .i64 2 ∧ i = .int .i64 0 ∧ ∃ g, s = .slice (some ⟨g, 0, none⟩) 2 2 ∧ Below (v1.alloc (.cells #[.string (zS n), .string (zS d)] 23)).heap.size (v1.alloc (.cells #[.string (zS n), .string (zS d)] 23)) wx ∧ Blk wx g 23 #[.string a, .string b, .string (zS n), .string (zS d)])
  case first =>
    have HK : Hid (∀ w', Below (v1.alloc (.cells #[.string (zS n), .string (zS d)] 23)).heap.size (v1.alloc (.cells #[.string (zS n), .string (zS d)] 23)) w' → w'.cell? ⟨w.heap.size, 0, none⟩ = some (.string xn) ∧ w'.cell? ⟨w.heap.size, 1, none⟩ = some (.string xd) ∧ w'.cell? ⟨v1.heap.size, 0, none⟩ = some (.string (zS n)) ∧ w'.cell? ⟨v1.heap.size, 1, none⟩ = some (.string (zS d))) := fun W hW => ⟨(X_2.out.below hW X_2.out.lt).cell (i := 0) rfl, (X_2.out.below hW X_2.out.lt).cell (i := 1) rfl, (M_2.out.below hW M_2.out.lt).cell (i := 0) rfl, (M_2.out.below hW M_2.out.lt).cell (i := 1) rfl⟩
    have HY : Hid (Below (v1.alloc (.cells #[.string (zS n), .string (zS d)] 23)).heap.size (v1.alloc (.cells #[.string (zS n), .string (zS d)] 23)) (v1.alloc (.cells #[.string (zS n), .string (zS d)] 23)).drew) := (Below.refl _ _).drew
    have hk0 := HK.out _ HY.out
    go_region_held3 (fun w' => w'.cell? ⟨w.heap.size, 0, none⟩ = some (.string xn) ∧ w'.cell? ⟨w.heap.size, 1, none⟩ = some (.string xd) ∧ w'.cell? ⟨v1.heap.size, 0, none⟩ = some (.string (zS n)) ∧ w'.cell? ⟨v1.heap.size, 1, none⟩ = some (.string (zS d))) (first | exact HK.out _ HY.out | exact HK.out _ (HY.out.alloc HY.out.size _) | exact hk0 | go_keep)
      (first | (go_at_call 12; (with_reducible refine (HCU.out _).mono ?_); rintro e v ⟨rfl, h9⟩; have HY := Lib.hid (HY.out.trans (h9.mono HY.out.size)); clear h9))
    all_goals
      go_wp2_with fail
      go_meet
      exact ⟨rfl, rfl, _, rfl, HY.out.alloc HY.out.size _, Blk.new _ _ _⟩
  case rest =>
    obtain ⟨rfl, rfl, g, rfl, hcb, hq⟩ := hcut
    have X_3 := Lib.hid (X_2.out.below hcb X_2.out.lt)
    have M_3 := Lib.hid (M_2.out.below hcb M_2.out.lt)
    have HB_3 := Lib.hid (HB_2.out.trans (hcb.mono HB_2.out.size))
    clear hcb X_2 M_2 HB_2
    have Q_3 := Lib.hid hq; clear hq
    go_wp2_with fail
    go_loopw [34] (fun ii wr => ∃ i : Int, ii = .int .i64 i ∧ (i = 0 ∨ i = 1 ∨ i = 2) ∧ Below w.heap.size w wr ∧ Blk wr v1.heap.size 23 #[.string (zS n), .string (zS d)] ∧ Blk wr g 23 #[.string a, .string b, .string (zS n), .string (zS d)]) (fun ii _ => 2 - (intOf ii).toNat)
    case atStart => exact ⟨0, rfl, .inl rfl, HB_3.out, M_3.out, Q_3.out⟩
    case round =>
      clear HB_3 X_3 M_3 Q_3
      obtain ⟨i, rfl, hi, hb, hM, hQ⟩ := hrel
      have HB_4 := Lib.hid hb; have M_4 := Lib.hid hM; have Q_4 := Lib.hid hQ
      clear hb hM hQ
      rcases hi with rfl | rfl | rfl
      · obtain ⟨s, tn, td, e, vb, k1, k2, k3, k4, hcase⟩ := I0.out
        have C1 := Lib.hid k1; have C2 := Lib.hid k2; have C3 := Lib.hid k3; have C4 := Lib.hid k4
        clear k1 k2 k3 k4
        obtain ⟨rfl, rfl, rfl⟩ | ⟨hs, rfl, rfl, rfl, rfl⟩ := hcase
        · skip
          have yy0 := Q_4.out.cell (i := 0) (v := .string a) rfl; have yy1 := Q_4.out.cell (i := 1) (v := .string b) rfl
          go_upto_region 6 with fail
          clear yy0 yy1
          have M_5 := Lib.hid (M_4.out.alloc (.cells #[.string a, .string b] 23))
          have Q_5 := Lib.hid (Q_4.out.alloc (.cells #[.string a, .string b] 23))
          have HB_5 := Lib.hid (HB_4.out.alloc HB_4.out.size (.cells #[.string a, .string b] 23))
          have E_5 : Hid (Blk (wr.alloc (.cells #[.string a, .string b] 23)) wr.heap.size 23 #[.string a, .string b]) := Lib.hid (Blk.new _ _ _)
          clear HB_4 M_4 Q_4
          have yy0 := E_5.out.cell (i := 0) (v := .string a) rfl; have yy1 := E_5.out.cell (i := 1) (v := .string b) rfl
          go_wp2_with fail
          refine (C1.out _).mono ?_
          rintro e v5 ⟨rfl, hb⟩
          clear yy0 yy1
          have M_6 : Hid (Blk v5 v1.heap.size 23 #[.string (zS n), .string (zS d)]) := Lib.hid (M_5.out.below hb M_5.out.lt)
          have Q_6 : Hid (Blk v5 g 23 #[.string a, .string b, .string (zS n), .string (zS d)]) := Lib.hid (Q_5.out.below hb Q_5.out.lt)
          have E_6 : Hid (Blk v5 wr.heap.size 23 #[.string a, .string b]) := Lib.hid (E_5.out.below hb E_5.out.lt)
          have HB_6 : Hid (Below w.heap.size w v5) := Lib.hid (HB_5.out.trans (hb.mono HB_5.out.size))
          clear hb M_5 Q_5 E_5 HB_5
          go_wp2_with fail
          refine (C4.out _).mono ?_
          rintro e v6 ⟨rfl, hb⟩
          have M_7 : Hid (Blk (v6.alloc (.cells #[.string tn, .string td] 23)) v1.heap.size 23 #[.string (zS n), .string (zS d)]) := Lib.hid (allocs_keep [(#[.string tn, .string td], 23)] _ (M_6.out.below hb M_6.out.lt))
          have Q_7 : Hid (Blk (v6.alloc (.cells #[.string tn, .string td] 23)) g 23 #[.string a, .string b, .string (zS n), .string (zS d)]) := Lib.hid (allocs_keep [(#[.string tn, .string td], 23)] _ (Q_6.out.below hb Q_6.out.lt))
          have E_7 : Hid (Blk (v6.alloc (.cells #[.string tn, .string td] 23)) wr.heap.size 23 #[.string a, .string b]) := Lib.hid (allocs_keep [(#[.string tn, .string td], 23)] _ (E_6.out.below hb E_6.out.lt))
          have HB_7 : Hid (Below w.heap.size w (v6.alloc (.cells #[.string tn, .string td] 23))) := Lib.hid (allocs_below [(#[.string tn, .string td], 23)] _ (HB_6.out.trans (hb.mono HB_6.out.size)) (HB_6.out.trans (hb.mono HB_6.out.size)).size)
          have F_7 : Hid (Blk (v6.alloc (.cells #[.string tn, .string td] 23)) v6.heap.size 23 #[.string tn, .string td]) := Lib.hid (allocs_blk [(#[.string tn, .string td], 23)] v6 0 _ rfl)
          clear hb M_6 Q_6 E_6 HB_6
          have yy0 := E_7.out.cell (i := 0) (v := .string a) rfl; have yy1 := E_7.out.cell (i := 1) (v := .string b) rfl
          go_wp2_with fail
          refine (C2.out _).mono ?_
          rintro e v7 ⟨rfl, hb⟩
          clear yy0 yy1
          have M_8 : Hid (Blk v7 v1.heap.size 23 #[.string (zS n), .string (zS d)]) := Lib.hid (M_7.out.below hb M_7.out.lt)
          have Q_8 : Hid (Blk v7 g 23 #[.string a, .string b, .string (zS n), .string (zS d)]) := Lib.hid (Q_7.out.below hb Q_7.out.lt)
          have E_8 : Hid (Blk v7 wr.heap.size 23 #[.string a, .string b]) := Lib.hid (E_7.out.below hb E_7.out.lt)
          have F_8 : Hid (Blk v7 v6.heap.size 23 #[.string tn, .string td]) := Lib.hid (F_7.out.below hb F_7.out.lt)
          have HB_8 : Hid (Below w.heap.size w v7) := Lib.hid (HB_7.out.trans (hb.mono HB_7.out.size))
          clear hb M_7 Q_7 E_7 F_7 HB_7
          have yy0 := E_8.out.cell (i := 0) (v := .string a) rfl; have yy1 := E_8.out.cell (i := 1) (v := .string b) rfl
          have yy2 := F_8.out.cell (i := 0) (v := .string tn) rfl; have yy3 := F_8.out.cell (i := 1) (v := .string td) rfl
          go_wp2_with fail
          refine (C3.out _).mono ?_
          rintro e v8 ⟨rfl, hb⟩
          clear yy0 yy1 yy2 yy3
          have M_9 : Hid (Blk v8 v1.heap.size 23 #[.string (zS n), .string (zS d)]) := Lib.hid (M_8.out.below hb M_8.out.lt)
          have Q_9 : Hid (Blk v8 g 23 #[.string a, .string b, .string (zS n), .string (zS d)]) := Lib.hid (Q_8.out.below hb Q_8.out.lt)
          have E_9 : Hid (Blk v8 wr.heap.size 23 #[.string a, .string b]) := Lib.hid (E_8.out.below hb E_8.out.lt)
          have F_9 : Hid (Blk v8 v6.heap.size 23 #[.string tn, .string td]) := Lib.hid (F_8.out.below hb F_8.out.lt)
          have HB_9 : Hid (Below w.heap.size w v8) := Lib.hid (HB_8.out.trans (hb.mono HB_8.out.size))
          clear hb M_8 Q_8 E_8 F_8 HB_8
          have yy0 := E_9.out.cell (i := 0) (v := .string a) rfl; have yy1 := E_9.out.cell (i := 1) (v := .string b) rfl
          have yy2 := F_9.out.cell (i := 0) (v := .string tn) rfl; have yy3 := F_9.out.cell (i := 1) (v := .string td) rfl
          go_wp2_with fail
          refine (C3.out _).mono ?_
          rintro e v9 ⟨rfl, hb⟩
          clear yy0 yy1 yy2 yy3
          have M_10 : Hid (Blk v9 v1.heap.size 23 #[.string (zS n), .string (zS d)]) := Lib.hid (M_9.out.below hb M_9.out.lt)
          have Q_10 : Hid (Blk v9 g 23 #[.string a, .string b, .string (zS n), .string (zS d)]) := Lib.hid (Q_9.out.below hb Q_9.out.lt)
          have E_10 : Hid (Blk v9 wr.heap.size 23 #[.string a, .string b]) := Lib.hid (E_9.out.below hb E_9.out.lt)
          have F_10 : Hid (Blk v9 v6.heap.size 23 #[.string tn, .string td]) := Lib.hid (F_9.out.below hb F_9.out.lt)
          have HB_10 : Hid (Below w.heap.size w v9) := Lib.hid (HB_9.out.trans (hb.mono HB_9.out.size))
          clear hb M_9 Q_9 E_9 F_9 HB_9
          go_wp2_with fail
          go_roundw
          case rel => exact ⟨1, rfl, (by simp), HB_10.out, M_10.out, Q_10.out⟩
          case measure => simp [intOf]
        · skip
          have yy0 := Q_4.out.cell (i := 0) (v := .string tn) rfl; have yy1 := Q_4.out.cell (i := 1) (v := .string td) rfl
          go_upto_region 6 with fail
          clear yy0 yy1
          have M_5 := Lib.hid (M_4.out.alloc (.cells #[.string tn, .string td] 23))
          have Q_5 := Lib.hid (Q_4.out.alloc (.cells #[.string tn, .string td] 23))
          have HB_5 := Lib.hid (HB_4.out.alloc HB_4.out.size (.cells #[.string tn, .string td] 23))
          have E_5 : Hid (Blk (wr.alloc (.cells #[.string tn, .string td] 23)) wr.heap.size 23 #[.string tn, .string td]) := Lib.hid (Blk.new _ _ _)
          clear HB_4 M_4 Q_4
          have yy0 := E_5.out.cell (i := 0) (v := .string tn) rfl; have yy1 := E_5.out.cell (i := 1) (v := .string td) rfl
          go_wp2_with fail
          refine (C1.out _).mono ?_
          rintro e v5 ⟨rfl, hb⟩
          clear yy0 yy1
          have M_6 : Hid (Blk v5 v1.heap.size 23 #[.string (zS n), .string (zS d)]) := Lib.hid (M_5.out.below hb M_5.out.lt)
          have Q_6 : Hid (Blk v5 g 23 #[.string tn, .string td, .string (zS n), .string (zS d)]) := Lib.hid (Q_5.out.below hb Q_5.out.lt)
          have E_6 : Hid (Blk v5 wr.heap.size 23 #[.string tn, .string td]) := Lib.hid (E_5.out.below hb E_5.out.lt)
          have HB_6 : Hid (Below w.heap.size w v5) := Lib.hid (HB_5.out.trans (hb.mono HB_5.out.size))
          clear hb M_5 Q_5 E_5 HB_5
          go_wp2_with fail
          refine (C4.out _).mono ?_
          rintro e v6 ⟨rfl, hb⟩
          have M_7 : Hid (Blk (v6.alloc (.cells #[.string tn, .string td] 23)) v1.heap.size 23 #[.string (zS n), .string (zS d)]) := Lib.hid (allocs_keep [(#[.string tn, .string td], 23)] _ (M_6.out.below hb M_6.out.lt))
          have Q_7 : Hid (Blk (v6.alloc (.cells #[.string tn, .string td] 23)) g 23 #[.string tn, .string td, .string (zS n), .string (zS d)]) := Lib.hid (allocs_keep [(#[.string tn, .string td], 23)] _ (Q_6.out.below hb Q_6.out.lt))
          have E_7 : Hid (Blk (v6.alloc (.cells #[.string tn, .string td] 23)) wr.heap.size 23 #[.string tn, .string td]) := Lib.hid (allocs_keep [(#[.string tn, .string td], 23)] _ (E_6.out.below hb E_6.out.lt))
          have HB_7 : Hid (Below w.heap.size w (v6.alloc (.cells #[.string tn, .string td] 23))) := Lib.hid (allocs_below [(#[.string tn, .string td], 23)] _ (HB_6.out.trans (hb.mono HB_6.out.size)) (HB_6.out.trans (hb.mono HB_6.out.size)).size)
          have F_7 : Hid (Blk (v6.alloc (.cells #[.string tn, .string td] 23)) v6.heap.size 23 #[.string tn, .string td]) := Lib.hid (allocs_blk [(#[.string tn, .string td], 23)] v6 0 _ rfl)
          clear hb M_6 Q_6 E_6 HB_6
          have yy0 := E_7.out.cell (i := 0) (v := .string tn) rfl; have yy1 := E_7.out.cell (i := 1) (v := .string td) rfl
          go_wp2_with fail
          refine (C2.out _).mono ?_
          rintro e v7 ⟨rfl, hb⟩
          clear yy0 yy1
          have M_8 : Hid (Blk v7 v1.heap.size 23 #[.string (zS n), .string (zS d)]) := Lib.hid (M_7.out.below hb M_7.out.lt)
          have Q_8 : Hid (Blk v7 g 23 #[.string tn, .string td, .string (zS n), .string (zS d)]) := Lib.hid (Q_7.out.below hb Q_7.out.lt)
          have E_8 : Hid (Blk v7 wr.heap.size 23 #[.string tn, .string td]) := Lib.hid (E_7.out.below hb E_7.out.lt)
          have F_8 : Hid (Blk v7 v6.heap.size 23 #[.string tn, .string td]) := Lib.hid (F_7.out.below hb F_7.out.lt)
          have HB_8 : Hid (Below w.heap.size w v7) := Lib.hid (HB_7.out.trans (hb.mono HB_7.out.size))
          clear hb M_7 Q_7 E_7 F_7 HB_7
          have yy0 := E_8.out.cell (i := 0) (v := .string tn) rfl; have yy1 := E_8.out.cell (i := 1) (v := .string td) rfl
          have yy2 := F_8.out.cell (i := 0) (v := .string tn) rfl; have yy3 := F_8.out.cell (i := 1) (v := .string td) rfl
          go_wp2_with fail
          refine (C3.out _).mono ?_
          rintro e v8 ⟨rfl, hb⟩
          clear yy0 yy1 yy2 yy3
          have M_9 : Hid (Blk v8 v1.heap.size 23 #[.string (zS n), .string (zS d)]) := Lib.hid (M_8.out.below hb M_8.out.lt)
          have Q_9 : Hid (Blk v8 g 23 #[.string tn, .string td, .string (zS n), .string (zS d)]) := Lib.hid (Q_8.out.below hb Q_8.out.lt)
          have E_9 : Hid (Blk v8 wr.heap.size 23 #[.string tn, .string td]) := Lib.hid (E_8.out.below hb E_8.out.lt)
          have F_9 : Hid (Blk v8 v6.heap.size 23 #[.string tn, .string td]) := Lib.hid (F_8.out.below hb F_8.out.lt)
          have HB_9 : Hid (Below w.heap.size w v8) := Lib.hid (HB_8.out.trans (hb.mono HB_8.out.size))
          clear hb M_8 Q_8 E_8 F_8 HB_8
          have yy0 := E_9.out.cell (i := 0) (v := .string tn) rfl; have yy1 := E_9.out.cell (i := 1) (v := .string td) rfl
          have yy2 := F_9.out.cell (i := 0) (v := .string tn) rfl; have yy3 := F_9.out.cell (i := 1) (v := .string td) rfl
          go_wp2_with fail
          refine (C3.out _).mono ?_
          rintro e v9 ⟨rfl, hb⟩
          clear yy0 yy1 yy2 yy3
          have M_10 : Hid (Blk v9 v1.heap.size 23 #[.string (zS n), .string (zS d)]) := Lib.hid (M_9.out.below hb M_9.out.lt)
          have Q_10 : Hid (Blk v9 g 23 #[.string tn, .string td, .string (zS n), .string (zS d)]) := Lib.hid (Q_9.out.below hb Q_9.out.lt)
          have E_10 : Hid (Blk v9 wr.heap.size 23 #[.string tn, .string td]) := Lib.hid (E_9.out.below hb E_9.out.lt)
          have F_10 : Hid (Blk v9 v6.heap.size 23 #[.string tn, .string td]) := Lib.hid (F_9.out.below hb F_9.out.lt)
          have HB_10 : Hid (Below w.heap.size w v9) := Lib.hid (HB_9.out.trans (hb.mono HB_9.out.size))
          clear hb M_9 Q_9 E_9 F_9 HB_9
          go_wp2_with fail
          go_roundw
          case rel => exact ⟨1, rfl, (by simp), HB_10.out, M_10.out, Q_10.out⟩
          case measure => simp [intOf]
      · obtain ⟨s, tn, td, e, vb, k1, k2, k3, k4, hcase⟩ := I1.out
        have C1 := Lib.hid k1; have C2 := Lib.hid k2; have C3 := Lib.hid k3; have C4 := Lib.hid k4
        clear k1 k2 k3 k4
        obtain ⟨rfl, rfl, rfl⟩ | ⟨hs, rfl, rfl, rfl, rfl⟩ := hcase
        · skip
          have yy0 := Q_4.out.cell (i := 2) (v := .string (zS n)) rfl; have yy1 := Q_4.out.cell (i := 3) (v := .string (zS d)) rfl
          go_upto_region 6 with fail
          clear yy0 yy1
          have M_5 := Lib.hid (M_4.out.alloc (.cells #[.string (zS n), .string (zS d)] 23))
          have Q_5 := Lib.hid (Q_4.out.alloc (.cells #[.string (zS n), .string (zS d)] 23))
          have HB_5 := Lib.hid (HB_4.out.alloc HB_4.out.size (.cells #[.string (zS n), .string (zS d)] 23))
          have E_5 : Hid (Blk (wr.alloc (.cells #[.string (zS n), .string (zS d)] 23)) wr.heap.size 23 #[.string (zS n), .string (zS d)]) := Lib.hid (Blk.new _ _ _)
          clear HB_4 M_4 Q_4
          have yy0 := E_5.out.cell (i := 0) (v := .string (zS n)) rfl; have yy1 := E_5.out.cell (i := 1) (v := .string (zS d)) rfl
          go_wp2_with fail
          refine (C1.out _).mono ?_
          rintro e v5 ⟨rfl, hb⟩
          clear yy0 yy1
          have M_6 : Hid (Blk v5 v1.heap.size 23 #[.string (zS n), .string (zS d)]) := Lib.hid (M_5.out.below hb M_5.out.lt)
          have Q_6 : Hid (Blk v5 g 23 #[.string a, .string b, .string (zS n), .string (zS d)]) := Lib.hid (Q_5.out.below hb Q_5.out.lt)
          have E_6 : Hid (Blk v5 wr.heap.size 23 #[.string (zS n), .string (zS d)]) := Lib.hid (E_5.out.below hb E_5.out.lt)
          have HB_6 : Hid (Below w.heap.size w v5) := Lib.hid (HB_5.out.trans (hb.mono HB_5.out.size))
          clear hb M_5 Q_5 E_5 HB_5
          go_wp2_with fail
          refine (C4.out _).mono ?_
          rintro e v6 ⟨rfl, hb⟩
          have M_7 : Hid (Blk (v6.alloc (.cells #[.string tn, .string td] 23)) v1.heap.size 23 #[.string (zS n), .string (zS d)]) := Lib.hid (allocs_keep [(#[.string tn, .string td], 23)] _ (M_6.out.below hb M_6.out.lt))
          have Q_7 : Hid (Blk (v6.alloc (.cells #[.string tn, .string td] 23)) g 23 #[.string a, .string b, .string (zS n), .string (zS d)]) := Lib.hid (allocs_keep [(#[.string tn, .string td], 23)] _ (Q_6.out.below hb Q_6.out.lt))
          have E_7 : Hid (Blk (v6.alloc (.cells #[.string tn, .string td] 23)) wr.heap.size 23 #[.string (zS n), .string (zS d)]) := Lib.hid (allocs_keep [(#[.string tn, .string td], 23)] _ (E_6.out.below hb E_6.out.lt))
          have HB_7 : Hid (Below w.heap.size w (v6.alloc (.cells #[.string tn, .string td] 23))) := Lib.hid (allocs_below [(#[.string tn, .string td], 23)] _ (HB_6.out.trans (hb.mono HB_6.out.size)) (HB_6.out.trans (hb.mono HB_6.out.size)).size)
          have F_7 : Hid (Blk (v6.alloc (.cells #[.string tn, .string td] 23)) v6.heap.size 23 #[.string tn, .string td]) := Lib.hid (allocs_blk [(#[.string tn, .string td], 23)] v6 0 _ rfl)
          clear hb M_6 Q_6 E_6 HB_6
          have yy0 := E_7.out.cell (i := 0) (v := .string (zS n)) rfl; have yy1 := E_7.out.cell (i := 1) (v := .string (zS d)) rfl
          go_wp2_with fail
          refine (C2.out _).mono ?_
          rintro e v7 ⟨rfl, hb⟩
          clear yy0 yy1
          have M_8 : Hid (Blk v7 v1.heap.size 23 #[.string (zS n), .string (zS d)]) := Lib.hid (M_7.out.below hb M_7.out.lt)
          have Q_8 : Hid (Blk v7 g 23 #[.string a, .string b, .string (zS n), .string (zS d)]) := Lib.hid (Q_7.out.below hb Q_7.out.lt)
          have E_8 : Hid (Blk v7 wr.heap.size 23 #[.string (zS n), .string (zS d)]) := Lib.hid (E_7.out.below hb E_7.out.lt)
          have F_8 : Hid (Blk v7 v6.heap.size 23 #[.string tn, .string td]) := Lib.hid (F_7.out.below hb F_7.out.lt)
          have HB_8 : Hid (Below w.heap.size w v7) := Lib.hid (HB_7.out.trans (hb.mono HB_7.out.size))
          clear hb M_7 Q_7 E_7 F_7 HB_7
          have yy0 := E_8.out.cell (i := 0) (v := .string (zS n)) rfl; have yy1 := E_8.out.cell (i := 1) (v := .string (zS d)) rfl
          have yy2 := F_8.out.cell (i := 0) (v := .string tn) rfl; have yy3 := F_8.out.cell (i := 1) (v := .string td) rfl
          go_wp2_with fail
          refine (C3.out _).mono ?_
          rintro e v8 ⟨rfl, hb⟩
          clear yy0 yy1 yy2 yy3
          have M_9 : Hid (Blk v8 v1.heap.size 23 #[.string (zS n), .string (zS d)]) := Lib.hid (M_8.out.below hb M_8.out.lt)
          have Q_9 : Hid (Blk v8 g 23 #[.string a, .string b, .string (zS n), .string (zS d)]) := Lib.hid (Q_8.out.below hb Q_8.out.lt)
          have E_9 : Hid (Blk v8 wr.heap.size 23 #[.string (zS n), .string (zS d)]) := Lib.hid (E_8.out.below hb E_8.out.lt)
          have F_9 : Hid (Blk v8 v6.heap.size 23 #[.string tn, .string td]) := Lib.hid (F_8.out.below hb F_8.out.lt)
          have HB_9 : Hid (Below w.heap.size w v8) := Lib.hid (HB_8.out.trans (hb.mono HB_8.out.size))
          clear hb M_8 Q_8 E_8 F_8 HB_8
          have yy0 := E_9.out.cell (i := 0) (v := .string (zS n)) rfl; have yy1 := E_9.out.cell (i := 1) (v := .string (zS d)) rfl
          have yy2 := F_9.out.cell (i := 0) (v := .string tn) rfl; have yy3 := F_9.out.cell (i := 1) (v := .string td) rfl
          go_wp2_with fail
          refine (C3.out _).mono ?_
          rintro e v9 ⟨rfl, hb⟩
          clear yy0 yy1 yy2 yy3
          have M_10 : Hid (Blk v9 v1.heap.size 23 #[.string (zS n), .string (zS d)]) := Lib.hid (M_9.out.below hb M_9.out.lt)
          have Q_10 : Hid (Blk v9 g 23 #[.string a, .string b, .string (zS n), .string (zS d)]) := Lib.hid (Q_9.out.below hb Q_9.out.lt)
          have E_10 : Hid (Blk v9 wr.heap.size 23 #[.string (zS n), .string (zS d)]) := Lib.hid (E_9.out.below hb E_9.out.lt)
          have F_10 : Hid (Blk v9 v6.heap.size 23 #[.string tn, .string td]) := Lib.hid (F_9.out.below hb F_9.out.lt)
          have HB_10 : Hid (Below w.heap.size w v9) := Lib.hid (HB_9.out.trans (hb.mono HB_9.out.size))
          clear hb M_9 Q_9 E_9 F_9 HB_9
          go_wp2_with fail
          go_roundw
          case rel => exact ⟨2, rfl, (by simp), HB_10.out, M_10.out, Q_10.out⟩
          case measure => simp [intOf]
        · skip
          have yy0 := Q_4.out.cell (i := 2) (v := .string (zS n)) rfl; have yy1 := Q_4.out.cell (i := 3) (v := .string (zS d)) rfl
          go_upto_region 6 with fail
          clear yy0 yy1
          have M_5 := Lib.hid (M_4.out.alloc (.cells #[.string (zS n), .string (zS d)] 23))
          have Q_5 := Lib.hid (Q_4.out.alloc (.cells #[.string (zS n), .string (zS d)] 23))
          have HB_5 := Lib.hid (HB_4.out.alloc HB_4.out.size (.cells #[.string (zS n), .string (zS d)] 23))
          have E_5 : Hid (Blk (wr.alloc (.cells #[.string (zS n), .string (zS d)] 23)) wr.heap.size 23 #[.string (zS n), .string (zS d)]) := Lib.hid (Blk.new _ _ _)
          clear HB_4 M_4 Q_4
          have yy0 := E_5.out.cell (i := 0) (v := .string (zS n)) rfl; have yy1 := E_5.out.cell (i := 1) (v := .string (zS d)) rfl
          go_wp2_with fail
          refine (C1.out _).mono ?_
          rintro e v5 ⟨rfl, hb⟩
          clear yy0 yy1
          have M_6 : Hid (Blk v5 v1.heap.size 23 #[.string (zS n), .string (zS d)]) := Lib.hid (M_5.out.below hb M_5.out.lt)
          have Q_6 : Hid (Blk v5 g 23 #[.string a, .string b, .string (zS n), .string (zS d)]) := Lib.hid (Q_5.out.below hb Q_5.out.lt)
          have E_6 : Hid (Blk v5 wr.heap.size 23 #[.string (zS n), .string (zS d)]) := Lib.hid (E_5.out.below hb E_5.out.lt)
          have HB_6 : Hid (Below w.heap.size w v5) := Lib.hid (HB_5.out.trans (hb.mono HB_5.out.size))
          clear hb M_5 Q_5 E_5 HB_5
          go_wp2_with fail
          refine (C4.out _).mono ?_
          rintro e v6 ⟨rfl, hb⟩
          have M_7 : Hid (Blk (v6.alloc (.cells #[.string (zS n), .string (zS d)] 23)) v1.heap.size 23 #[.string (zS n), .string (zS d)]) := Lib.hid (allocs_keep [(#[.string (zS n), .string (zS d)], 23)] _ (M_6.out.below hb M_6.out.lt))
          have Q_7 : Hid (Blk (v6.alloc (.cells #[.string (zS n), .string (zS d)] 23)) g 23 #[.string a, .string b, .string (zS n), .string (zS d)]) := Lib.hid (allocs_keep [(#[.string (zS n), .string (zS d)], 23)] _ (Q_6.out.below hb Q_6.out.lt))
          have E_7 : Hid (Blk (v6.alloc (.cells #[.string (zS n), .string (zS d)] 23)) wr.heap.size 23 #[.string (zS n), .string (zS d)]) := Lib.hid (allocs_keep [(#[.string (zS n), .string (zS d)], 23)] _ (E_6.out.below hb E_6.out.lt))
          have HB_7 : Hid (Below w.heap.size w (v6.alloc (.cells #[.string (zS n), .string (zS d)] 23))) := Lib.hid (allocs_below [(#[.string (zS n), .string (zS d)], 23)] _ (HB_6.out.trans (hb.mono HB_6.out.size)) (HB_6.out.trans (hb.mono HB_6.out.size)).size)
          have F_7 : Hid (Blk (v6.alloc (.cells #[.string (zS n), .string (zS d)] 23)) v6.heap.size 23 #[.string (zS n), .string (zS d)]) := Lib.hid (allocs_blk [(#[.string (zS n), .string (zS d)], 23)] v6 0 _ rfl)
          clear hb M_6 Q_6 E_6 HB_6
          have yy0 := E_7.out.cell (i := 0) (v := .string (zS n)) rfl; have yy1 := E_7.out.cell (i := 1) (v := .string (zS d)) rfl
          go_wp2_with fail
          refine (C2.out _).mono ?_
          rintro e v7 ⟨rfl, hb⟩
          clear yy0 yy1
          have M_8 : Hid (Blk v7 v1.heap.size 23 #[.string (zS n), .string (zS d)]) := Lib.hid (M_7.out.below hb M_7.out.lt)
          have Q_8 : Hid (Blk v7 g 23 #[.string a, .string b, .string (zS n), .string (zS d)]) := Lib.hid (Q_7.out.below hb Q_7.out.lt)
          have E_8 : Hid (Blk v7 wr.heap.size 23 #[.string (zS n), .string (zS d)]) := Lib.hid (E_7.out.below hb E_7.out.lt)
          have F_8 : Hid (Blk v7 v6.heap.size 23 #[.string (zS n), .string (zS d)]) := Lib.hid (F_7.out.below hb F_7.out.lt)
          have HB_8 : Hid (Below w.heap.size w v7) := Lib.hid (HB_7.out.trans (hb.mono HB_7.out.size))
          clear hb M_7 Q_7 E_7 F_7 HB_7
          have yy0 := E_8.out.cell (i := 0) (v := .string (zS n)) rfl; have yy1 := E_8.out.cell (i := 1) (v := .string (zS d)) rfl
          have yy2 := F_8.out.cell (i := 0) (v := .string (zS n)) rfl; have yy3 := F_8.out.cell (i := 1) (v := .string (zS d)) rfl
          go_wp2_with fail
          refine (C3.out _).mono ?_
          rintro e v8 ⟨rfl, hb⟩
          clear yy0 yy1 yy2 yy3
          have M_9 : Hid (Blk v8 v1.heap.size 23 #[.string (zS n), .string (zS d)]) := Lib.hid (M_8.out.below hb M_8.out.lt)
          have Q_9 : Hid (Blk v8 g 23 #[.string a, .string b, .string (zS n), .string (zS d)]) := Lib.hid (Q_8.out.below hb Q_8.out.lt)
          have E_9 : Hid (Blk v8 wr.heap.size 23 #[.string (zS n), .string (zS d)]) := Lib.hid (E_8.out.below hb E_8.out.lt)
          have F_9 : Hid (Blk v8 v6.heap.size 23 #[.string (zS n), .string (zS d)]) := Lib.hid (F_8.out.below hb F_8.out.lt)
          have HB_9 : Hid (Below w.heap.size w v8) := Lib.hid (HB_8.out.trans (hb.mono HB_8.out.size))
          clear hb M_8 Q_8 E_8 F_8 HB_8
          have yy0 := E_9.out.cell (i := 0) (v := .string (zS n)) rfl; have yy1 := E_9.out.cell (i := 1) (v := .string (zS d)) rfl
          have yy2 := F_9.out.cell (i := 0) (v := .string (zS n)) rfl; have yy3 := F_9.out.cell (i := 1) (v := .string (zS d)) rfl
          go_wp2_with fail
          refine (C3.out _).mono ?_
          rintro e v9 ⟨rfl, hb⟩
          clear yy0 yy1 yy2 yy3
          have M_10 : Hid (Blk v9 v1.heap.size 23 #[.string (zS n), .string (zS d)]) := Lib.hid (M_9.out.below hb M_9.out.lt)
          have Q_10 : Hid (Blk v9 g 23 #[.string a, .string b, .string (zS n), .string (zS d)]) := Lib.hid (Q_9.out.below hb Q_9.out.lt)
          have E_10 : Hid (Blk v9 wr.heap.size 23 #[.string (zS n), .string (zS d)]) := Lib.hid (E_9.out.below hb E_9.out.lt)
          have F_10 : Hid (Blk v9 v6.heap.size 23 #[.string (zS n), .string (zS d)]) := Lib.hid (F_9.out.below hb F_9.out.lt)
          have HB_10 : Hid (Below w.heap.size w v9) := Lib.hid (HB_9.out.trans (hb.mono HB_9.out.size))
          clear hb M_9 Q_9 E_9 F_9 HB_9
          go_wp2_with fail
          go_roundw
          case rel => exact ⟨2, rfl, (by simp), HB_10.out, M_10.out, Q_10.out⟩
          case measure => simp [intOf]
      · skip
        have hsz := print_size HG.out
        have hne := @print_ne (n, d)
        have hr := fun W => rprint_any (zS n) (zS d) W (good_zs HG.out)
        rw [good_rd HG.out] at hr
        obtain ⟨sm, hsm⟩ : ∃ s, s = printQ (some (n, d)) := ⟨_, rfl⟩
        rw [← hsm] at hsz hne hr
        have hpos : 0 < sm.size := by
          rw [← bs_self sm, bs_size]
          cases h : sm.data.toList with
          | nil => exact absurd h hne
          | cons c r => simp
        have hnb : (sm.toList == []) = false := by rw [toList_data, beq_eq_false_iff_ne]; exact hne
        have RP := Lib.hid hr
        have PK := Lib.hid (fun W => pick_any at0' (sm.size : Int) W HAT.out (by omega))
        clear hr hsm hne
        have yy0 := M_4.out.cell (i := 0) (v := .string (zS n)) rfl; have yy1 := M_4.out.cell (i := 1) (v := .string (zS d)) rfl
        go_wp2_with fail
        refine (RP.out _).mono ?_
        rintro e v4 ⟨rfl, hb⟩
        clear yy0 yy1
        have HB_5 : Hid (Below w.heap.size w v4) := Lib.hid (HB_4.out.trans (hb.mono HB_4.out.size))
        clear hb M_4 Q_4 HB_4
        go_wp2_with fail
        refine (PK.out _).mono ?_
        rintro e wp ⟨k, hk, rfl, rfl⟩
        go_upto_region 15 with fail
        obtain ⟨m, hif, hm, hsl⟩ := cutN_at (P := Try.prog) 9 Try.underlying9 raw 420
        rw [show ((420 : Nat) : Int) = 420 from rfl] at hif
        have hS1 := cutN_size 420 raw
        obtain ⟨R1, hR1⟩ : ∃ x, x = cutN 420 raw := ⟨_, rfl⟩
        rw [← hR1] at hsl hS1
        have hsl1 := fun w => run_slice_top (P := Try.prog) 9 Try.underlying9 sm (y := (k : Int)) k rfl (by omega) w
        have hsl2 := fun w => run_slice_lo (P := Try.prog) 9 Try.underlying9 sm (x := (k : Int) + 1) (k + 1) (by omega) (by omega) w
        have hS2 : (sm.extract 0 k).size ≤ 9000000000000000 := by rw [ByteArray.size_extract]; omega
        have hS3 : (sm.extract (k + 1) sm.size).size ≤ 9000000000000000 := by rw [ByteArray.size_extract]; omega
        obtain ⟨x1, hx1⟩ : ∃ x, x = sm.extract 0 k := ⟨_, rfl⟩
        obtain ⟨x2, hx2⟩ : ∃ x, x = sm.extract (k + 1) sm.size := ⟨_, rfl⟩
        simp only [← hx1] at hsl1 hS2
        simp only [← hx2] at hsl2 hS3
        have hw : IntKind.i64.wrap ((k : Int) + 1) = (k : Int) + 1 := IntWalk.i64_in _ (by omega)
        have hcv : ∀ (w : World) (g : Nat), w.cell? ⟨g, 0, none⟩ = some (.int .u8 cc) → (convert 35 9 (.slice (some ⟨g, 0, none⟩) 1 1)).run Try.prog w = .ok (.string ⟨#[UInt8.ofNat cc.toNat]⟩) w := fun w g h => by
          have hb := HC.out
          have hu : ((UInt8.ofNat cc.toNat).toNat : Int) = cc := by rw [UInt8.toNat_ofNat', Nat.mod_eq_of_lt (by omega)]; omega
          refine run_convert_bytes_back w 35 9 5 ⟨g, 0, none⟩ 1 [UInt8.ofNat cc.toNat] Try.underlying35 Try.underlying5 Try.underlying9 fun j hj => ?_
          have hj0 : j = 0 := by simp at hj; omega
          subst hj0
          have e1 : (⟨g, 0, none⟩ : Addr).add 0 = ⟨g, 0, none⟩ := by unfold Addr.add; simp
          rw [e1, h]
          show some (Value.int .u8 cc) = some (.int .u8 ((UInt8.ofNat cc.toNat).toNat : Int))
          rw [hu]
        obtain ⟨cs, hcs⟩ : ∃ x : ByteArray, x = ⟨#[UInt8.ofNat cc.toNat]⟩ := ⟨_, rfl⟩
        have hcs1 : cs.size = 1 := by rw [hcs]; rfl
        rw [← hcs] at hcv
        clear hx1 hx2 hR1 hcs
        go_region
        clear hif hm hsl hsl1 hsl2 hw hcv hpos hnb
        have HB_6 : Hid (Below w.heap.size w ((v4.alloc (.cells #[.int .u8 cc] 5)).alloc (.cells #[.string R1, .string (x1 ++ cs ++ x2)] 9)).drew) := Lib.hid ((HB_5.out.alloc HB_5.out.size _).alloc (HB_5.out.alloc HB_5.out.size _).size _).drew
        have G_6 : Hid (Blk ((v4.alloc (.cells #[.int .u8 cc] 5)).alloc (.cells #[.string R1, .string (x1 ++ cs ++ x2)] 9)).drew (v4.heap.size + 1) 9 #[.string R1, .string (x1 ++ cs ++ x2)]) := by
          have h := (Blk.new (v4.alloc (.cells #[.int .u8 cc] 5)) 9 #[.string R1, .string (x1 ++ cs ++ x2)]).drew
          exact Lib.hid (by simpa using h)
        have J0 := Lib.hid (item2_any R1 (by omega))
        have J1 := Lib.hid (item2_any (x1 ++ cs ++ x2) (by rw [ByteArray.size_append, ByteArray.size_append]; omega))
        clear HB_5 hS1 hS2 hS3 hcs1 hk hsz
        go_wp2_with fail
        go_loopw [96] (fun ii wr => ∃ i : Int, ii = .int .i64 i ∧ (i = 0 ∨ i = 1 ∨ i = 2) ∧ Below w.heap.size w wr ∧ Blk wr (v4.heap.size + 1) 9 #[.string R1, .string (x1 ++ cs ++ x2)]) (fun ii _ => 2 - (intOf ii).toNat)
        case atStart => exact ⟨0, rfl, .inl rfl, HB_6.out, G_6.out⟩
        case round =>
          clear HB_6 G_6
          obtain ⟨i, rfl, hi, hb, hG⟩ := hrel
          have HB_7 := Lib.hid hb; have G_7 := Lib.hid hG
          clear hb hG
          rcases hi with rfl | rfl | rfl
          · obtain ⟨rn, rd, ez, k1, k2, hcase⟩ := J0.out
            have C1 := Lib.hid k1; have C2 := Lib.hid k2
            clear k1 k2
            obtain rfl | ⟨rfl, k3⟩ := hcase
            · skip
              have yy0 := G_7.out.cell (i := 0) (v := .string R1) rfl
              go_wp2_with fail
              refine (C1.out _).mono ?_
              rintro e v7 ⟨rfl, hb⟩
              clear yy0
              have G_8 : Hid (Blk (v7.alloc (.cells #[.string rn, .string rd] 23)) (v4.heap.size + 1) 9 #[.string R1, .string (x1 ++ cs ++ x2)]) := Lib.hid (allocs_keep [(#[.string rn, .string rd], 23)] _ (G_7.out.below hb G_7.out.lt))
              have HB_8 : Hid (Below w.heap.size w (v7.alloc (.cells #[.string rn, .string rd] 23))) := Lib.hid (allocs_below [(#[.string rn, .string rd], 23)] _ (HB_7.out.trans (hb.mono HB_7.out.size)) (HB_7.out.trans (hb.mono HB_7.out.size)).size)
              have F_8 : Hid (Blk (v7.alloc (.cells #[.string rn, .string rd] 23)) v7.heap.size 23 #[.string rn, .string rd]) := Lib.hid (allocs_blk [(#[.string rn, .string rd], 23)] v7 0 _ rfl)
              clear hb G_7 HB_7
              go_wp2_with fail
              refine (C2.out _).mono ?_
              rintro e v8 ⟨rfl, hb⟩
              have G_9 : Hid (Blk (v8.alloc (.cells #[.string rn, .string rd] 23)) (v4.heap.size + 1) 9 #[.string R1, .string (x1 ++ cs ++ x2)]) := Lib.hid (allocs_keep [(#[.string rn, .string rd], 23)] _ (G_8.out.below hb G_8.out.lt))
              have F_9 : Hid (Blk (v8.alloc (.cells #[.string rn, .string rd] 23)) v7.heap.size 23 #[.string rn, .string rd]) := Lib.hid (allocs_keep [(#[.string rn, .string rd], 23)] _ (F_8.out.below hb F_8.out.lt))
              have HB_9 : Hid (Below w.heap.size w (v8.alloc (.cells #[.string rn, .string rd] 23))) := Lib.hid (allocs_below [(#[.string rn, .string rd], 23)] _ (HB_8.out.trans (hb.mono HB_8.out.size)) (HB_8.out.trans (hb.mono HB_8.out.size)).size)
              have H_9 : Hid (Blk (v8.alloc (.cells #[.string rn, .string rd] 23)) v8.heap.size 23 #[.string rn, .string rd]) := Lib.hid (allocs_blk [(#[.string rn, .string rd], 23)] v8 0 _ rfl)
              clear hb G_8 F_8 HB_8
              have yy0 := F_9.out.cell (i := 0) (v := .string rn) rfl; have yy1 := F_9.out.cell (i := 1) (v := .string rd) rfl
              have yy2 := H_9.out.cell (i := 0) (v := .string rn) rfl; have yy3 := H_9.out.cell (i := 1) (v := .string rd) rfl
              go_wp2_with fail
              go_roundw
              case rel => exact ⟨1, rfl, (by simp), HB_9.out, G_9.out⟩
              case measure => simp [intOf]
            · skip
              have C3 := Lib.hid k3; clear k3
              have yy0 := G_7.out.cell (i := 0) (v := .string R1) rfl
              go_wp2_with fail
              refine (C1.out _).mono ?_
              rintro e v7 ⟨rfl, hb⟩
              clear yy0
              have G_8 : Hid (Blk (v7.alloc (.cells #[.string rn, .string rd] 23)) (v4.heap.size + 1) 9 #[.string R1, .string (x1 ++ cs ++ x2)]) := Lib.hid (allocs_keep [(#[.string rn, .string rd], 23)] _ (G_7.out.below hb G_7.out.lt))
              have HB_8 : Hid (Below w.heap.size w (v7.alloc (.cells #[.string rn, .string rd] 23))) := Lib.hid (allocs_below [(#[.string rn, .string rd], 23)] _ (HB_7.out.trans (hb.mono HB_7.out.size)) (HB_7.out.trans (hb.mono HB_7.out.size)).size)
              have F_8 : Hid (Blk (v7.alloc (.cells #[.string rn, .string rd] 23)) v7.heap.size 23 #[.string rn, .string rd]) := Lib.hid (allocs_blk [(#[.string rn, .string rd], 23)] v7 0 _ rfl)
              clear hb G_7 HB_7
              go_wp2_with fail
              refine (C2.out _).mono ?_
              rintro e v8 ⟨rfl, hb⟩
              have G_9 : Hid (Blk (v8.alloc (.cells #[.string rn, .string rd] 23)) (v4.heap.size + 1) 9 #[.string R1, .string (x1 ++ cs ++ x2)]) := Lib.hid (allocs_keep [(#[.string rn, .string rd], 23)] _ (G_8.out.below hb G_8.out.lt))
              have F_9 : Hid (Blk (v8.alloc (.cells #[.string rn, .string rd] 23)) v7.heap.size 23 #[.string rn, .string rd]) := Lib.hid (allocs_keep [(#[.string rn, .string rd], 23)] _ (F_8.out.below hb F_8.out.lt))
              have HB_9 : Hid (Below w.heap.size w (v8.alloc (.cells #[.string rn, .string rd] 23))) := Lib.hid (allocs_below [(#[.string rn, .string rd], 23)] _ (HB_8.out.trans (hb.mono HB_8.out.size)) (HB_8.out.trans (hb.mono HB_8.out.size)).size)
              have H_9 : Hid (Blk (v8.alloc (.cells #[.string rn, .string rd] 23)) v8.heap.size 23 #[.string rn, .string rd]) := Lib.hid (allocs_blk [(#[.string rn, .string rd], 23)] v8 0 _ rfl)
              clear hb G_8 F_8 HB_8
              have yy0 := F_9.out.cell (i := 0) (v := .string rn) rfl; have yy1 := F_9.out.cell (i := 1) (v := .string rd) rfl
              have yy2 := H_9.out.cell (i := 0) (v := .string rn) rfl; have yy3 := H_9.out.cell (i := 1) (v := .string rd) rfl
              go_wp2_with fail
              refine (C3.out _).mono ?_
              rintro e v9 ⟨rfl, hb⟩
              clear yy0 yy1 yy2 yy3
              have G_10 : Hid (Blk v9 (v4.heap.size + 1) 9 #[.string R1, .string (x1 ++ cs ++ x2)]) := Lib.hid (G_9.out.below hb G_9.out.lt)
              have F_10 : Hid (Blk v9 v7.heap.size 23 #[.string rn, .string rd]) := Lib.hid (F_9.out.below hb F_9.out.lt)
              have H_10 : Hid (Blk v9 v8.heap.size 23 #[.string rn, .string rd]) := Lib.hid (H_9.out.below hb H_9.out.lt)
              have HB_10 : Hid (Below w.heap.size w v9) := Lib.hid (HB_9.out.trans (hb.mono HB_9.out.size))
              clear hb G_9 F_9 H_9 HB_9
              go_wp2_with fail
              go_roundw
              case rel => exact ⟨1, rfl, (by simp), HB_10.out, G_10.out⟩
              case measure => simp [intOf]
          · obtain ⟨rn, rd, ez, k1, k2, hcase⟩ := J1.out
            have C1 := Lib.hid k1; have C2 := Lib.hid k2
            clear k1 k2
            obtain rfl | ⟨rfl, k3⟩ := hcase
            · skip
              have yy0 := G_7.out.cell (i := 1) (v := .string (x1 ++ cs ++ x2)) rfl
              go_wp2_with fail
              refine (C1.out _).mono ?_
              rintro e v7 ⟨rfl, hb⟩
              clear yy0
              have G_8 : Hid (Blk (v7.alloc (.cells #[.string rn, .string rd] 23)) (v4.heap.size + 1) 9 #[.string R1, .string (x1 ++ cs ++ x2)]) := Lib.hid (allocs_keep [(#[.string rn, .string rd], 23)] _ (G_7.out.below hb G_7.out.lt))
              have HB_8 : Hid (Below w.heap.size w (v7.alloc (.cells #[.string rn, .string rd] 23))) := Lib.hid (allocs_below [(#[.string rn, .string rd], 23)] _ (HB_7.out.trans (hb.mono HB_7.out.size)) (HB_7.out.trans (hb.mono HB_7.out.size)).size)
              have F_8 : Hid (Blk (v7.alloc (.cells #[.string rn, .string rd] 23)) v7.heap.size 23 #[.string rn, .string rd]) := Lib.hid (allocs_blk [(#[.string rn, .string rd], 23)] v7 0 _ rfl)
              clear hb G_7 HB_7
              go_wp2_with fail
              refine (C2.out _).mono ?_
              rintro e v8 ⟨rfl, hb⟩
              have G_9 : Hid (Blk (v8.alloc (.cells #[.string rn, .string rd] 23)) (v4.heap.size + 1) 9 #[.string R1, .string (x1 ++ cs ++ x2)]) := Lib.hid (allocs_keep [(#[.string rn, .string rd], 23)] _ (G_8.out.below hb G_8.out.lt))
              have F_9 : Hid (Blk (v8.alloc (.cells #[.string rn, .string rd] 23)) v7.heap.size 23 #[.string rn, .string rd]) := Lib.hid (allocs_keep [(#[.string rn, .string rd], 23)] _ (F_8.out.below hb F_8.out.lt))
              have HB_9 : Hid (Below w.heap.size w (v8.alloc (.cells #[.string rn, .string rd] 23))) := Lib.hid (allocs_below [(#[.string rn, .string rd], 23)] _ (HB_8.out.trans (hb.mono HB_8.out.size)) (HB_8.out.trans (hb.mono HB_8.out.size)).size)
              have H_9 : Hid (Blk (v8.alloc (.cells #[.string rn, .string rd] 23)) v8.heap.size 23 #[.string rn, .string rd]) := Lib.hid (allocs_blk [(#[.string rn, .string rd], 23)] v8 0 _ rfl)
              clear hb G_8 F_8 HB_8
              have yy0 := F_9.out.cell (i := 0) (v := .string rn) rfl; have yy1 := F_9.out.cell (i := 1) (v := .string rd) rfl
              have yy2 := H_9.out.cell (i := 0) (v := .string rn) rfl; have yy3 := H_9.out.cell (i := 1) (v := .string rd) rfl
              go_wp2_with fail
              go_roundw
              case rel => exact ⟨2, rfl, (by simp), HB_9.out, G_9.out⟩
              case measure => simp [intOf]
            · skip
              have C3 := Lib.hid k3; clear k3
              have yy0 := G_7.out.cell (i := 1) (v := .string (x1 ++ cs ++ x2)) rfl
              go_wp2_with fail
              refine (C1.out _).mono ?_
              rintro e v7 ⟨rfl, hb⟩
              clear yy0
              have G_8 : Hid (Blk (v7.alloc (.cells #[.string rn, .string rd] 23)) (v4.heap.size + 1) 9 #[.string R1, .string (x1 ++ cs ++ x2)]) := Lib.hid (allocs_keep [(#[.string rn, .string rd], 23)] _ (G_7.out.below hb G_7.out.lt))
              have HB_8 : Hid (Below w.heap.size w (v7.alloc (.cells #[.string rn, .string rd] 23))) := Lib.hid (allocs_below [(#[.string rn, .string rd], 23)] _ (HB_7.out.trans (hb.mono HB_7.out.size)) (HB_7.out.trans (hb.mono HB_7.out.size)).size)
              have F_8 : Hid (Blk (v7.alloc (.cells #[.string rn, .string rd] 23)) v7.heap.size 23 #[.string rn, .string rd]) := Lib.hid (allocs_blk [(#[.string rn, .string rd], 23)] v7 0 _ rfl)
              clear hb G_7 HB_7
              go_wp2_with fail
              refine (C2.out _).mono ?_
              rintro e v8 ⟨rfl, hb⟩
              have G_9 : Hid (Blk (v8.alloc (.cells #[.string rn, .string rd] 23)) (v4.heap.size + 1) 9 #[.string R1, .string (x1 ++ cs ++ x2)]) := Lib.hid (allocs_keep [(#[.string rn, .string rd], 23)] _ (G_8.out.below hb G_8.out.lt))
              have F_9 : Hid (Blk (v8.alloc (.cells #[.string rn, .string rd] 23)) v7.heap.size 23 #[.string rn, .string rd]) := Lib.hid (allocs_keep [(#[.string rn, .string rd], 23)] _ (F_8.out.below hb F_8.out.lt))
              have HB_9 : Hid (Below w.heap.size w (v8.alloc (.cells #[.string rn, .string rd] 23))) := Lib.hid (allocs_below [(#[.string rn, .string rd], 23)] _ (HB_8.out.trans (hb.mono HB_8.out.size)) (HB_8.out.trans (hb.mono HB_8.out.size)).size)
              have H_9 : Hid (Blk (v8.alloc (.cells #[.string rn, .string rd] 23)) v8.heap.size 23 #[.string rn, .string rd]) := Lib.hid (allocs_blk [(#[.string rn, .string rd], 23)] v8 0 _ rfl)
              clear hb G_8 F_8 HB_8
              have yy0 := F_9.out.cell (i := 0) (v := .string rn) rfl; have yy1 := F_9.out.cell (i := 1) (v := .string rd) rfl
              have yy2 := H_9.out.cell (i := 0) (v := .string rn) rfl; have yy3 := H_9.out.cell (i := 1) (v := .string rd) rfl
              go_wp2_with fail
              refine (C3.out _).mono ?_
              rintro e v9 ⟨rfl, hb⟩
              clear yy0 yy1 yy2 yy3
              have G_10 : Hid (Blk v9 (v4.heap.size + 1) 9 #[.string R1, .string (x1 ++ cs ++ x2)]) := Lib.hid (G_9.out.below hb G_9.out.lt)
              have F_10 : Hid (Blk v9 v7.heap.size 23 #[.string rn, .string rd]) := Lib.hid (F_9.out.below hb F_9.out.lt)
              have H_10 : Hid (Blk v9 v8.heap.size 23 #[.string rn, .string rd]) := Lib.hid (H_9.out.below hb H_9.out.lt)
              have HB_10 : Hid (Below w.heap.size w v9) := Lib.hid (HB_9.out.trans (hb.mono HB_9.out.size))
              clear hb G_9 F_9 H_9 HB_9
              go_wp2_with fail
              go_roundw
              case rel => exact ⟨2, rfl, (by simp), HB_10.out, G_10.out⟩
              case measure => simp [intOf]
          · go_wp2_with fail
            go_ret
            exact ⟨rfl, HB_7.out⟩
end Go.Proofs.Ytnacgdkihkfjkaa
