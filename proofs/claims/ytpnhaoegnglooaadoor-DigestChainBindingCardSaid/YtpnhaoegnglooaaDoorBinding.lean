/- The contract of DigestBinding. Conditions: the arguments read; the numbers are of their Go type; the table holds what its text says. -/
import Derived.Test.YtpnhaoegnglooaaDoorCollide
namespace Go.Proofs.YtpnhaoegnglooaaDoor
open Go.RowKit Go.Lib

theorem verB_true {root s : ByteArray} {n i : Int} {P : List ByteArray} (h : verB root n i s P = true) : ∃ M I : Nat, n = M ∧ i = I ∧ I < M ∧ (∀ x ∈ P, x.size = 32) ∧ (valueB M I s P).2 = true ∧ (valueB M I s P).1 = root := by
  unfold verB at h
  simp only [Bool.and_eq_true, decide_eq_true_eq] at h
  obtain ⟨⟨h1, h2⟩, h3, h4, h5⟩ := h
  exact ⟨n.toNat, i.toNat, by omega, by omega, by omega, all32_mem h3, h4, h5⟩
theorem way_smalls : ∀ (q : List ByteArray) (s : ByteArray), s.size ≤ 1000 → (∀ x ∈ q, x.size ≤ 1000) → ∀ n i, ∀ z ∈ (wayR n i s q).1, Small z
  | [], s, hs, _, n, i, z, hz => by
    simp only [wayR, List.mem_singleton] at hz
    subst hz
    have : (mk (0 :: s.data.toList)).size = s.size + 1 := by rw [← cat2, ByteArray.size_append]; show 1 + _ = _; omega
    unfold Small; omega
  | x :: q, s, hs, hq, n, i, z, hz => by
    have hx := hq x (by simp)
    have hm : ∀ r t : ByteArray, (mk (1 :: (r.data.toList ++ t.data.toList))).size = 1 + r.size + t.size := fun r t => by rw [← cat3, ByteArray.size_append, ByteArray.size_append]; rfl
    unfold wayR at hz
    split at hz
    · simp only [List.mem_singleton] at hz
      subst hz
      have : (mk (0 :: s.data.toList)).size = s.size + 1 := by rw [← cat2, ByteArray.size_append]; show 1 + _ = _; omega
      unfold Small; omega
    · split at hz
      · simp only [List.mem_cons] at hz
        rcases hz with rfl | hz
        · unfold Small; rw [hm, wayR_size]; omega
        · exact way_smalls q s hs (fun y hy => hq y (by simp [hy])) _ _ z hz
      · simp only [List.mem_cons] at hz
        rcases hz with rfl | hz
        · unfold Small; rw [hm, wayR_size]; omega
        · exact way_smalls q s hs (fun y hy => hq y (by simp [hy])) _ _ z hz
theorem fewL_60 (L : List ByteArray) (k : Nat) : ∀ s ∈ fewL L k, s.size ≤ 60 := fun s hs => by
  unfold fewL at hs
  obtain ⟨x, _, rfl⟩ := List.mem_map.1 hs
  exact cut60_size x

set_option maxRecDepth 100000 in
set_option maxHeartbeats 1000000 in
theorem binding_law (root : ByteArray) (num i : Int) (s : ByteArray) (A1 : Option Addr) (n1 c1 : Nat) (L1 : List ByteArray) (t : ByteArray) (A2 : Option Addr) (n2 c2 : Nat) (L2 : List ByteArray) (w : World) (hnum : num ≤ 9223372036854775807)
    (h1 : Arg w A1 n1 L1) (m1 : n1 ≤ 9223372036854775807) (h2 : Arg w A2 n2 L2) (m2 : n2 ≤ 9223372036854775807) (hT : Tab w) :
    Calls Tryd.prog 8 #[.string root, .int .i64 num, .int .i64 i, .string s, .slice A1 n1 c1, .string t, .slice A2 n2 c2] w fun e w' => e = .returned (.bool true) ∧ Below w.heap.size w w' := by
  have N0 := Lib.hid (Now.start hT)
  have C1 := Lib.hid fun W (h : Now w W) => few_any A1 n1 c1 70 L1 W (h1.below h.1) (by omega) m1
  have C2 := Lib.hid fun W (h : Now w W) => few_any A2 n2 c2 70 L2 W (h2.below h.1) (by omega) m2
  have f1 := fewL_le L1 70
  have f2 := fewL_le L2 70
  have g1 := fewL_60 L1 70
  have g2 := fewL_60 L2 70
  obtain ⟨P, hP⟩ : ∃ P, P = fewL L1 70 := ⟨_, rfl⟩
  obtain ⟨Q, hQ⟩ : ∃ Q, Q = fewL L2 70 := ⟨_, rfl⟩
  rw [← hP] at C1 f1 g1
  rw [← hQ] at C2 f2 g2
  obtain ⟨lp, hlp⟩ : ∃ lp, P.length = lp := ⟨_, rfl⟩
  obtain ⟨lq, hlq⟩ : ∃ lq, Q.length = lq := ⟨_, rfl⟩
  have lp70 : lp ≤ 70 := by omega
  have lq70 : lq ≤ 70 := by omega
  have HLP := Lib.hid hlp; have HLQ := Lib.hid hlq
  have G1 : Hid (∀ x ∈ P, x.size ≤ 9223372036854775807) := fun x hx => by have := g1 x hx; omega
  have G2 : Hid (∀ x ∈ Q, x.size ≤ 9223372036854775807) := fun x hx => by have := g2 x hx; omega
  obtain ⟨hif, hsl⟩ := cut_at (P := Tryd.prog) 9 Tryd.underlying9 s 60
  have hS1 := cut60_size s
  unfold cut60 at hS1
  obtain ⟨S, hS⟩ : ∃ S, S = s.extract 0 (min s.size 60) := ⟨_, rfl⟩
  rw [← hS] at hsl hS1
  obtain ⟨ms, hms⟩ : ∃ ms, ms = min s.size 60 := ⟨_, rfl⟩
  rw [← hms] at hif hsl
  rw [show ((60 : Nat) : Int) = 60 from rfl] at hif
  obtain ⟨hif2, hsl2⟩ := cut_at (P := Tryd.prog) 9 Tryd.underlying9 t 60
  have hS2 := cut60_size t
  unfold cut60 at hS2
  obtain ⟨T, hT2⟩ : ∃ T, T = t.extract 0 (min t.size 60) := ⟨_, rfl⟩
  rw [← hT2] at hsl2 hS2
  obtain ⟨mt, hmt⟩ : ∃ mt, mt = min t.size 60 := ⟨_, rfl⟩
  rw [← hmt] at hif2 hsl2
  rw [show ((60 : Nat) : Int) = 60 from rfl] at hif2
  clear h1 h2 m1 m2 hT hP hQ f1 f2 hlp hlq hS hms hT2 hmt
  have KV1 := Lib.hid fun W A c (h : Rd W W.heap.size A lp c P) (hT : Tab W) => verify_any root num i S A lp c _ P W hnum h (Nat.le_refl _) (by omega) (by unfold Small; omega) G1.out hT
  have KV2 := Lib.hid fun W A c (h : Rd W W.heap.size A lq c Q) (hT : Tab W) => verify_any root num i T A lq c _ Q W hnum h (Nat.le_refl _) (by omega) (by unfold Small; omega) G2.out hT
  have E1 := Lib.hid fun (h : verB root num i S P = true) => verB_true h
  have E2 := Lib.hid fun (h : verB root num i T Q = true) => verB_true h
  obtain ⟨v1, hv1⟩ : ∃ v1, v1 = verB root num i S P := ⟨_, rfl⟩
  obtain ⟨v2, hv2⟩ : ∃ v2, v2 = verB root num i T Q := ⟨_, rfl⟩
  rw [← hv1] at KV1 E1
  rw [← hv2] at KV2 E2
  clear hv1 hv2
  have q1 := str_beq S T
  have HQ := Lib.hid q1
  have HS1 := Lib.hid hS1; have HS2 := Lib.hid hS2; have HG1 := Lib.hid g1; have HG2 := Lib.hid g2
  clear q1 hS1 hS2 g1 g2
  go_enter Tryd.func8, Tryd.ntmps8
  go_wp2_with fail
  refine (sane_any _ N0.out.tab).mono ?_
  rintro e W1 ⟨rfl, hb1⟩
  have N1 := Lib.hid (N0.out.step hb1)
  clear hb1
  go_wp2_with fail
  refine (C1.out _ N1.out).mono ?_
  rintro e W2 ⟨u2, rfl, ho2, hb2⟩
  have N2 := Lib.hid (N1.out.step hb2)
  obtain ⟨A3, c3, rfl, -, hR2⟩ := own_slice2 ho2 HLP.out
  have HP2 := Lib.hid hR2
  clear hb2 ho2 hR2
  go_wp2_with fail
  refine (C2.out _ N2.out).mono ?_
  rintro e W3 ⟨u3, rfl, ho3, hb3⟩
  have N3 := Lib.hid (N2.out.step hb3); have HP3 := Lib.hid (HP2.out.step hb3)
  obtain ⟨A4, c4, rfl, -, hR3⟩ := own_slice2 ho3 HLQ.out
  have HQ3 := Lib.hid hR3
  clear hb3 ho3 hR3 N2 HP2
  go_wp2_with fail
  refine (KV1.out _ _ _ HP3.out N3.out.tab).mono ?_
  rintro e W4 ⟨rfl, hb4⟩
  have N4 := Lib.hid (N3.out.step hb4); have HP4 := Lib.hid (HP3.out.step hb4); have HQ4 := Lib.hid (HQ3.out.step hb4)
  clear hb4 N3 HP3 HQ3
  go_wp2_with fail
  refine (KV2.out _ _ _ HQ4.out N4.out.tab).mono ?_
  rintro e W5 ⟨rfl, hb5⟩
  have N5 := Lib.hid (N4.out.step hb5); have HP5 := Lib.hid (HP4.out.step hb5); have HQ5 := Lib.hid (HQ4.out.step hb5)
  clear hb5 N4 HP4 HQ4 KV1 KV2
  cases v1
  · clear hif hsl hif2 hsl2
    go_wp2
    go_ret
    exact ⟨rfl, N5.out.1⟩
  cases v2
  · clear hif hsl hif2 hsl2
    go_wp2
    go_ret
    exact ⟨rfl, N5.out.1⟩
  by_cases hst : S = T
  · have hq := HQ.out
    rw [decide_eq_true hst] at hq
    clear hif hsl hif2 hsl2 hst
    go_wp2
    go_ret
    exact ⟨rfl, N5.out.1⟩
  · have hq := HQ.out
    rw [decide_eq_false hst] at hq
    obtain ⟨M, I, rfl, rfl, hIM, p32, ok1, val1⟩ := E1.out rfl
    obtain ⟨M', I', hM', hI', -, q32, ok2, val2⟩ := E2.out rfl
    obtain rfl : M' = M := by omega
    obtain rfl : I' = I := by omega
    have hcol := way_binds P.reverse Q.reverse M' I' S T (by omega) (fun x hx => p32 x (by simpa using hx)) (fun x hx => q32 x (by simpa using hx)) ok1 ok2 (val1.trans val2.symm) hst
    have W1 := Lib.hid fun W A c (h : Rd W W.heap.size A lp c P) (hT : Tab W) => way_any lp P A lp c _ M' I' S W (by have := HLP.out; omega) h (Nat.le_refl _) (by omega) (by omega) (by omega) hIM (by have := HS1.out; omega) (fun x hx => by rw [p32 x hx]; omega) hT
    have W2 := Lib.hid fun W A c (h : Rd W W.heap.size A lq c Q) (hT : Tab W) => way_any lq Q A lq c _ M' I' T W (by have := HLQ.out; omega) h (Nat.le_refl _) (by omega) (by omega) (by omega) hIM (by have := HS2.out; omega) (fun x hx => by rw [q32 x hx]; omega) hT
    have a1 := way_smalls P.reverse S (by have := HS1.out; omega) (fun x hx => by rw [p32 x (by simpa using hx)]; omega) M' I'
    have a2 := way_smalls Q.reverse T (by have := HS2.out; omega) (fun x hx => by rw [q32 x (by simpa using hx)]; omega) M' I'
    have z1 := wayB_length M' I' S P
    have z2 := wayB_length M' I' T Q
    change collideB (wayB M' I' S P).1 (wayB M' I' T Q).1 = true at hcol
    change ∀ z ∈ (wayB M' I' S P).1, Small z at a1
    change ∀ z ∈ (wayB M' I' T Q).1, Small z at a2
    obtain ⟨r1, hr1⟩ : ∃ r, r = wayB M' I' S P := ⟨_, rfl⟩
    obtain ⟨r2, hr2⟩ : ∃ r, r = wayB M' I' T Q := ⟨_, rfl⟩
    rw [← hr1] at hcol W1 a1 z1
    rw [← hr2] at hcol W2 a2 z2
    rw [HLP.out] at z1
    rw [HLQ.out] at z2
    obtain ⟨X, xs⟩ := r1
    obtain ⟨Y, ys⟩ := r2
    dsimp only at hcol a1 a2 z1 z2
    have HCOL := Lib.hid hcol; have HA1 := Lib.hid a1; have HA2 := Lib.hid a2
    obtain ⟨lx, hlx⟩ : ∃ lx, X.length = lx := ⟨_, rfl⟩
    obtain ⟨ly, hly⟩ : ∃ ly, Y.length = ly := ⟨_, rfl⟩
    rw [hlx] at z1
    rw [hly] at z2
    have HLX := Lib.hid hlx; have HLY := Lib.hid hly
    clear hif hsl hif2 hsl2 hst hM' hI' p32 q32 ok1 ok2 val1 val2 hcol a1 a2 hr1 hr2 hlx hly
    go_wp2_with fail
    refine (W1.out _ _ _ HP5.out N5.out.tab).mono ?_
    rintro e W6 ⟨u6, he, ho6, hb6⟩
    dsimp only at he ho6
    subst he
    have N6 := Lib.hid (N5.out.step hb6); have HQ6 := Lib.hid (HQ5.out.step hb6)
    obtain ⟨A6, c6, rfl, -, hX6⟩ := own_slice2 ho6 HLX.out
    have HX6 := Lib.hid hX6
    clear hb6 ho6 hX6 N5 HP5 HQ5
    go_wp2_with fail
    refine (W2.out _ _ _ HQ6.out N6.out.tab).mono ?_
    rintro e W7 ⟨u7, he, ho7, hb7⟩
    dsimp only at he ho7
    subst he
    have N7 := Lib.hid (N6.out.step hb7); have HX7 := Lib.hid (HX6.out.step hb7)
    obtain ⟨A7, c7, rfl, -, hY7⟩ := own_slice2 ho7 HLY.out
    have HY7 := Lib.hid hY7
    clear hb7 ho7 hY7 N6 HX6 HQ6
    go_wp2_with fail
    refine (collide_any A6 lx c6 X A7 ly c7 Y _ HX7.out HY7.out (by omega) (by omega) HA1.out HA2.out N7.out.tab).mono ?_
    rw [HCOL.out]
    rintro e W8 ⟨rfl, hb8⟩
    have N8 := Lib.hid (N7.out.step hb8)
    clear hb8 N7 HX7 HY7
    go_wp2
    go_ret
    exact ⟨rfl, N8.out.1⟩
end Go.Proofs.YtpnhaoegnglooaaDoor
