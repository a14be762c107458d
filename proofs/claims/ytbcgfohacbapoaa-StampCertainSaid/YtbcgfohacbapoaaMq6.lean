
/- The contracts of areMeets, Proper, isTold, When. Conditions: the slices read. -/
import Derived.Test.YtbcgfohacbapoaaSq6
namespace Go.Proofs.Ytbcgfohacbapoaa
open Go.RowKit Go.Lib

/-- A valid meeting. -/
def OkM (l : List Sk) (m : Mt) : Prop := m.a ≠ m.b ∧ (fnd l m.a).isSome = true ∧ (fnd l m.b).isSome = true ∧ (0 ≤ m.ta ∧ m.ta ≤ 1000000) ∧ (0 ≤ m.tb ∧ m.tb ≤ 1000000)
/-- Valid meetings. -/
def MtOk (l : List Sk) (ms : List Mt) : Prop := ms.length ≤ 60 ∧ ∀ m ∈ ms, OkM l m
noncomputable instance (l : List Sk) (ms : List Mt) : Decidable (MtOk l ms) := Classical.propDecidable _
def PrOk (l : List Sk) (ms : List Mt) : Prop := SkOk l ∧ MtOk l ms
noncomputable instance (l : List Sk) (ms : List Mt) : Decidable (PrOk l ms) := Classical.propDecidable _
theorem MtOk.met {l : List Sk} {ms : List Mt} (h : MtOk l ms) : Met l ms := fun m hm => ⟨fnd_isSome.1 (h.2 m hm).2.1, fnd_isSome.1 (h.2 m hm).2.2.1⟩
theorem MtOk.take {l : List Sk} {ms : List Mt} (h : MtOk l ms) (n : Nat) : MtOk l (ms.take n) := ⟨by have := h.1; simp; omega, fun m hm => h.2 m (List.mem_of_mem_take hm)⟩
set_option maxRecDepth 100000 in
set_option maxHeartbeats 4000000 in
theorem paremeets_go (l : List Sk) (ms : List Mt) (A B : Option Addr) (c d : Nat) (w : World) (hA : Kz w A l) (hz : l.length ≤ 9000000000000000000) (hB : Mz w B ms) (hy : ms.length ≤ 60) :
    Calls Try.prog 97 #[.slice B ms.length d, .slice A l.length c] w fun e w' => e = .returned (.bool (decide (MtOk l ms))) ∧ Below w.heap.size w w' := by
  have HM := Lib.hid hB
  have HC := Lib.hid (fun W (hb : Below w.heap.size w W) q => pskewof_any l q A c W (hA.below hb (Nat.le_refl _)) hz)
  have HY := Lib.hid hy
  have HBAD : Hid (∀ i (hi : i < ms.length), ¬ OkM l ms[i] → decide (MtOk l ms) = false) := Lib.hid (fun i hi hn => decide_eq_false fun h => hn (h.2 _ (List.getElem_mem hi)))
  have hy2 : ¬ (60 : Int) < (ms.length : Int) := by omega
  clear hA hB hz
  go_enter Try.func97, Try.ntmps97
  go_wp2_with fail
  clear hy2
  go_loopw [16] (fun ii wr => ∃ i : Nat, ii = .int .i64 i ∧ i ≤ ms.length ∧ (∀ j (hj : j < ms.length), j < i → OkM l ms[j]) ∧ Below w.heap.size w wr) (fun ii _ => ms.length - (intOf ii).toNat)
  case atStart => exact ⟨0, rfl, Nat.zero_le _, fun j _ hj => absurd hj (by omega), Below.refl _ _⟩
  case round =>
    obtain ⟨i, rfl, hi, hok, hB⟩ := hrel
    have HOK := Lib.hid hok; have HB := Lib.hid hB; clear hok hB
    by_cases hlt : i < ms.length
    case neg =>
      obtain rfl : i = ms.length := by omega
      have HT : Hid (decide (MtOk l ms) = true) := Lib.hid (decide_eq_true ⟨HY.out, fun m hm => by obtain ⟨j, hj, rfl⟩ := List.getElem_of_mem hm; exact HOK.out j hj hj⟩)
      clear hlt hi
      go_wp2_with fail
      go_ret
      exact ⟨by rw [HT.out]; rfl, HB.out⟩
    case pos =>
      obtain ⟨b, o, rfl⟩ := HM.out.some (by omega)
      obtain ⟨k0, k1, k2, k3⟩ := Mz.cell HM.out HB.out (Nat.le_refl _) hlt
      have HBD := Lib.hid (HBAD.out i hlt)
      obtain ⟨m, hm⟩ : ∃ m, m = ms[i] := ⟨_, rfl⟩
      rw [← hm] at k0 k1 k2 k3 HBD
      have HST : Hid (OkM l m → ∀ j (hj : j < ms.length), j < i + 1 → OkM l ms[j]) := Lib.hid (fun h j hj hji => by
        by_cases e : j = i
        · subst e; rw [← hm]; exact h
        · exact HOK.out j hj (by omega))
      obtain ⟨a, ta, b2, tb⟩ := m
      dsimp only at k0 k1 k2 k3
      have q1 : (0 : Int) ≤ (i : Int) := by omega
      have q2 : (i : Int) < (ms.length : Int) := by omega
      have q5 : (i : Int) + 1 ≤ 9223372036854775807 := by omega
      have HI := Lib.hid hlt
      clear hm hlt hi hy
      obtain ⟨s1, hs1⟩ : ∃ s, s = (fnd l a).getD z0 := ⟨_, rfl⟩
      obtain ⟨g1, hg1⟩ : ∃ s, s = (fnd l a).isSome := ⟨_, rfl⟩
      obtain ⟨s2, hs2⟩ : ∃ s, s = (fnd l b2).getD z0 := ⟨_, rfl⟩
      obtain ⟨g2, hg2⟩ : ∃ s, s = (fnd l b2).isSome := ⟨_, rfl⟩
      have HC1 := Lib.hid (fun W hb => HC.out W hb a); have HC2 := Lib.hid (fun W hb => HC.out W hb b2)
      rw [← hs1, ← hg1] at HC1; rw [← hs2, ← hg2] at HC2
      have HOM : Hid (OkM l ⟨a, ta, b2, tb⟩ ↔ a ≠ b2 ∧ g1 = true ∧ g2 = true ∧ (0 ≤ ta ∧ ta ≤ 1000000) ∧ (0 ≤ tb ∧ tb ≤ 1000000)) := Lib.hid (by unfold OkM; dsimp only; rw [← hg1, ← hg2])
      clear hs1 hg1 hs2 hg2
      have HB_0 := Lib.hid (HB.out.alloc HB.out.size (.cells #[.int .i64 a, .int .i64 ta, .int .i64 b2, .int .i64 tb] 79)); have M_0 := Lib.hid (Blk.new wr 79 #[.int .i64 a, .int .i64 ta, .int .i64 b2, .int .i64 tb])
      have yy0 := M_0.out.cell (i := 0) (v := .int .i64 a) rfl; have yy1 := M_0.out.cell (i := 1) (v := .int .i64 ta) rfl; have yy2 := M_0.out.cell (i := 2) (v := .int .i64 b2) rfl; have yy3 := M_0.out.cell (i := 3) (v := .int .i64 tb) rfl
      go_wp2_with fail
      refine (HC1.out _ HB_0.out).mono ?_
      rintro e v0 ⟨rfl, hb⟩
      clear k0 k1 k2 k3
      clear yy0 yy1 yy2 yy3
      have M_1 : Hid (Blk (v0.alloc (.cells #[.int .i64 s1.p, .int .i64 s1.lo, .int .i64 s1.hi] 77)) wr.heap.size 79 #[.int .i64 a, .int .i64 ta, .int .i64 b2, .int .i64 tb]) := Lib.hid (allocs_keep [(#[.int .i64 s1.p, .int .i64 s1.lo, .int .i64 s1.hi], 77)] _ (M_0.out.below hb M_0.out.lt))
      have HB_1 : Hid (Below w.heap.size w (v0.alloc (.cells #[.int .i64 s1.p, .int .i64 s1.lo, .int .i64 s1.hi] 77))) := Lib.hid (allocs_below [(#[.int .i64 s1.p, .int .i64 s1.lo, .int .i64 s1.hi], 77)] _ (HB_0.out.trans (hb.mono HB_0.out.size)) (HB_0.out.trans (hb.mono HB_0.out.size)).size)
      have X_1 : Hid (Blk (v0.alloc (.cells #[.int .i64 s1.p, .int .i64 s1.lo, .int .i64 s1.hi] 77)) v0.heap.size 77 #[.int .i64 s1.p, .int .i64 s1.lo, .int .i64 s1.hi]) := Lib.hid (allocs_blk [(#[.int .i64 s1.p, .int .i64 s1.lo, .int .i64 s1.hi], 77)] v0 0 _ rfl)
      clear hb M_0 HB_0
      have yy0 := M_1.out.cell (i := 0) (v := .int .i64 a) rfl; have yy1 := M_1.out.cell (i := 1) (v := .int .i64 ta) rfl; have yy2 := M_1.out.cell (i := 2) (v := .int .i64 b2) rfl; have yy3 := M_1.out.cell (i := 3) (v := .int .i64 tb) rfl
      go_wp2_with fail
      refine (HC2.out _ HB_1.out).mono ?_
      rintro e v1 ⟨rfl, hb⟩
      clear yy0 yy1 yy2 yy3
      have M_2 : Hid (Blk (v1.alloc (.cells #[.int .i64 s2.p, .int .i64 s2.lo, .int .i64 s2.hi] 77)) wr.heap.size 79 #[.int .i64 a, .int .i64 ta, .int .i64 b2, .int .i64 tb]) := Lib.hid (allocs_keep [(#[.int .i64 s2.p, .int .i64 s2.lo, .int .i64 s2.hi], 77)] _ (M_1.out.below hb M_1.out.lt))
      have X_2 : Hid (Blk (v1.alloc (.cells #[.int .i64 s2.p, .int .i64 s2.lo, .int .i64 s2.hi] 77)) v0.heap.size 77 #[.int .i64 s1.p, .int .i64 s1.lo, .int .i64 s1.hi]) := Lib.hid (allocs_keep [(#[.int .i64 s2.p, .int .i64 s2.lo, .int .i64 s2.hi], 77)] _ (X_1.out.below hb X_1.out.lt))
      have HB_2 : Hid (Below w.heap.size w (v1.alloc (.cells #[.int .i64 s2.p, .int .i64 s2.lo, .int .i64 s2.hi] 77))) := Lib.hid (allocs_below [(#[.int .i64 s2.p, .int .i64 s2.lo, .int .i64 s2.hi], 77)] _ (HB_1.out.trans (hb.mono HB_1.out.size)) (HB_1.out.trans (hb.mono HB_1.out.size)).size)
      have Y_2 : Hid (Blk (v1.alloc (.cells #[.int .i64 s2.p, .int .i64 s2.lo, .int .i64 s2.hi] 77)) v1.heap.size 77 #[.int .i64 s2.p, .int .i64 s2.lo, .int .i64 s2.hi]) := Lib.hid (allocs_blk [(#[.int .i64 s2.p, .int .i64 s2.lo, .int .i64 s2.hi], 77)] v1 0 _ rfl)
      clear hb M_1 X_1 HB_1
      by_cases h0 : a ≠ b2
      case neg =>
        have h0 := Classical.not_not.1 h0
        have HN := Lib.hid (HBD.out fun h => (HOM.out.1 h).1 h0)
        have t0 : (a == b2) = true := by simpa using h0
        clear h0
        have hundef := un_none
        have yy0 := M_2.out.cell (i := 0) (v := .int .i64 a) rfl; have yy1 := M_2.out.cell (i := 1) (v := .int .i64 ta) rfl; have yy2 := M_2.out.cell (i := 2) (v := .int .i64 b2) rfl; have yy3 := M_2.out.cell (i := 3) (v := .int .i64 tb) rfl
        go_wp2_with fail
        go_ret
        exact ⟨by rw [HN.out]; rfl, HB_2.out⟩
      case pos =>
        by_cases h1 : g1 = true
        case neg =>
          have HN := Lib.hid (HBD.out fun h => h1 (HOM.out.1 h).2.1)
          have t0 : (a == b2) = false := by simpa using h0
          have hg : g1 = false := by simpa using h1
          clear h1
          subst hg
          clear h0
          have hundef := un_none
          have yy0 := M_2.out.cell (i := 0) (v := .int .i64 a) rfl; have yy1 := M_2.out.cell (i := 1) (v := .int .i64 ta) rfl; have yy2 := M_2.out.cell (i := 2) (v := .int .i64 b2) rfl; have yy3 := M_2.out.cell (i := 3) (v := .int .i64 tb) rfl
          go_wp2_with fail
          go_ret
          exact ⟨by rw [HN.out]; rfl, HB_2.out⟩
        case pos =>
          by_cases h2 : g2 = true
          case neg =>
            have HN := Lib.hid (HBD.out fun h => h2 (HOM.out.1 h).2.2.1)
            have t0 : (a == b2) = false := by simpa using h0
            subst h1
            have hg : g2 = false := by simpa using h2
            clear h2
            subst hg
            clear h0
            have hundef := un_none
            have yy0 := M_2.out.cell (i := 0) (v := .int .i64 a) rfl; have yy1 := M_2.out.cell (i := 1) (v := .int .i64 ta) rfl; have yy2 := M_2.out.cell (i := 2) (v := .int .i64 b2) rfl; have yy3 := M_2.out.cell (i := 3) (v := .int .i64 tb) rfl
            go_wp2_with fail
            go_ret
            exact ⟨by rw [HN.out]; rfl, HB_2.out⟩
          case pos =>
            by_cases h3 : 0 ≤ ta ∧ ta ≤ 1000000
            case neg =>
              have HN := Lib.hid (HBD.out fun h => h3 (HOM.out.1 h).2.2.2.1)
              have t0 : (a == b2) = false := by simpa using h0
              have HT1 := Lib.hid (fun W => ptime6_not ta W h3)
              subst h1
              subst h2
              clear h0 h3
              have hundef := un_none
              have yy0 := M_2.out.cell (i := 0) (v := .int .i64 a) rfl; have yy1 := M_2.out.cell (i := 1) (v := .int .i64 ta) rfl; have yy2 := M_2.out.cell (i := 2) (v := .int .i64 b2) rfl; have yy3 := M_2.out.cell (i := 3) (v := .int .i64 tb) rfl
              go_wp2_with fail
              refine (HT1.out _).mono ?_
              rintro e v2 ⟨rfl, hb⟩
              clear yy0 yy1 yy2 yy3
              have M_3 : Hid (Blk v2 wr.heap.size 79 #[.int .i64 a, .int .i64 ta, .int .i64 b2, .int .i64 tb]) := Lib.hid (M_2.out.below hb M_2.out.lt)
              have X_3 : Hid (Blk v2 v0.heap.size 77 #[.int .i64 s1.p, .int .i64 s1.lo, .int .i64 s1.hi]) := Lib.hid (X_2.out.below hb X_2.out.lt)
              have Y_3 : Hid (Blk v2 v1.heap.size 77 #[.int .i64 s2.p, .int .i64 s2.lo, .int .i64 s2.hi]) := Lib.hid (Y_2.out.below hb Y_2.out.lt)
              have HB_3 : Hid (Below w.heap.size w v2) := Lib.hid (HB_2.out.trans (hb.mono HB_2.out.size))
              clear hb M_2 X_2 Y_2 HB_2
              have yy0 := M_3.out.cell (i := 0) (v := .int .i64 a) rfl; have yy1 := M_3.out.cell (i := 1) (v := .int .i64 ta) rfl; have yy2 := M_3.out.cell (i := 2) (v := .int .i64 b2) rfl; have yy3 := M_3.out.cell (i := 3) (v := .int .i64 tb) rfl
              go_wp2_with fail
              go_ret
              exact ⟨by rw [HN.out]; rfl, HB_3.out⟩
            case pos =>
              by_cases h4 : 0 ≤ tb ∧ tb ≤ 1000000
              case neg =>
                have HN := Lib.hid (HBD.out fun h => h4 (HOM.out.1 h).2.2.2.2)
                have t0 : (a == b2) = false := by simpa using h0
                have HT1 := Lib.hid (fun W => ptime6_yes ta W h3)
                have HT2 := Lib.hid (fun W => ptime6_not tb W h4)
                subst h1
                subst h2
                clear h0 h3 h4
                have hundef := un_none
                have yy0 := M_2.out.cell (i := 0) (v := .int .i64 a) rfl; have yy1 := M_2.out.cell (i := 1) (v := .int .i64 ta) rfl; have yy2 := M_2.out.cell (i := 2) (v := .int .i64 b2) rfl; have yy3 := M_2.out.cell (i := 3) (v := .int .i64 tb) rfl
                go_wp2_with fail
                refine (HT1.out _).mono ?_
                rintro e v2 ⟨rfl, hb⟩
                clear yy0 yy1 yy2 yy3
                have M_3 : Hid (Blk v2 wr.heap.size 79 #[.int .i64 a, .int .i64 ta, .int .i64 b2, .int .i64 tb]) := Lib.hid (M_2.out.below hb M_2.out.lt)
                have X_3 : Hid (Blk v2 v0.heap.size 77 #[.int .i64 s1.p, .int .i64 s1.lo, .int .i64 s1.hi]) := Lib.hid (X_2.out.below hb X_2.out.lt)
                have Y_3 : Hid (Blk v2 v1.heap.size 77 #[.int .i64 s2.p, .int .i64 s2.lo, .int .i64 s2.hi]) := Lib.hid (Y_2.out.below hb Y_2.out.lt)
                have HB_3 : Hid (Below w.heap.size w v2) := Lib.hid (HB_2.out.trans (hb.mono HB_2.out.size))
                clear hb M_2 X_2 Y_2 HB_2
                have yy0 := M_3.out.cell (i := 0) (v := .int .i64 a) rfl; have yy1 := M_3.out.cell (i := 1) (v := .int .i64 ta) rfl; have yy2 := M_3.out.cell (i := 2) (v := .int .i64 b2) rfl; have yy3 := M_3.out.cell (i := 3) (v := .int .i64 tb) rfl
                go_wp2_with fail
                refine (HT2.out _).mono ?_
                rintro e v3 ⟨rfl, hb⟩
                clear yy0 yy1 yy2 yy3
                have M_4 : Hid (Blk v3 wr.heap.size 79 #[.int .i64 a, .int .i64 ta, .int .i64 b2, .int .i64 tb]) := Lib.hid (M_3.out.below hb M_3.out.lt)
                have X_4 : Hid (Blk v3 v0.heap.size 77 #[.int .i64 s1.p, .int .i64 s1.lo, .int .i64 s1.hi]) := Lib.hid (X_3.out.below hb X_3.out.lt)
                have Y_4 : Hid (Blk v3 v1.heap.size 77 #[.int .i64 s2.p, .int .i64 s2.lo, .int .i64 s2.hi]) := Lib.hid (Y_3.out.below hb Y_3.out.lt)
                have HB_4 : Hid (Below w.heap.size w v3) := Lib.hid (HB_3.out.trans (hb.mono HB_3.out.size))
                clear hb M_3 X_3 Y_3 HB_3
                have yy0 := M_4.out.cell (i := 0) (v := .int .i64 a) rfl; have yy1 := M_4.out.cell (i := 1) (v := .int .i64 ta) rfl; have yy2 := M_4.out.cell (i := 2) (v := .int .i64 b2) rfl; have yy3 := M_4.out.cell (i := 3) (v := .int .i64 tb) rfl
                go_wp2_with fail
                go_ret
                exact ⟨by rw [HN.out]; rfl, HB_4.out⟩
              case pos =>
                have HYES := Lib.hid (HST.out (HOM.out.2 ⟨h0, h1, h2, h3, h4⟩))
                have t0 : (a == b2) = false := by simpa using h0
                have HT1 := Lib.hid (fun W => ptime6_yes ta W h3)
                have HT2 := Lib.hid (fun W => ptime6_yes tb W h4)
                subst h1
                subst h2
                clear h0 h3 h4
                have hundef := un_none
                have yy0 := M_2.out.cell (i := 0) (v := .int .i64 a) rfl; have yy1 := M_2.out.cell (i := 1) (v := .int .i64 ta) rfl; have yy2 := M_2.out.cell (i := 2) (v := .int .i64 b2) rfl; have yy3 := M_2.out.cell (i := 3) (v := .int .i64 tb) rfl
                go_wp2_with fail
                refine (HT1.out _).mono ?_
                rintro e v2 ⟨rfl, hb⟩
                clear yy0 yy1 yy2 yy3
                have M_3 : Hid (Blk v2 wr.heap.size 79 #[.int .i64 a, .int .i64 ta, .int .i64 b2, .int .i64 tb]) := Lib.hid (M_2.out.below hb M_2.out.lt)
                have X_3 : Hid (Blk v2 v0.heap.size 77 #[.int .i64 s1.p, .int .i64 s1.lo, .int .i64 s1.hi]) := Lib.hid (X_2.out.below hb X_2.out.lt)
                have Y_3 : Hid (Blk v2 v1.heap.size 77 #[.int .i64 s2.p, .int .i64 s2.lo, .int .i64 s2.hi]) := Lib.hid (Y_2.out.below hb Y_2.out.lt)
                have HB_3 : Hid (Below w.heap.size w v2) := Lib.hid (HB_2.out.trans (hb.mono HB_2.out.size))
                clear hb M_2 X_2 Y_2 HB_2
                have yy0 := M_3.out.cell (i := 0) (v := .int .i64 a) rfl; have yy1 := M_3.out.cell (i := 1) (v := .int .i64 ta) rfl; have yy2 := M_3.out.cell (i := 2) (v := .int .i64 b2) rfl; have yy3 := M_3.out.cell (i := 3) (v := .int .i64 tb) rfl
                go_wp2_with fail
                refine (HT2.out _).mono ?_
                rintro e v3 ⟨rfl, hb⟩
                clear yy0 yy1 yy2 yy3
                have M_4 : Hid (Blk v3 wr.heap.size 79 #[.int .i64 a, .int .i64 ta, .int .i64 b2, .int .i64 tb]) := Lib.hid (M_3.out.below hb M_3.out.lt)
                have X_4 : Hid (Blk v3 v0.heap.size 77 #[.int .i64 s1.p, .int .i64 s1.lo, .int .i64 s1.hi]) := Lib.hid (X_3.out.below hb X_3.out.lt)
                have Y_4 : Hid (Blk v3 v1.heap.size 77 #[.int .i64 s2.p, .int .i64 s2.lo, .int .i64 s2.hi]) := Lib.hid (Y_3.out.below hb Y_3.out.lt)
                have HB_4 : Hid (Below w.heap.size w v3) := Lib.hid (HB_3.out.trans (hb.mono HB_3.out.size))
                clear hb M_3 X_3 Y_3 HB_3
                have yy0 := M_4.out.cell (i := 0) (v := .int .i64 a) rfl; have yy1 := M_4.out.cell (i := 1) (v := .int .i64 ta) rfl; have yy2 := M_4.out.cell (i := 2) (v := .int .i64 b2) rfl; have yy3 := M_4.out.cell (i := 3) (v := .int .i64 tb) rfl
                go_wp2_with fail
                go_roundw
                case rel => exact ⟨i + 1, by go_num, HI.out, HYES.out, HB_4.out⟩
                case measure => have := HI.out; simp [intOf]; omega
set_option maxRecDepth 100000 in
set_option maxHeartbeats 4000000 in
theorem paremeets_any (l : List Sk) (ms : List Mt) (A B : Option Addr) (c d : Nat) (w : World) (hA : Kz w A l) (hz : l.length ≤ 9000000000000000000) (hB : Mz w B ms) (hy : ms.length ≤ 9000000000000000000) :
    Calls Try.prog 97 #[.slice B ms.length d, .slice A l.length c] w fun e w' => e = .returned (.bool (decide (MtOk l ms))) ∧ Below w.heap.size w w' := by
  by_cases h : ms.length ≤ 60
  · exact paremeets_go l ms A B c d w hA hz hB h
  · have HN : Hid (decide (MtOk l ms) = false) := Lib.hid (decide_eq_false fun hh => h hh.1)
    have h2 : (60 : Int) < (ms.length : Int) := by omega
    clear hA hz hB h
    go_enter Try.func97, Try.ntmps97
    go_wp2_with fail
    go_ret
    exact ⟨by rw [HN.out]; rfl, Below.refl _ _⟩
set_option maxRecDepth 100000 in
set_option maxHeartbeats 4000000 in
theorem pproper_any (l : List Sk) (ms : List Mt) (A B : Option Addr) (c d : Nat) (w : World) (hA : Kz w A l) (hz : l.length ≤ 9000000000000000000) (hB : Mz w B ms) (hy : ms.length ≤ 9000000000000000000) :
    Calls Try.prog 57 #[.slice A l.length c, .slice B ms.length d] w fun e w' => e = .returned (.bool (decide (PrOk l ms))) ∧ Below w.heap.size w w' := by
  have HC1 := Lib.hid (pareskews_any l A c w hA hz)
  have HC2 := Lib.hid (fun W (hb : Below w.heap.size w W) => paremeets_any l ms A B c d W (hA.below hb (Nat.le_refl _)) hz (hB.below hb (Nat.le_refl _)) hy)
  clear hA hB hz hy
  by_cases h1 : SkOk l
  · have HE : Hid (decide (PrOk l ms) = decide (MtOk l ms)) := Lib.hid (by by_cases h2 : MtOk l ms; rw [decide_eq_true h2]; exact decide_eq_true ⟨h1, h2⟩; rw [decide_eq_false h2]; exact decide_eq_false fun h => h2 h.2)
    rw [decide_eq_true h1] at HC1; clear h1
    go_enter Try.func57, Try.ntmps57
    go_wp2_with fail
    refine HC1.out.mono ?_
    rintro e v0 ⟨rfl, hb⟩
    have HB0 := Lib.hid hb; clear hb
    go_wp2_with fail
    refine (HC2.out _ HB0.out).mono ?_
    rintro e v1 ⟨rfl, hb⟩
    have HB1 := Lib.hid (HB0.out.trans (hb.mono HB0.out.size)); clear hb
    go_wp2_with fail
    go_ret
    exact ⟨by rw [HE.out]; rfl, HB1.out⟩
  · have HE : Hid (decide (PrOk l ms) = false) := Lib.hid (decide_eq_false fun h => h1 h.1)
    rw [decide_eq_false h1] at HC1; clear h1
    have hundef := un_none
    go_enter Try.func57, Try.ntmps57
    go_wp2_with fail
    refine HC1.out.mono ?_
    rintro e v0 ⟨rfl, hb⟩
    have HB0 := Lib.hid hb; clear hb
    go_wp2_with fail
    go_ret
    exact ⟨by rw [HE.out]; rfl, HB0.out⟩
/-- A valid stamp of a person with a skew. -/
def Told (l : List Sk) (s : Sm) : Prop := (fnd l s.p).isSome = true ∧ s.ok
noncomputable instance (l : List Sk) (s : Sm) : Decidable (Told l s) := Classical.propDecidable _
set_option maxRecDepth 100000 in
set_option maxHeartbeats 4000000 in
theorem pistold_any (l : List Sk) (s : Sm) (A : Option Addr) (c : Nat) (w : World) (hA : Kz w A l) (hz : l.length ≤ 9000000000000000000) :
    Calls Try.prog 102 #[.slice A l.length c, smv s] w fun e w' => e = .returned (.bool (decide (Told l s))) ∧ Below w.heap.size w w' := by
  have HC := Lib.hid (fun W (hb : Below w.heap.size w W) => pskewof_any l s.p A c W (hA.below hb (Nat.le_refl _)) hz)
  clear hA hz
  obtain ⟨s1, hs1⟩ : ∃ x, x = (fnd l s.p).getD z0 := ⟨_, rfl⟩
  obtain ⟨g1, hg1⟩ : ∃ x, x = (fnd l s.p).isSome := ⟨_, rfl⟩
  rw [← hs1, ← hg1] at HC
  have HT : Hid (Told l s ↔ g1 = true ∧ s.ok) := Lib.hid (by unfold Told; rw [← hg1])
  clear hs1 hg1
  cases g1
  case false =>
    have HE : Hid (decide (Told l s) = false) := Lib.hid (decide_eq_false fun h => by have := (HT.out.1 h).1; cases this)
    have HV := Lib.hid (fun W => pvalid6_any s W)
    have S_0 : Hid (Blk (w.alloc (.cells #[.int .i64 s.t, .int .i64 s.p, .int .i64 s.n] 64)) w.heap.size 64 #[.int .i64 s.t, .int .i64 s.p, .int .i64 s.n]) := allocs_blk [(#[.int .i64 s.t, .int .i64 s.p, .int .i64 s.n], 64)] w 0 _ rfl
    have HB_0 : Hid (Below w.heap.size w (w.alloc (.cells #[.int .i64 s.t, .int .i64 s.p, .int .i64 s.n] 64))) := allocs_below [(#[.int .i64 s.t, .int .i64 s.p, .int .i64 s.n], 64)] w (Below.refl w.heap.size w) (Nat.le_refl _)
    have hundef := un_none
    go_enter Try.func102, Try.ntmps102
    have yy0 := S_0.out.cell (i := 0) (v := .int .i64 s.t) rfl; have yy1 := S_0.out.cell (i := 1) (v := .int .i64 s.p) rfl; have yy2 := S_0.out.cell (i := 2) (v := .int .i64 s.n) rfl
    go_wp2_with fail
    refine (HC.out _ HB_0.out).mono ?_
    rintro e v0 ⟨rfl, hb⟩
    clear yy0 yy1 yy2
    have S_1 : Hid (Blk (v0.alloc (.cells #[.int .i64 s1.p, .int .i64 s1.lo, .int .i64 s1.hi] 77)) w.heap.size 64 #[.int .i64 s.t, .int .i64 s.p, .int .i64 s.n]) := Lib.hid (allocs_keep [(#[.int .i64 s1.p, .int .i64 s1.lo, .int .i64 s1.hi], 77)] _ (S_0.out.below hb S_0.out.lt))
    have HB_1 : Hid (Below w.heap.size w (v0.alloc (.cells #[.int .i64 s1.p, .int .i64 s1.lo, .int .i64 s1.hi] 77))) := Lib.hid (allocs_below [(#[.int .i64 s1.p, .int .i64 s1.lo, .int .i64 s1.hi], 77)] _ (HB_0.out.trans (hb.mono HB_0.out.size)) (HB_0.out.trans (hb.mono HB_0.out.size)).size)
    have X_1 : Hid (Blk (v0.alloc (.cells #[.int .i64 s1.p, .int .i64 s1.lo, .int .i64 s1.hi] 77)) v0.heap.size 77 #[.int .i64 s1.p, .int .i64 s1.lo, .int .i64 s1.hi]) := Lib.hid (allocs_blk [(#[.int .i64 s1.p, .int .i64 s1.lo, .int .i64 s1.hi], 77)] v0 0 _ rfl)
    clear hb S_0 HB_0
    go_wp2_with fail
    go_ret
    exact ⟨by rw [HE.out]; rfl, HB_1.out⟩
  case true =>
    have HE : Hid (decide (Told l s) = decide s.ok) := Lib.hid (by by_cases h2 : s.ok; rw [decide_eq_true h2]; exact decide_eq_true (HT.out.2 ⟨rfl, h2⟩); rw [decide_eq_false h2]; exact decide_eq_false fun h => h2 (HT.out.1 h).2)
    have HV := Lib.hid (fun W => pvalid6_any s W)
    have S_0 : Hid (Blk (w.alloc (.cells #[.int .i64 s.t, .int .i64 s.p, .int .i64 s.n] 64)) w.heap.size 64 #[.int .i64 s.t, .int .i64 s.p, .int .i64 s.n]) := allocs_blk [(#[.int .i64 s.t, .int .i64 s.p, .int .i64 s.n], 64)] w 0 _ rfl
    have HB_0 : Hid (Below w.heap.size w (w.alloc (.cells #[.int .i64 s.t, .int .i64 s.p, .int .i64 s.n] 64))) := allocs_below [(#[.int .i64 s.t, .int .i64 s.p, .int .i64 s.n], 64)] w (Below.refl w.heap.size w) (Nat.le_refl _)
    have hundef := un_none
    go_enter Try.func102, Try.ntmps102
    have yy0 := S_0.out.cell (i := 0) (v := .int .i64 s.t) rfl; have yy1 := S_0.out.cell (i := 1) (v := .int .i64 s.p) rfl; have yy2 := S_0.out.cell (i := 2) (v := .int .i64 s.n) rfl
    go_wp2_with fail
    refine (HC.out _ HB_0.out).mono ?_
    rintro e v0 ⟨rfl, hb⟩
    clear yy0 yy1 yy2
    have S_1 : Hid (Blk (v0.alloc (.cells #[.int .i64 s1.p, .int .i64 s1.lo, .int .i64 s1.hi] 77)) w.heap.size 64 #[.int .i64 s.t, .int .i64 s.p, .int .i64 s.n]) := Lib.hid (allocs_keep [(#[.int .i64 s1.p, .int .i64 s1.lo, .int .i64 s1.hi], 77)] _ (S_0.out.below hb S_0.out.lt))
    have HB_1 : Hid (Below w.heap.size w (v0.alloc (.cells #[.int .i64 s1.p, .int .i64 s1.lo, .int .i64 s1.hi] 77))) := Lib.hid (allocs_below [(#[.int .i64 s1.p, .int .i64 s1.lo, .int .i64 s1.hi], 77)] _ (HB_0.out.trans (hb.mono HB_0.out.size)) (HB_0.out.trans (hb.mono HB_0.out.size)).size)
    have X_1 : Hid (Blk (v0.alloc (.cells #[.int .i64 s1.p, .int .i64 s1.lo, .int .i64 s1.hi] 77)) v0.heap.size 77 #[.int .i64 s1.p, .int .i64 s1.lo, .int .i64 s1.hi]) := Lib.hid (allocs_blk [(#[.int .i64 s1.p, .int .i64 s1.lo, .int .i64 s1.hi], 77)] v0 0 _ rfl)
    clear hb S_0 HB_0
    have yy0 := S_1.out.cell (i := 0) (v := .int .i64 s.t) rfl; have yy1 := S_1.out.cell (i := 1) (v := .int .i64 s.p) rfl; have yy2 := S_1.out.cell (i := 2) (v := .int .i64 s.n) rfl
    go_wp2_with fail
    refine (HV.out _).mono ?_
    rintro e v1 ⟨rfl, hb⟩
    clear yy0 yy1 yy2
    have S_2 : Hid (Blk v1 w.heap.size 64 #[.int .i64 s.t, .int .i64 s.p, .int .i64 s.n]) := Lib.hid (S_1.out.below hb S_1.out.lt)
    have X_2 : Hid (Blk v1 v0.heap.size 77 #[.int .i64 s1.p, .int .i64 s1.lo, .int .i64 s1.hi]) := Lib.hid (X_1.out.below hb X_1.out.lt)
    have HB_2 : Hid (Below w.heap.size w v1) := Lib.hid (HB_1.out.trans (hb.mono HB_1.out.size))
    clear hb S_1 X_1 HB_1
    go_wp2_with fail
    go_ret
    exact ⟨by rw [HE.out]; rfl, HB_2.out⟩
/-- The person has a skew, the skews and the time are valid. -/
def WhOk (l : List Sk) (q t : Int) : Prop := (fnd l q).isSome = true ∧ SkOk l ∧ (0 ≤ t ∧ t ≤ 1000000)
noncomputable instance (l : List Sk) (q t : Int) : Decidable (WhOk l q t) := Classical.propDecidable _
set_option maxRecDepth 100000 in
set_option maxHeartbeats 4000000 in
theorem pwhen_no (l : List Sk) (q t : Int) (A : Option Addr) (c : Nat) (w : World) (hA : Kz w A l) (hz : l.length ≤ 9000000000000000000) (g1 : Bool) (s1 : Sk) (hs1 : s1 = (fnd l q).getD z0) (hg1 : g1 = (fnd l q).isSome) (h : g1 = false) :
    Calls Try.prog 59 #[.slice A l.length c, .int .i64 q, .int .i64 t] w fun e w' => e = .returned (.tuple #[.agg #[.int .i64 0, .int .i64 0], .int .i64 60]) ∧ Below w.heap.size w w' := by
  have HC := Lib.hid (fun W (hb : Below w.heap.size w W) => pskewof_any l q A c W (hA.below hb (Nat.le_refl _)) hz)
  have HS := Lib.hid (fun W (hb : Below w.heap.size w W) => pareskews_any l A c W (hA.below hb (Nat.le_refl _)) hz)
  rw [← hs1, ← hg1] at HC
  clear hA hz hs1 hg1
  subst h
  have R_0 : Hid (Blk (w.alloc (.cells #[.int .i64 0, .int .i64 0] 91)) w.heap.size 91 #[.int .i64 0, .int .i64 0]) := allocs_blk [(#[.int .i64 0, .int .i64 0], 91)] w 0 _ rfl
  have HB_0 : Hid (Below w.heap.size w (w.alloc (.cells #[.int .i64 0, .int .i64 0] 91))) := allocs_below [(#[.int .i64 0, .int .i64 0], 91)] w (Below.refl w.heap.size w) (Nat.le_refl _)
  have hundef := un_none
  go_enter Try.func59, Try.ntmps59
  go_wp2_with fail
  refine (HC.out _ HB_0.out).mono ?_
  rintro e v0 ⟨rfl, hb⟩
  have R_1 : Hid (Blk (v0.alloc (.cells #[.int .i64 s1.p, .int .i64 s1.lo, .int .i64 s1.hi] 77)) w.heap.size 91 #[.int .i64 0, .int .i64 0]) := Lib.hid (allocs_keep [(#[.int .i64 s1.p, .int .i64 s1.lo, .int .i64 s1.hi], 77)] _ (R_0.out.below hb R_0.out.lt))
  have HB_1 : Hid (Below w.heap.size w (v0.alloc (.cells #[.int .i64 s1.p, .int .i64 s1.lo, .int .i64 s1.hi] 77))) := Lib.hid (allocs_below [(#[.int .i64 s1.p, .int .i64 s1.lo, .int .i64 s1.hi], 77)] _ (HB_0.out.trans (hb.mono HB_0.out.size)) (HB_0.out.trans (hb.mono HB_0.out.size)).size)
  have X_1 : Hid (Blk (v0.alloc (.cells #[.int .i64 s1.p, .int .i64 s1.lo, .int .i64 s1.hi] 77)) v0.heap.size 77 #[.int .i64 s1.p, .int .i64 s1.lo, .int .i64 s1.hi]) := Lib.hid (allocs_blk [(#[.int .i64 s1.p, .int .i64 s1.lo, .int .i64 s1.hi], 77)] v0 0 _ rfl)
  clear hb R_0 HB_0
  have yy0 := X_1.out.cell (i := 0) (v := .int .i64 s1.p) rfl; have yy1 := X_1.out.cell (i := 1) (v := .int .i64 s1.lo) rfl; have yy2 := X_1.out.cell (i := 2) (v := .int .i64 s1.hi) rfl
  have r0 := R_1.out.cell (i := 0) (v := .int .i64 0) rfl; have f0 := R_1.out.frozen 0
  have r1 := R_1.out.cell (i := 1) (v := .int .i64 0) rfl; have f1 := R_1.out.frozen 1
  go_wp2_with fail
  clear r0 f0 r1 f1
  have HFR := Lib.hid ((R_1.out.set 0 (.int .i64 0)).set 1 (.int .i64 0))
  have rR0 := HFR.out.cell (i := 0) (v := .int .i64 0) rfl
  have rR1 := HFR.out.cell (i := 1) (v := .int .i64 0) rfl
  exact bodyPost_ret (v := .tuple #[.agg #[.int .i64 0, .int .i64 0], .int .i64 60]) (by simp [results, Try.results59, go_sem, rR0, rR1]) rfl ⟨rfl, ((HB_1.out.setCell (p := ⟨w.heap.size, 0, none⟩) (by show w.heap.size ≤ w.heap.size; omega) (.int .i64 0)).setCell (p := ⟨w.heap.size, 1, none⟩) (by show w.heap.size ≤ w.heap.size; omega) (.int .i64 0))⟩
set_option maxRecDepth 100000 in
set_option maxHeartbeats 4000000 in
theorem pwhen_bad (l : List Sk) (q t : Int) (A : Option Addr) (c : Nat) (w : World) (hA : Kz w A l) (hz : l.length ≤ 9000000000000000000) (g1 : Bool) (s1 : Sk) (hs1 : s1 = (fnd l q).getD z0) (hg1 : g1 = (fnd l q).isSome) (h : g1 = true) (h2 : ¬ SkOk l) :
    Calls Try.prog 59 #[.slice A l.length c, .int .i64 q, .int .i64 t] w fun e w' => e = .returned (.tuple #[.agg #[.int .i64 0, .int .i64 0], .int .i64 60]) ∧ Below w.heap.size w w' := by
  have HC := Lib.hid (fun W (hb : Below w.heap.size w W) => pskewof_any l q A c W (hA.below hb (Nat.le_refl _)) hz)
  have HS := Lib.hid (fun W (hb : Below w.heap.size w W) => pareskews_any l A c W (hA.below hb (Nat.le_refl _)) hz)
  rw [← hs1, ← hg1] at HC
  clear hA hz hs1 hg1
  subst h; rw [decide_eq_false h2] at HS; clear h2
  have R_0 : Hid (Blk (w.alloc (.cells #[.int .i64 0, .int .i64 0] 91)) w.heap.size 91 #[.int .i64 0, .int .i64 0]) := allocs_blk [(#[.int .i64 0, .int .i64 0], 91)] w 0 _ rfl
  have HB_0 : Hid (Below w.heap.size w (w.alloc (.cells #[.int .i64 0, .int .i64 0] 91))) := allocs_below [(#[.int .i64 0, .int .i64 0], 91)] w (Below.refl w.heap.size w) (Nat.le_refl _)
  have hundef := un_none
  go_enter Try.func59, Try.ntmps59
  go_wp2_with fail
  refine (HC.out _ HB_0.out).mono ?_
  rintro e v0 ⟨rfl, hb⟩
  have R_1 : Hid (Blk (v0.alloc (.cells #[.int .i64 s1.p, .int .i64 s1.lo, .int .i64 s1.hi] 77)) w.heap.size 91 #[.int .i64 0, .int .i64 0]) := Lib.hid (allocs_keep [(#[.int .i64 s1.p, .int .i64 s1.lo, .int .i64 s1.hi], 77)] _ (R_0.out.below hb R_0.out.lt))
  have HB_1 : Hid (Below w.heap.size w (v0.alloc (.cells #[.int .i64 s1.p, .int .i64 s1.lo, .int .i64 s1.hi] 77))) := Lib.hid (allocs_below [(#[.int .i64 s1.p, .int .i64 s1.lo, .int .i64 s1.hi], 77)] _ (HB_0.out.trans (hb.mono HB_0.out.size)) (HB_0.out.trans (hb.mono HB_0.out.size)).size)
  have X_1 : Hid (Blk (v0.alloc (.cells #[.int .i64 s1.p, .int .i64 s1.lo, .int .i64 s1.hi] 77)) v0.heap.size 77 #[.int .i64 s1.p, .int .i64 s1.lo, .int .i64 s1.hi]) := Lib.hid (allocs_blk [(#[.int .i64 s1.p, .int .i64 s1.lo, .int .i64 s1.hi], 77)] v0 0 _ rfl)
  clear hb R_0 HB_0
  have yy0 := X_1.out.cell (i := 0) (v := .int .i64 s1.p) rfl; have yy1 := X_1.out.cell (i := 1) (v := .int .i64 s1.lo) rfl; have yy2 := X_1.out.cell (i := 2) (v := .int .i64 s1.hi) rfl
  go_wp2_with fail
  refine (HS.out _ HB_1.out).mono ?_
  rintro e v1 ⟨rfl, hb⟩
  clear yy0 yy1 yy2
  have R_2 : Hid (Blk v1 w.heap.size 91 #[.int .i64 0, .int .i64 0]) := Lib.hid (R_1.out.below hb R_1.out.lt)
  have X_2 : Hid (Blk v1 v0.heap.size 77 #[.int .i64 s1.p, .int .i64 s1.lo, .int .i64 s1.hi]) := Lib.hid (X_1.out.below hb X_1.out.lt)
  have HB_2 : Hid (Below w.heap.size w v1) := Lib.hid (HB_1.out.trans (hb.mono HB_1.out.size))
  clear hb R_1 X_1 HB_1
  have yy0 := X_2.out.cell (i := 0) (v := .int .i64 s1.p) rfl; have yy1 := X_2.out.cell (i := 1) (v := .int .i64 s1.lo) rfl; have yy2 := X_2.out.cell (i := 2) (v := .int .i64 s1.hi) rfl
  have r0 := R_2.out.cell (i := 0) (v := .int .i64 0) rfl; have f0 := R_2.out.frozen 0
  have r1 := R_2.out.cell (i := 1) (v := .int .i64 0) rfl; have f1 := R_2.out.frozen 1
  go_wp2_with fail
  clear r0 f0 r1 f1
  have HFR := Lib.hid ((R_2.out.set 0 (.int .i64 0)).set 1 (.int .i64 0))
  have rR0 := HFR.out.cell (i := 0) (v := .int .i64 0) rfl
  have rR1 := HFR.out.cell (i := 1) (v := .int .i64 0) rfl
  exact bodyPost_ret (v := .tuple #[.agg #[.int .i64 0, .int .i64 0], .int .i64 60]) (by simp [results, Try.results59, go_sem, rR0, rR1]) rfl ⟨rfl, ((HB_2.out.setCell (p := ⟨w.heap.size, 0, none⟩) (by show w.heap.size ≤ w.heap.size; omega) (.int .i64 0)).setCell (p := ⟨w.heap.size, 1, none⟩) (by show w.heap.size ≤ w.heap.size; omega) (.int .i64 0))⟩
set_option maxRecDepth 100000 in
set_option maxHeartbeats 4000000 in
theorem pwhen_late (l : List Sk) (q t : Int) (A : Option Addr) (c : Nat) (w : World) (hA : Kz w A l) (hz : l.length ≤ 9000000000000000000) (g1 : Bool) (s1 : Sk) (hs1 : s1 = (fnd l q).getD z0) (hg1 : g1 = (fnd l q).isSome) (h : g1 = true) (h2 : SkOk l) (h3 : ¬ (0 ≤ t ∧ t ≤ 1000000)) :
    Calls Try.prog 59 #[.slice A l.length c, .int .i64 q, .int .i64 t] w fun e w' => e = .returned (.tuple #[.agg #[.int .i64 0, .int .i64 0], .int .i64 60]) ∧ Below w.heap.size w w' := by
  have HC := Lib.hid (fun W (hb : Below w.heap.size w W) => pskewof_any l q A c W (hA.below hb (Nat.le_refl _)) hz)
  have HS := Lib.hid (fun W (hb : Below w.heap.size w W) => pareskews_any l A c W (hA.below hb (Nat.le_refl _)) hz)
  rw [← hs1, ← hg1] at HC
  clear hA hz hs1 hg1
  subst h; rw [decide_eq_true h2] at HS; have HT := Lib.hid (fun W => ptime6_not t W h3); clear h2 h3
  have R_0 : Hid (Blk (w.alloc (.cells #[.int .i64 0, .int .i64 0] 91)) w.heap.size 91 #[.int .i64 0, .int .i64 0]) := allocs_blk [(#[.int .i64 0, .int .i64 0], 91)] w 0 _ rfl
  have HB_0 : Hid (Below w.heap.size w (w.alloc (.cells #[.int .i64 0, .int .i64 0] 91))) := allocs_below [(#[.int .i64 0, .int .i64 0], 91)] w (Below.refl w.heap.size w) (Nat.le_refl _)
  have hundef := un_none
  go_enter Try.func59, Try.ntmps59
  go_wp2_with fail
  refine (HC.out _ HB_0.out).mono ?_
  rintro e v0 ⟨rfl, hb⟩
  have R_1 : Hid (Blk (v0.alloc (.cells #[.int .i64 s1.p, .int .i64 s1.lo, .int .i64 s1.hi] 77)) w.heap.size 91 #[.int .i64 0, .int .i64 0]) := Lib.hid (allocs_keep [(#[.int .i64 s1.p, .int .i64 s1.lo, .int .i64 s1.hi], 77)] _ (R_0.out.below hb R_0.out.lt))
  have HB_1 : Hid (Below w.heap.size w (v0.alloc (.cells #[.int .i64 s1.p, .int .i64 s1.lo, .int .i64 s1.hi] 77))) := Lib.hid (allocs_below [(#[.int .i64 s1.p, .int .i64 s1.lo, .int .i64 s1.hi], 77)] _ (HB_0.out.trans (hb.mono HB_0.out.size)) (HB_0.out.trans (hb.mono HB_0.out.size)).size)
  have X_1 : Hid (Blk (v0.alloc (.cells #[.int .i64 s1.p, .int .i64 s1.lo, .int .i64 s1.hi] 77)) v0.heap.size 77 #[.int .i64 s1.p, .int .i64 s1.lo, .int .i64 s1.hi]) := Lib.hid (allocs_blk [(#[.int .i64 s1.p, .int .i64 s1.lo, .int .i64 s1.hi], 77)] v0 0 _ rfl)
  clear hb R_0 HB_0
  have yy0 := X_1.out.cell (i := 0) (v := .int .i64 s1.p) rfl; have yy1 := X_1.out.cell (i := 1) (v := .int .i64 s1.lo) rfl; have yy2 := X_1.out.cell (i := 2) (v := .int .i64 s1.hi) rfl
  go_wp2_with fail
  refine (HS.out _ HB_1.out).mono ?_
  rintro e v1 ⟨rfl, hb⟩
  clear yy0 yy1 yy2
  have R_2 : Hid (Blk v1 w.heap.size 91 #[.int .i64 0, .int .i64 0]) := Lib.hid (R_1.out.below hb R_1.out.lt)
  have X_2 : Hid (Blk v1 v0.heap.size 77 #[.int .i64 s1.p, .int .i64 s1.lo, .int .i64 s1.hi]) := Lib.hid (X_1.out.below hb X_1.out.lt)
  have HB_2 : Hid (Below w.heap.size w v1) := Lib.hid (HB_1.out.trans (hb.mono HB_1.out.size))
  clear hb R_1 X_1 HB_1
  have yy0 := X_2.out.cell (i := 0) (v := .int .i64 s1.p) rfl; have yy1 := X_2.out.cell (i := 1) (v := .int .i64 s1.lo) rfl; have yy2 := X_2.out.cell (i := 2) (v := .int .i64 s1.hi) rfl
  go_wp2_with fail
  refine (HT.out _).mono ?_
  rintro e v2 ⟨rfl, hb⟩
  clear yy0 yy1 yy2
  have R_3 : Hid (Blk v2 w.heap.size 91 #[.int .i64 0, .int .i64 0]) := Lib.hid (R_2.out.below hb R_2.out.lt)
  have X_3 : Hid (Blk v2 v0.heap.size 77 #[.int .i64 s1.p, .int .i64 s1.lo, .int .i64 s1.hi]) := Lib.hid (X_2.out.below hb X_2.out.lt)
  have HB_3 : Hid (Below w.heap.size w v2) := Lib.hid (HB_2.out.trans (hb.mono HB_2.out.size))
  clear hb R_2 X_2 HB_2
  have yy0 := X_3.out.cell (i := 0) (v := .int .i64 s1.p) rfl; have yy1 := X_3.out.cell (i := 1) (v := .int .i64 s1.lo) rfl; have yy2 := X_3.out.cell (i := 2) (v := .int .i64 s1.hi) rfl
  have r0 := R_3.out.cell (i := 0) (v := .int .i64 0) rfl; have f0 := R_3.out.frozen 0
  have r1 := R_3.out.cell (i := 1) (v := .int .i64 0) rfl; have f1 := R_3.out.frozen 1
  go_wp2_with fail
  clear r0 f0 r1 f1
  have HFR := Lib.hid ((R_3.out.set 0 (.int .i64 0)).set 1 (.int .i64 0))
  have rR0 := HFR.out.cell (i := 0) (v := .int .i64 0) rfl
  have rR1 := HFR.out.cell (i := 1) (v := .int .i64 0) rfl
  exact bodyPost_ret (v := .tuple #[.agg #[.int .i64 0, .int .i64 0], .int .i64 60]) (by simp [results, Try.results59, go_sem, rR0, rR1]) rfl ⟨rfl, ((HB_3.out.setCell (p := ⟨w.heap.size, 0, none⟩) (by show w.heap.size ≤ w.heap.size; omega) (.int .i64 0)).setCell (p := ⟨w.heap.size, 1, none⟩) (by show w.heap.size ≤ w.heap.size; omega) (.int .i64 0))⟩
set_option maxRecDepth 100000 in
set_option maxHeartbeats 4000000 in
theorem pwhen_ok (l : List Sk) (q t : Int) (A : Option Addr) (c : Nat) (w : World) (hA : Kz w A l) (hz : l.length ≤ 9000000000000000000) (g1 : Bool) (s1 : Sk) (hs1 : s1 = (fnd l q).getD z0) (hg1 : g1 = (fnd l q).isSome) (h : g1 = true) (h2 : SkOk l) (h3 : 0 ≤ t ∧ t ≤ 1000000) (h4 : -100000 ≤ s1.lo ∧ s1.lo ≤ 100000) (h5 : -100000 ≤ s1.hi ∧ s1.hi ≤ 100000) :
    Calls Try.prog 59 #[.slice A l.length c, .int .i64 q, .int .i64 t] w fun e w' => e = .returned (.tuple #[.agg #[.int .i64 (t - s1.hi), .int .i64 (t - s1.lo + 1)], .int .i64 0]) ∧ Below w.heap.size w w' := by
  have HC := Lib.hid (fun W (hb : Below w.heap.size w W) => pskewof_any l q A c W (hA.below hb (Nat.le_refl _)) hz)
  have HS := Lib.hid (fun W (hb : Below w.heap.size w W) => pareskews_any l A c W (hA.below hb (Nat.le_refl _)) hz)
  rw [← hs1, ← hg1] at HC
  clear hA hz hs1 hg1
  subst h; rw [decide_eq_true h2] at HS; have HT := Lib.hid (fun W => ptime6_yes t W h3)
  have e1 : IntKind.i64.wrap (t - s1.hi) = t - s1.hi := IntWalk.i64_in _ (by omega)
  have e2 : IntKind.i64.wrap (t - s1.lo) = t - s1.lo := IntWalk.i64_in _ (by omega)
  have e3 : IntKind.i64.wrap (t - s1.lo + 1) = t - s1.lo + 1 := IntWalk.i64_in _ (by omega)
  clear h2 h3 h4 h5
  have R_0 : Hid (Blk (w.alloc (.cells #[.int .i64 0, .int .i64 0] 91)) w.heap.size 91 #[.int .i64 0, .int .i64 0]) := allocs_blk [(#[.int .i64 0, .int .i64 0], 91)] w 0 _ rfl
  have HB_0 : Hid (Below w.heap.size w (w.alloc (.cells #[.int .i64 0, .int .i64 0] 91))) := allocs_below [(#[.int .i64 0, .int .i64 0], 91)] w (Below.refl w.heap.size w) (Nat.le_refl _)
  have hundef := un_none
  go_enter Try.func59, Try.ntmps59
  go_wp2_with fail
  refine (HC.out _ HB_0.out).mono ?_
  rintro e v0 ⟨rfl, hb⟩
  have R_1 : Hid (Blk (v0.alloc (.cells #[.int .i64 s1.p, .int .i64 s1.lo, .int .i64 s1.hi] 77)) w.heap.size 91 #[.int .i64 0, .int .i64 0]) := Lib.hid (allocs_keep [(#[.int .i64 s1.p, .int .i64 s1.lo, .int .i64 s1.hi], 77)] _ (R_0.out.below hb R_0.out.lt))
  have HB_1 : Hid (Below w.heap.size w (v0.alloc (.cells #[.int .i64 s1.p, .int .i64 s1.lo, .int .i64 s1.hi] 77))) := Lib.hid (allocs_below [(#[.int .i64 s1.p, .int .i64 s1.lo, .int .i64 s1.hi], 77)] _ (HB_0.out.trans (hb.mono HB_0.out.size)) (HB_0.out.trans (hb.mono HB_0.out.size)).size)
  have X_1 : Hid (Blk (v0.alloc (.cells #[.int .i64 s1.p, .int .i64 s1.lo, .int .i64 s1.hi] 77)) v0.heap.size 77 #[.int .i64 s1.p, .int .i64 s1.lo, .int .i64 s1.hi]) := Lib.hid (allocs_blk [(#[.int .i64 s1.p, .int .i64 s1.lo, .int .i64 s1.hi], 77)] v0 0 _ rfl)
  clear hb R_0 HB_0
  have yy0 := X_1.out.cell (i := 0) (v := .int .i64 s1.p) rfl; have yy1 := X_1.out.cell (i := 1) (v := .int .i64 s1.lo) rfl; have yy2 := X_1.out.cell (i := 2) (v := .int .i64 s1.hi) rfl
  go_wp2_with fail
  refine (HS.out _ HB_1.out).mono ?_
  rintro e v1 ⟨rfl, hb⟩
  clear yy0 yy1 yy2
  have R_2 : Hid (Blk v1 w.heap.size 91 #[.int .i64 0, .int .i64 0]) := Lib.hid (R_1.out.below hb R_1.out.lt)
  have X_2 : Hid (Blk v1 v0.heap.size 77 #[.int .i64 s1.p, .int .i64 s1.lo, .int .i64 s1.hi]) := Lib.hid (X_1.out.below hb X_1.out.lt)
  have HB_2 : Hid (Below w.heap.size w v1) := Lib.hid (HB_1.out.trans (hb.mono HB_1.out.size))
  clear hb R_1 X_1 HB_1
  have yy0 := X_2.out.cell (i := 0) (v := .int .i64 s1.p) rfl; have yy1 := X_2.out.cell (i := 1) (v := .int .i64 s1.lo) rfl; have yy2 := X_2.out.cell (i := 2) (v := .int .i64 s1.hi) rfl
  go_wp2_with fail
  refine (HT.out _).mono ?_
  rintro e v2 ⟨rfl, hb⟩
  clear yy0 yy1 yy2
  have R_3 : Hid (Blk v2 w.heap.size 91 #[.int .i64 0, .int .i64 0]) := Lib.hid (R_2.out.below hb R_2.out.lt)
  have X_3 : Hid (Blk v2 v0.heap.size 77 #[.int .i64 s1.p, .int .i64 s1.lo, .int .i64 s1.hi]) := Lib.hid (X_2.out.below hb X_2.out.lt)
  have HB_3 : Hid (Below w.heap.size w v2) := Lib.hid (HB_2.out.trans (hb.mono HB_2.out.size))
  clear hb R_2 X_2 HB_2
  have yy0 := X_3.out.cell (i := 0) (v := .int .i64 s1.p) rfl; have yy1 := X_3.out.cell (i := 1) (v := .int .i64 s1.lo) rfl; have yy2 := X_3.out.cell (i := 2) (v := .int .i64 s1.hi) rfl
  have r0 := R_3.out.cell (i := 0) (v := .int .i64 0) rfl; have f0 := R_3.out.frozen 0
  have r1 := R_3.out.cell (i := 1) (v := .int .i64 0) rfl; have f1 := R_3.out.frozen 1
  go_wp2_with fail
  clear r0 f0 r1 f1
  have HFR := Lib.hid ((R_3.out.set 0 (.int .i64 (t - s1.hi))).set 1 (.int .i64 (t - s1.lo + 1)))
  have rR0 := HFR.out.cell (i := 0) (v := .int .i64 (t - s1.hi)) rfl
  have rR1 := HFR.out.cell (i := 1) (v := .int .i64 (t - s1.lo + 1)) rfl
  exact bodyPost_ret (v := .tuple #[.agg #[.int .i64 (t - s1.hi), .int .i64 (t - s1.lo + 1)], .int .i64 0]) (by simp [results, Try.results59, go_sem, rR0, rR1]) rfl ⟨rfl, ((HB_3.out.setCell (p := ⟨w.heap.size, 0, none⟩) (by show w.heap.size ≤ w.heap.size; omega) (.int .i64 (t - s1.hi))).setCell (p := ⟨w.heap.size, 1, none⟩) (by show w.heap.size ≤ w.heap.size; omega) (.int .i64 (t - s1.lo + 1)))⟩
/-- When's result. -/
noncomputable def whR (l : List Sk) (q t : Int) : Value := if WhOk l q t then .tuple #[.agg #[.int .i64 (t - ((fnd l q).getD z0).hi), .int .i64 (t - ((fnd l q).getD z0).lo + 1)], .int .i64 0] else .tuple #[.agg #[.int .i64 0, .int .i64 0], .int .i64 60]
theorem pwhen_any (l : List Sk) (q t : Int) (A : Option Addr) (c : Nat) (w : World) (hA : Kz w A l) (hz : l.length ≤ 9000000000000000000) :
    Calls Try.prog 59 #[.slice A l.length c, .int .i64 q, .int .i64 t] w fun e w' => e = .returned (whR l q t) ∧ Below w.heap.size w w' := by
  unfold whR
  by_cases h : WhOk l q t
  · rw [if_pos h]
    obtain ⟨s, hs⟩ := Option.isSome_iff_exists.1 h.1
    have hm := h.2.1.mem (fnd_some hs).1
    exact pwhen_ok l q t A c w hA hz true _ rfl h.1.symm rfl h.2.1 h.2.2 (by rw [hs]; dsimp only [Option.getD]; omega) (by rw [hs]; dsimp only [Option.getD]; omega)
  · rw [if_neg h]
    by_cases h1 : (fnd l q).isSome = true
    · by_cases h2 : SkOk l
      · exact pwhen_late l q t A c w hA hz true _ rfl h1.symm rfl h2 (fun h3 => h ⟨h1, h2, h3⟩)
      · exact pwhen_bad l q t A c w hA hz true _ rfl h1.symm rfl h2
    · have h1 : (fnd l q).isSome = false := by simpa using h1
      exact pwhen_no l q t A c w hA hz false _ rfl h1.symm rfl
end Go.Proofs.Ytbcgfohacbapoaa
