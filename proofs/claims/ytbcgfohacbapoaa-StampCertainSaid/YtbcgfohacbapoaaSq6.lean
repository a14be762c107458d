
/- The contract of areSkews; what valid skews are. Conditions: the slice read. -/
import Derived.Test.YtbcgfohacbapoaaSk6
namespace Go.Proofs.Ytbcgfohacbapoaa
open Go.RowKit Go.Lib

/-- Skew i is right, and of a later person than the one before. -/
def OkS (l : List Sk) (i : Nat) : Prop := ∀ s, l[i]? = some s → ((0 ≤ s.p ∧ s.p ≤ 39) ∧ -100000 ≤ s.lo ∧ s.lo ≤ s.hi ∧ s.hi ≤ 100000) ∧ (0 < i → ∀ t, l[i - 1]? = some t → t.p < s.p)
/-- Valid skews. -/
def SkOk (l : List Sk) : Prop := ∀ i, i < l.length → OkS l i
noncomputable instance (l : List Sk) : Decidable (SkOk l) := Classical.propDecidable _
theorem SkOk.mem {l : List Sk} (h : SkOk l) {s : Sk} (hs : s ∈ l) : (0 ≤ s.p ∧ s.p ≤ 39) ∧ -100000 ≤ s.lo ∧ s.lo ≤ s.hi ∧ s.hi ≤ 100000 := by
  obtain ⟨i, hi, rfl⟩ := List.getElem_of_mem hs
  exact (h i hi _ (List.getElem?_eq_getElem hi)).1
theorem SkOk.rise {l : List Sk} (h : SkOk l) : ∀ (j i : Nat) (hi : i < l.length) (hj : j < i), (l[j]'(by omega)).p < l[i].p := by
  intro j i
  induction i with
  | zero => intro _ hj; omega
  | succ i ih =>
    intro hi hj
    have h1 := (h (i + 1) hi _ (List.getElem?_eq_getElem hi)).2 (by omega) _ (List.getElem?_eq_getElem (show i + 1 - 1 < l.length by omega))
    by_cases e : j = i
    · subst e; exact h1
    · have h2 := ih (by omega) (by omega)
      have h3 : (l[i]'(by omega)).p < l[i + 1].p := h1
      omega
theorem SkOk.apart {l : List Sk} (h : SkOk l) : Apart l := List.pairwise_iff_getElem.2 fun j i hj hi hji => by have := h.rise j i hi hji; omega
theorem SkOk.few {l : List Sk} (h : SkOk l) : l.length ≤ 40 := by
  have key : ∀ i (hi : i < l.length), (i : Int) ≤ l[i].p := by
    intro i
    induction i with
    | zero => intro hi; have := (h.mem (List.getElem_mem hi)).1; omega
    | succ i ih => intro hi; have h1 := ih (by omega); have h2 := h.rise i (i + 1) hi (by omega); omega
  by_cases hl : l.length ≤ 40
  · exact hl
  · have h1 := key 40 (by omega); have h2 := (h.mem (List.getElem_mem (show 40 < l.length by omega))).1; omega
theorem okS_iff {l : List Sk} {i : Nat} (h : i < l.length) {e0 : Int} (h0 : i = 0 → e0 = 0) (hp : ∀ t, 0 < i → l[i - 1]? = some t → e0 = t.p + 1 ∧ 0 ≤ t.p) : OkS l i ↔ (e0 ≤ l[i].p ∧ l[i].p ≤ 39) ∧ ¬ l[i].lo < -100000 ∧ ¬ l[i].hi < l[i].lo ∧ ¬ 100000 < l[i].hi := by
  unfold OkS
  constructor
  · intro h1
    obtain ⟨h2, h3⟩ := h1 _ (List.getElem?_eq_getElem h)
    by_cases hi : 0 < i
    · have h4 := h3 hi _ (List.getElem?_eq_getElem (show i - 1 < l.length by omega)); have h5 := hp _ hi (List.getElem?_eq_getElem (show i - 1 < l.length by omega)); omega
    · have := h0 (by omega); omega
  · intro h1 s hs
    rw [List.getElem?_eq_getElem h, Option.some.injEq] at hs
    subst hs
    by_cases hi : 0 < i
    · refine ⟨?_, fun _ t ht => ?_⟩
      · have h5 := hp _ hi (List.getElem?_eq_getElem (show i - 1 < l.length by omega)); omega
      · have h5 := hp t hi ht; omega
    · have := h0 (by omega)
      exact ⟨by omega, fun h => absurd h hi⟩
set_option maxRecDepth 100000 in
set_option maxHeartbeats 4000000 in
theorem pareskews_any (l : List Sk) (A : Option Addr) (c : Nat) (w : World) (hA : Kz w A l) (hz : l.length ≤ 9000000000000000000) :
    Calls Try.prog 96 #[.slice A l.length c] w fun e w' => e = .returned (.bool (decide (SkOk l))) ∧ Below w.heap.size w w' := by
  have HA := Lib.hid hA; clear hA
  have HBAD : Hid (∀ i, i < l.length → ¬ OkS l i → decide (SkOk l) = false) := Lib.hid (fun i hi hn => decide_eq_false fun h => hn (h i hi))
  go_enter Try.func96, Try.ntmps96
  go_wp2_with fail
  go_loopw [3, 8] (fun ee ii wr => ∃ (i : Nat) (e0 : Int), ee = .int .i64 e0 ∧ ii = .int .i64 i ∧ i ≤ l.length ∧ (0 ≤ e0 ∧ e0 ≤ 40) ∧ (i = 0 → e0 = 0) ∧ (∀ t, 0 < i → l[i - 1]? = some t → e0 = t.p + 1 ∧ 0 ≤ t.p) ∧ (∀ j, j < i → OkS l j) ∧ Below w.heap.size w wr) (fun _ ii _ => l.length - (intOf ii).toNat)
  case atStart => exact ⟨0, 0, rfl, rfl, Nat.zero_le _, ⟨by omega, by omega⟩, fun _ => rfl, fun _ h => absurd h (by omega), fun j hj => absurd hj (by omega), Below.refl _ _⟩
  case round =>
    obtain ⟨i, e0, rfl, rfl, hi, h0, hz0, hp0, hok, hB⟩ := hrel
    have HOK := Lib.hid hok; have HB := Lib.hid hB; clear hok hB
    by_cases hlt : i < l.length
    case neg =>
      obtain rfl : i = l.length := by omega
      have HT : Hid (decide (SkOk l) = true) := Lib.hid (decide_eq_true fun j hj => HOK.out j hj)
      clear hlt hi hz0 hp0
      go_wp2_with fail
      go_ret
      exact ⟨by rw [HT.out]; rfl, HB.out⟩
    case pos =>
      obtain ⟨b, o, rfl⟩ := HA.out.some (by omega)
      obtain ⟨k0, k1, k2⟩ := Kz.cell HA.out HB.out (Nat.le_refl _) hlt
      have HIL := Lib.hid (okS_iff hlt hz0 hp0)
      have HP : Hid (∀ t, 0 < i + 1 → l[i + 1 - 1]? = some t → t = l[i]) := Lib.hid (fun t _ ht => by rw [show i + 1 - 1 = i from by omega, List.getElem?_eq_getElem hlt, Option.some.injEq] at ht; exact ht.symm)
      obtain ⟨s, hs⟩ : ∃ s, s = l[i] := ⟨_, rfl⟩
      rw [← hs] at k0 k1 k2 HIL HP
      obtain ⟨p, lo, hi2⟩ := s
      dsimp only at k0 k1 k2 HIL
      have q1 : (0 : Int) ≤ (i : Int) := by omega
      have q2 : (i : Int) < (l.length : Int) := by omega
      have q5 : (i : Int) + 1 ≤ 9223372036854775807 := by omega
      have HI := Lib.hid hlt; have H0 := Lib.hid h0
      clear hs hlt hi hz0 hp0 h0
      have HB_0 := Lib.hid (HB.out.alloc HB.out.size (.cells #[.int .i64 p, .int .i64 lo, .int .i64 hi2] 77)); have D_0 := Lib.hid (Blk.new wr 77 #[.int .i64 p, .int .i64 lo, .int .i64 hi2])
      by_cases h0 : e0 ≤ p ∧ p ≤ 39
      case neg =>
        have HC := Lib.hid (fun W => pfrom6_not p e0 39 W h0)
        have HNO : Hid (¬ OkS l i) := Lib.hid (fun h => h0 (HIL.out.1 h).1)
        clear h0
        have yy0 := D_0.out.cell (i := 0) (v := .int .i64 p) rfl; have yy1 := D_0.out.cell (i := 1) (v := .int .i64 lo) rfl; have yy2 := D_0.out.cell (i := 2) (v := .int .i64 hi2) rfl
        go_wp2_with fail
        refine (HC.out _).mono ?_
        rintro e v0 ⟨rfl, hb⟩
        clear k0 k1 k2
        clear yy0 yy1 yy2
        have D_1 : Hid (Blk v0 wr.heap.size 77 #[.int .i64 p, .int .i64 lo, .int .i64 hi2]) := Lib.hid (D_0.out.below hb D_0.out.lt)
        have HB_1 : Hid (Below w.heap.size w v0) := Lib.hid (HB_0.out.trans (hb.mono HB_0.out.size))
        clear hb D_0 HB_0
        have yy0 := D_1.out.cell (i := 0) (v := .int .i64 p) rfl; have yy1 := D_1.out.cell (i := 1) (v := .int .i64 lo) rfl; have yy2 := D_1.out.cell (i := 2) (v := .int .i64 hi2) rfl
        have hundef := un_none
        have HN := Lib.hid (HBAD.out i HI.out HNO.out)
        go_wp2_with fail
        go_ret
        exact ⟨by rw [HN.out]; rfl, HB_1.out⟩
      case pos =>
        by_cases h1 : ¬ lo < -100000
        case neg =>
          have HC := Lib.hid (fun W => pfrom6_yes p e0 39 W h0)
          have HNO : Hid (¬ OkS l i) := Lib.hid (fun h => h1 (HIL.out.1 h).2.1)
          have t1 : decide (lo < -100000) = true := decide_eq_true (Classical.not_not.1 h1)
          clear h0 h1
          have yy0 := D_0.out.cell (i := 0) (v := .int .i64 p) rfl; have yy1 := D_0.out.cell (i := 1) (v := .int .i64 lo) rfl; have yy2 := D_0.out.cell (i := 2) (v := .int .i64 hi2) rfl
          go_wp2_with fail
          refine (HC.out _).mono ?_
          rintro e v0 ⟨rfl, hb⟩
          clear k0 k1 k2
          clear yy0 yy1 yy2
          have D_1 : Hid (Blk v0 wr.heap.size 77 #[.int .i64 p, .int .i64 lo, .int .i64 hi2]) := Lib.hid (D_0.out.below hb D_0.out.lt)
          have HB_1 : Hid (Below w.heap.size w v0) := Lib.hid (HB_0.out.trans (hb.mono HB_0.out.size))
          clear hb D_0 HB_0
          have yy0 := D_1.out.cell (i := 0) (v := .int .i64 p) rfl; have yy1 := D_1.out.cell (i := 1) (v := .int .i64 lo) rfl; have yy2 := D_1.out.cell (i := 2) (v := .int .i64 hi2) rfl
          have hundef := un_none
          have HN := Lib.hid (HBAD.out i HI.out HNO.out)
          go_wp2_with fail
          go_ret
          exact ⟨by rw [HN.out]; rfl, HB_1.out⟩
        case pos =>
          by_cases h2 : ¬ hi2 < lo
          case neg =>
            have HC := Lib.hid (fun W => pfrom6_yes p e0 39 W h0)
            have HNO : Hid (¬ OkS l i) := Lib.hid (fun h => h2 (HIL.out.1 h).2.2.1)
            have t1 : decide (lo < -100000) = false := decide_eq_false h1
            have t2 : decide (lo > hi2) = true := decide_eq_true (Classical.not_not.1 h2)
            clear h0 h1 h2
            have yy0 := D_0.out.cell (i := 0) (v := .int .i64 p) rfl; have yy1 := D_0.out.cell (i := 1) (v := .int .i64 lo) rfl; have yy2 := D_0.out.cell (i := 2) (v := .int .i64 hi2) rfl
            go_wp2_with fail
            refine (HC.out _).mono ?_
            rintro e v0 ⟨rfl, hb⟩
            clear k0 k1 k2
            clear yy0 yy1 yy2
            have D_1 : Hid (Blk v0 wr.heap.size 77 #[.int .i64 p, .int .i64 lo, .int .i64 hi2]) := Lib.hid (D_0.out.below hb D_0.out.lt)
            have HB_1 : Hid (Below w.heap.size w v0) := Lib.hid (HB_0.out.trans (hb.mono HB_0.out.size))
            clear hb D_0 HB_0
            have yy0 := D_1.out.cell (i := 0) (v := .int .i64 p) rfl; have yy1 := D_1.out.cell (i := 1) (v := .int .i64 lo) rfl; have yy2 := D_1.out.cell (i := 2) (v := .int .i64 hi2) rfl
            have hundef := un_none
            have HN := Lib.hid (HBAD.out i HI.out HNO.out)
            go_wp2_with fail
            go_ret
            exact ⟨by rw [HN.out]; rfl, HB_1.out⟩
          case pos =>
            by_cases h3 : ¬ 100000 < hi2
            case neg =>
              have HC := Lib.hid (fun W => pfrom6_yes p e0 39 W h0)
              have HNO : Hid (¬ OkS l i) := Lib.hid (fun h => h3 (HIL.out.1 h).2.2.2)
              have t1 : decide (lo < -100000) = false := decide_eq_false h1
              have t2 : decide (lo > hi2) = false := decide_eq_false h2
              have t3 : decide (hi2 > 100000) = true := decide_eq_true (Classical.not_not.1 h3)
              clear h0 h1 h2 h3
              have yy0 := D_0.out.cell (i := 0) (v := .int .i64 p) rfl; have yy1 := D_0.out.cell (i := 1) (v := .int .i64 lo) rfl; have yy2 := D_0.out.cell (i := 2) (v := .int .i64 hi2) rfl
              go_wp2_with fail
              refine (HC.out _).mono ?_
              rintro e v0 ⟨rfl, hb⟩
              clear k0 k1 k2
              clear yy0 yy1 yy2
              have D_1 : Hid (Blk v0 wr.heap.size 77 #[.int .i64 p, .int .i64 lo, .int .i64 hi2]) := Lib.hid (D_0.out.below hb D_0.out.lt)
              have HB_1 : Hid (Below w.heap.size w v0) := Lib.hid (HB_0.out.trans (hb.mono HB_0.out.size))
              clear hb D_0 HB_0
              have yy0 := D_1.out.cell (i := 0) (v := .int .i64 p) rfl; have yy1 := D_1.out.cell (i := 1) (v := .int .i64 lo) rfl; have yy2 := D_1.out.cell (i := 2) (v := .int .i64 hi2) rfl
              have hundef := un_none
              have HN := Lib.hid (HBAD.out i HI.out HNO.out)
              go_wp2_with fail
              go_ret
              exact ⟨by rw [HN.out]; rfl, HB_1.out⟩
            case pos =>
              have HC := Lib.hid (fun W => pfrom6_yes p e0 39 W h0)
              have HYES : Hid (OkS l i) := Lib.hid (HIL.out.2 ⟨h0, h1, h2, h3⟩); have hp39 := h0.2; have hp0 : 0 ≤ p := by have := H0.out; omega
              have t1 : decide (lo < -100000) = false := decide_eq_false h1
              have t2 : decide (lo > hi2) = false := decide_eq_false h2
              have t3 : decide (hi2 > 100000) = false := decide_eq_false h3
              clear h0 h1 h2 h3
              have yy0 := D_0.out.cell (i := 0) (v := .int .i64 p) rfl; have yy1 := D_0.out.cell (i := 1) (v := .int .i64 lo) rfl; have yy2 := D_0.out.cell (i := 2) (v := .int .i64 hi2) rfl
              go_wp2_with fail
              refine (HC.out _).mono ?_
              rintro e v0 ⟨rfl, hb⟩
              clear k0 k1 k2
              clear yy0 yy1 yy2
              have D_1 : Hid (Blk v0 wr.heap.size 77 #[.int .i64 p, .int .i64 lo, .int .i64 hi2]) := Lib.hid (D_0.out.below hb D_0.out.lt)
              have HB_1 : Hid (Below w.heap.size w v0) := Lib.hid (HB_0.out.trans (hb.mono HB_0.out.size))
              clear hb D_0 HB_0
              have yy0 := D_1.out.cell (i := 0) (v := .int .i64 p) rfl; have yy1 := D_1.out.cell (i := 1) (v := .int .i64 lo) rfl; have yy2 := D_1.out.cell (i := 2) (v := .int .i64 hi2) rfl
              have hundef := un_none
              have e1 : IntKind.i64.wrap (p + 1) = p + 1 := IntWalk.i64_in _ (by omega)
              have HP9 := Lib.hid (And.intro hp0 hp39); clear hp0 hp39
              go_wp2_with fail
              go_roundw
              case rel => exact ⟨i + 1, p + 1, rfl, by go_num, HI.out, by have := HP9.out; omega, fun h => absurd h (by omega), fun t h ht => by rw [HP.out t h ht]; exact ⟨rfl, HP9.out.1⟩, fun j hj => by
                by_cases hji : j = i
                · rw [hji]; exact HYES.out
                · exact HOK.out j (by omega), HB_1.out⟩
              case measure => have := HI.out; simp [intOf]; omega
end Go.Proofs.Ytbcgfohacbapoaa
