
/- The contract of the reference's Clocks. Conditions: the rows read. -/
import Derived.Test.YtbcgfohacbapoaaPk6
import Derived.Test.YtbcgfohacbapoaaXz6
namespace Go.Proofs.Ytbcgfohacbapoaa
open Go.RowKit Go.Lib

/-- Skews as Clocks makes them. -/
def IsClk (l : List Sk) : Prop := l.length ≤ 6 ∧ ∀ i (h : i < l.length), l[i].p = (i : Int) ∧ (-30 ≤ l[i].lo ∧ l[i].lo ≤ 29) ∧ (l[i].lo ≤ l[i].hi ∧ l[i].hi ≤ l[i].lo + 39)
theorem IsClk.ok {l : List Sk} (h : IsClk l) : SkOk l := fun i hi s hs => by
  rw [List.getElem?_eq_getElem hi, Option.some.injEq] at hs
  subst hs
  have h1 := h.2 i hi; have h0 := h.1
  refine ⟨by omega, fun hi0 t ht => ?_⟩
  rw [List.getElem?_eq_getElem (show i - 1 < l.length by omega), Option.some.injEq] at ht
  subst ht
  have h2 := h.2 (i - 1) (by omega); omega
theorem IsClk.snoc {l : List Sk} (h : IsClk l) (hl : l.length < 6) {lo hi : Int} (h1 : -30 ≤ lo ∧ lo ≤ 29) (h2 : lo ≤ hi ∧ hi ≤ lo + 39) : IsClk (l ++ [⟨(l.length : Int), lo, hi⟩]) := by
  refine ⟨by simp; omega, fun i hi2 => ?_⟩
  simp only [List.length_append, List.length_singleton] at hi2
  by_cases e : i < l.length
  · rw [List.getElem_append_left e]; exact h.2 i e
  · obtain rfl : i = l.length := by omega
    simp; omega
set_option maxRecDepth 100000 in
set_option maxHeartbeats 8000000 in
theorem rclocks_any (A : Option Addr) (n c : Nat) (w : World) (hA : Xz 2 w A n) (hz : n ≤ 9223372036854775807) :
    Calls Try.prog 52 #[.slice A n c] w fun e w' => (∃ (l : List Sk) (A2 : Option Addr) (c2 : Nat), e = .returned (.slice A2 l.length c2) ∧ IsClk l ∧ Kz w' A2 l ∧ (l.length = 0 ↔ n = 0) ∧ l.length ≤ c2 ∧ (A2 = none → c2 = 0) ∧ (∀ b o, A2 = some ⟨b, o, none⟩ → w.heap.size ≤ b)) ∧ Below w.heap.size w w' := by
  have HA := Lib.hid hA; clear hA
  go_enter Try.func52, Try.ntmps52
  go_wp2_with fail
  go_loopw [3, 4] (fun vv ii wr => ∃ (i : Nat) (l : List Sk) (v1 : Value), v1 = vv ∧ ii = .int .i64 i ∧ i ≤ n ∧ l.length = i ∧ IsClk l ∧ OwnL skc 3 77 wr w.heap.size v1 l ∧ Below w.heap.size w wr) (fun _ ii _ => n - (intOf ii).toNat)
  case atStart => exact ⟨0, [], _, rfl, rfl, Nat.zero_le _, rfl, ⟨by simp, fun i h => absurd h (by simp)⟩, OwnL.nil _ _, Below.refl _ _⟩
  case round =>
    obtain ⟨i, l, v1, rfl, rfl, hi, hl, hc, hown, hB⟩ := hrel
    have HL := Lib.hid hl; have HC := Lib.hid hc; have HOW := Lib.hid hown; have HB := Lib.hid hB; clear hl hc hown hB
    by_cases hgo : i < n ∧ i < 6
    case neg =>
      have HE : Hid (l.length = 0 ↔ n = 0) := Lib.hid (by have := HL.out; omega)
      by_cases h1 : i < n
      case pos =>
        have h2 : ¬ (i : Int) < 6 := by omega
        clear hgo hi
        go_wp2_with fail
        go_ret
        refine ⟨?_, HB.out⟩
        obtain ⟨A3, c3, hv, hz, hc, hn, hm⟩ := OwnL.read apK HOW.out
        exact ⟨l, A3, c3, by rw [hv]; rfl, HC.out, hz, by simpa using HE.out, hc, hn, fun b o e => OwnL.block HOW.out (by rw [hv, e]; rfl)⟩
      case neg =>
        have hundef := un_none
        clear hgo hi
        go_wp2_with fail
        go_ret
        refine ⟨?_, HB.out⟩
        obtain ⟨A3, c3, hv, hz, hc, hn, hm⟩ := OwnL.read apK HOW.out
        exact ⟨l, A3, c3, by rw [hv]; rfl, HC.out, hz, by simpa using HE.out, hc, hn, fun b o e => OwnL.block HOW.out (by rw [hv, e]; rfl)⟩
    case pos =>
      obtain ⟨h1, h2⟩ := hgo
      obtain ⟨b, o, u0, u1, rfl, hu0, hu1, hcell⟩ := HA.out.row2 h1
      obtain ⟨c0, c1⟩ := hcell wr HB.out
      have HCE := Lib.hid hcell
      obtain ⟨k0, hk0, hP0⟩ := rpick_one u0 60 hu0 (by omega)
      obtain ⟨k1, hk1, hP1⟩ := rpick_one u1 40 hu1 (by omega)
      have HP0 := Lib.hid hP0; have HP1 := Lib.hid hP1
      obtain ⟨lo, hlo⟩ : ∃ x, x = k0 - 30 := ⟨_, rfl⟩
      obtain ⟨hi2, hhi⟩ : ∃ x, x = lo + k1 := ⟨_, rfl⟩
      have e1 : IntKind.i64.wrap (k0 - 30) = lo := by rw [hlo]; exact IntWalk.i64_in _ (by omega)
      have e2 : IntKind.i64.wrap (lo + k1) = hi2 := by rw [hhi]; exact IntWalk.i64_in _ (by omega)
      have HNW := Lib.hid (HC.out.snoc (lo := lo) (hi := hi2) (by have := HL.out; omega) (by omega) (by omega))
      rw [HL.out] at HNW
      have q1 : (0 : Int) ≤ (i : Int) := by omega
      have q2 : (i : Int) < (n : Int) := by omega
      have q3 : (i : Int) < 6 := by omega
      have q5 : (i : Int) + 1 ≤ 9223372036854775807 := by omega
      have HI := Lib.hid h1; have HI6 := Lib.hid h2
      clear hcell hP0 hP1 hu0 hu1 hk0 hk1 hlo hhi h1 h2 hi hz
      go_wp2_with fail
      refine (HP0.out _).mono ?_
      rintro e v0 ⟨rfl, hb⟩
      have HO0 := Lib.hid (HOW.out.below hb); have HB0 := Lib.hid (HB.out.trans (hb.mono HB.out.size)); clear hb c0 c1
      obtain ⟨c0, c1⟩ := HCE.out _ HB0.out
      go_wp2_with fail
      refine (HP1.out _).mono ?_
      rintro e v2 ⟨rfl, hb⟩
      have HO2 := Lib.hid (HO0.out.below hb); have HB2 := Lib.hid (HB0.out.trans (hb.mono HB0.out.size)); clear hb c0 c1
      go_wp2_with (at_builtin; refine wpList_append_one apK rfl _ _ rfl w.heap.size v1 l rfl (show OwnL skc 3 77 (v2.alloc (.cells #[.int .i64 (i : Nat), .int .i64 lo, .int .i64 hi2] 77)) _ _ _ from HO2.out.below ((Below.refl _ _).alloc (Nat.le_refl _) _)) v2.heap.size ⟨(i : Int), lo, hi2⟩ rfl (Blk.new v2 _ _) (by have := HL.out; have := HI6.out; omega) (by have := HB2.out.size; simp; omega) ?_; intro v4 w4 hown4 hgrow4; have HO4 := Lib.hid hown4; have HB4 := Lib.hid ((HB2.out.alloc HB2.out.size _).grown hgrow4 (HB2.out.alloc HB2.out.size _).size (fun k e => OwnL.block HO2.out e)); clear hown4 hgrow4)
      go_roundw
      case rel => exact ⟨i + 1, l ++ [⟨(i : Int), lo, hi2⟩], v4, rfl, by go_num, HI.out, by rw [List.length_append, HL.out]; rfl, HNW.out, HO4.out, HB4.out⟩
      case measure => have := HI.out; simp [intOf]; omega
end Go.Proofs.Ytbcgfohacbapoaa
