
/- The contract of byPerson: a map of skews. Conditions: persons once, ints; the slice read. -/
import Derived.Test.YtbcgfohacbapoaaMp6
namespace Go.Proofs.Ytbcgfohacbapoaa
open Go.RowKit Go.Lib Go.Maps

/-- Who has a skew. -/
def who (l : List Sk) : Int → Bool := fun q => (fnd l q).isSome
theorem fnd_snoc (l : List Sk) (s : Sk) (q : Int) : fnd (l ++ [s]) q = (fnd l q).or (if s.p = q then some s else none) := by
  unfold fnd
  rw [List.find?_append]
  by_cases h : s.p = q
  · rw [if_pos h]; simp [h]
  · rw [if_neg h]; simp [h]
theorem who_snoc {l : List Sk} {s : Sk} : (fun x => if x = s.p then true else who l x) = who (l ++ [s]) := by
  funext x
  unfold who
  rw [fnd_snoc]
  by_cases h : x = s.p
  · rw [if_pos h, if_pos h.symm]; cases fnd l x <;> rfl
  · rw [if_neg h, if_neg (Ne.symm h)]; cases fnd l x <;> rfl
theorem byP_snoc {l : List Sk} {s : Sk} (h : fnd l s.p = none) : (fun x => if x = s.p then s else byP l x) = byP (l ++ [s]) := by
  funext x
  unfold byP
  rw [fnd_snoc]
  by_cases e : x = s.p
  · subst e; rw [if_pos rfl, if_pos rfl, h]; rfl
  · rw [if_neg e, if_neg (Ne.symm e)]; cases fnd l x <;> rfl
theorem apart_new {l : List Sk} (h : Apart l) {i : Nat} (hi : i < l.length) : fnd (l.take i) l[i].p = none := by
  refine fnd_none fun j hj => ?_
  simp only [List.length_take] at hj
  rw [List.getElem_take]
  exact List.pairwise_iff_getElem.1 h j i (by omega) hi (by omega)
theorem take_snoc {α : Type} {l : List α} {i : Nat} (hi : i < l.length) : l.take (i + 1) = l.take i ++ [l[i]] := by
  rw [List.take_add_one, List.getElem?_eq_getElem hi]; rfl
/-- Persons that are ints, each once. -/
def Prs (l : List Sk) : Prop := Apart l ∧ l.length ≤ 40 ∧ ∀ s ∈ l, 0 ≤ s.p ∧ s.p ≤ 39
theorem SkOk.prs {l : List Sk} (h : SkOk l) : Prs l := ⟨h.apart, h.few, fun _ hs => (h.mem hs).1⟩
set_option maxRecDepth 100000 in
set_option maxHeartbeats 4000000 in
theorem pbyperson_any (l : List Sk) (A : Option Addr) (c : Nat) (w : World) (hA : Kz w A l) (hp : Prs l) :
    Calls Try.prog 91 #[.slice A l.length c] w fun e w' => e = .returned (.map (some w.heap.size)) ∧ MapB w' w.heap.size l.length (who l) (byP l) ∧ Below w.heap.size w w' := by
  have HA := Lib.hid hA; have HP := Lib.hid hp
  have hz : l.length ≤ 40 := hp.2.1
  have hmm := @run_makeMap Try.prog
  have HM0 := Lib.hid (MapB.made w)
  have HB0 := Lib.hid ((Below.refl w.heap.size w).alloc (Nat.le_refl _) (.map #[] 0))
  clear hA hp
  go_enter Try.func91, Try.ntmps91
  go_wp2_with fail
  clear hmm
  go_loopw [9] (fun ii wr => ∃ i : Nat, ii = .int .i64 i ∧ i ≤ l.length ∧ MapB wr w.heap.size i (who (l.take i)) (byP (l.take i)) ∧ Below w.heap.size w wr) (fun ii _ => l.length - (intOf ii).toNat)
  case atStart => exact ⟨0, rfl, Nat.zero_le _, HM0.out, HB0.out⟩
  case round =>
    clear HM0 HB0
    obtain ⟨i, rfl, hi, hM, hB⟩ := hrel
    have HB := Lib.hid hB; clear hB
    by_cases hlt : i < l.length
    case neg =>
      obtain rfl : i = l.length := by omega
      rw [List.take_length] at hM
      have HM := Lib.hid hM
      clear hlt hi hM
      go_wp2_with fail
      go_ret
      exact ⟨rfl, HM.out, HB.out⟩
    case pos =>
      obtain ⟨b, o, rfl⟩ := HA.out.some (by omega)
      obtain ⟨k0, k1, k2⟩ := Kz.cell HA.out HB.out (Nat.le_refl _) hlt
      have h1 := apart_new HP.out.1 hlt
      have h2 := HP.out.2.2 _ (List.getElem_mem hlt)
      have HTK := Lib.hid (take_snoc hlt)
      obtain ⟨s, hs⟩ : ∃ s, s = l[i] := ⟨_, rfl⟩
      rw [← hs] at k0 k1 k2 h1 h2 HTK
      have q1 : (0 : Int) ≤ (i : Int) := by omega
      have q2 : (i : Int) < (l.length : Int) := by omega
      have q5 : (i : Int) + 1 ≤ 9223372036854775807 := by omega
      have HI := Lib.hid hlt
      obtain ⟨w1, hrun, hM1, hG⟩ := (hM.alloc (.cells #[.int .i64 s.p, .int .i64 s.lo, .int .i64 s.hi] 77)).store (q := s.p) ⟨by omega, by omega⟩ (by omega) s
      rw [who_snoc, byP_snoc h1, show who (l.take i) s.p = false from by unfold who; rw [h1]; rfl, if_neg (by simp), ← HTK.out] at hM1
      have HM1 := Lib.hid hM1
      have HB1 := Lib.hid ((HB.out.alloc HB.out.size _).grown hG (HB.out.alloc HB.out.size _).size (fun k e => by cases e; exact Nat.le_refl _))
      have HD := Lib.hid (Blk.new wr 77 #[.int .i64 s.p, .int .i64 s.lo, .int .i64 s.hi])
      have d0 := HD.out.cell (i := 0) (v := .int .i64 s.p) rfl; have d1 := HD.out.cell (i := 1) (v := .int .i64 s.lo) rfl; have d2 := HD.out.cell (i := 2) (v := .int .i64 s.hi) rfl
      clear hs hlt hi hM hM1 hG h1 h2
      go_wp2_with fail
      go_roundw
      case rel => exact ⟨i + 1, by go_num, HI.out, HM1.out, HB1.out⟩
      case measure => have := HI.out; simp [intOf]; omega
end Go.Proofs.Ytbcgfohacbapoaa
