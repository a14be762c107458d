
/- The mathematics of the statement StampCertain: what the loop over the advances finds is the least and the greatest difference of true times. No conditions. -/
import Derived.Test.YtbcgfohacbapoaaEr6
import Derived.Test.YtbcgfohacbapoaaTl6
namespace Go.Proofs.Ytbcgfohacbapoaa
open Go.RowKit Go.Lib

theorem Poss.sub {l : List Sk} {ms ms2 : List Mt} {A : Int → Int} (h : Poss l ms A) (hs : ∀ m ∈ ms2, m ∈ ms) : Poss l ms2 A := ⟨h.1, fun m hm => h.2 m (hs m hm)⟩
theorem IsSp.join2 {l : List Sk} {ms : List Mt} {P V : Int} {s : Kn} (h : IsSp ms P V s true) {A0 : Int → Int} (hA : Poss l ms A0) (hb : ∀ x ∈ l, s.k x.p = true → x.lo ≤ s.v x.p ∧ s.v x.p ≤ x.hi) : Poss l ms (fun q => if s.k q = true then s.v q else A0 q) ∧ s.k P = true ∧ s.v P = V := by
  obtain ⟨⟨h1, h2, h3⟩, h4, h5⟩ := h.2 rfl
  refine ⟨⟨fun x hx => ?_, fun m hm => ?_⟩, h1, h2⟩
  · dsimp only; split
    · next hq => exact hb x hx hq
    · exact hA.1 x hx
  · have hc := h4 m hm
    dsimp only
    cases ha : s.k m.a
    · rw [ha] at hc; rw [if_neg (by simp), ← hc, if_neg (by simp)]; exact hA.2 m hm
    · rw [ha] at hc; rw [if_pos rfl, ← hc, if_pos rfl]; exact h5 m hm ha
/-- What spread says of another person, when the advance is possible. -/
def lowOf (s : Kn) (q lo : Int) : Int := if s.k q = true then s.v q else lo
/-- The advances of another person that are possible with this one lie between the two, and both are reached. -/
theorem sp_between {l : List Sk} {ms : List Mt} {out : List Sk} (ht : IsTt l ms out) (hc : IsClk l) {i k : Nat} (hi : i < out.length) (hk : k < out.length) {V : Int} (hV : out[i].lo ≤ V ∧ V ≤ out[i].hi) {s : Kn} {ok : Bool} (h : IsSp ms (i : Int) V s ok) :
    ok = true ∧ (∀ A, Poss l ms A → A (i : Int) = V → lowOf s (k : Int) out[k].lo ≤ A (k : Int) ∧ A (k : Int) ≤ lowOf s (k : Int) out[k].hi) ∧ (∃ A, Poss l ms A ∧ A (i : Int) = V ∧ A (k : Int) = lowOf s (k : Int) out[k].lo) ∧ (∃ A, Poss l ms A ∧ A (i : Int) = V ∧ A (k : Int) = lowOf s (k : Int) out[k].hi) := by
  obtain ⟨A, hA, hP⟩ := (ht.iff hc hi V).2 hV
  obtain ⟨rfl, hag⟩ := h.agree hA.2 hP
  have hb : ∀ x ∈ l, s.k x.p = true → x.lo ≤ s.v x.p ∧ s.v x.p ≤ x.hi := fun x hx hq => by rw [hag _ hq]; exact hA.1 x hx
  have hp := ht.pers hc hk
  have hm := List.getElem_mem hk
  refine ⟨rfl, fun A2 h2 hP2 => ?_, ?_, ?_⟩
  · unfold lowOf
    by_cases hq : s.k (k : Int) = true
    · rw [if_pos hq, if_pos hq, (h.agree h2.2 hP2).2 _ hq]; exact ⟨Int.le_refl _, Int.le_refl _⟩
    · rw [if_neg hq, if_neg hq]; have := ht.2.2.2 A2 h2 _ hm; rw [hp] at this; exact this
  · obtain ⟨L, hL, eL⟩ := ht.2.1
    obtain ⟨h1, h2, h3⟩ := h.join2 hL hb
    refine ⟨_, h1, ?_, ?_⟩
    · rw [if_pos h2]; exact h3
    · have := eL _ hm; rw [hp] at this; rw [this]; rfl
  · obtain ⟨H, hH, eH⟩ := ht.2.2.1
    obtain ⟨h1, h2, h3⟩ := h.join2 hH hb
    refine ⟨_, h1, ?_, ?_⟩
    · rw [if_pos h2]; exact h3
    · have := eH _ hm; rw [hp] at this; rw [this]; rfl
/-- The difference of the true times. -/
def Gd (a b : Sm) (A : Int → Int) : Int := a.t - A a.p - b.t + A b.p
/-- What the loop over the advances has found before V. -/
def LM (l : List Sk) (ms : List Mt) (a b : Sm) (lo V le mo : Int) : Prop :=
  (∀ A, Poss l ms A → A a.p < V → le ≤ Gd a b A ∧ Gd a b A ≤ mo) ∧ (lo < V → (∃ A, Poss l ms A ∧ Gd a b A = le) ∧ ∃ A, Poss l ms A ∧ Gd a b A = mo) ∧ ((-1099511627776 ≤ le ∧ le ≤ 1099511627776) ∧ (-1099511627776 ≤ mo ∧ mo ≤ 1099511627776)) ∧ (V = lo → le = 1099511627776 ∧ mo = -1099511627776)
theorem LM.start {l : List Sk} {ms : List Mt} {a b : Sm} {lo : Int} (h : ∀ A, Poss l ms A → lo ≤ A a.p) : LM l ms a b lo lo 1099511627776 (-1099511627776) :=
  ⟨fun A hA hl => absurd (h A hA) (by omega), fun h => absurd h (by omega), by omega, fun _ => ⟨rfl, rfl⟩⟩
theorem LM.step {l : List Sk} {ms : List Mt} {a b : Sm} {lo V le mo low high : Int} (h : LM l ms a b lo V le mo) (hv : lo ≤ V)
    (h1 : ∀ A, Poss l ms A → A a.p = V → low ≤ A b.p ∧ A b.p ≤ high) (h2 : ∃ A, Poss l ms A ∧ A a.p = V ∧ A b.p = low) (h3 : ∃ A, Poss l ms A ∧ A a.p = V ∧ A b.p = high)
    {x y : Int} (hx : x = a.t - V - b.t + low) (hy : y = a.t - V - b.t + high) (bx : -1000000 ≤ x ∧ x ≤ 1000000) (by_ : -1000000 ≤ y ∧ y ≤ 1000000) : LM l ms a b lo (V + 1) (min le x) (max mo y) := by
  obtain ⟨p1, p2, p3, p4⟩ := h
  refine ⟨fun A hA hl => ?_, fun _ => ⟨?_, ?_⟩, by omega, fun e => by omega⟩
  · by_cases e : A a.p = V
    · have := h1 A hA e
      unfold Gd; rw [e]; omega
    · have := p1 A hA (by omega); omega
  · by_cases e : le ≤ x
    · have hl : lo < V := by
        rcases Int.lt_or_eq_of_le hv with h | h
        · exact h
        · have := p4 h.symm; omega
      obtain ⟨A, hA, e2⟩ := (p2 hl).1
      exact ⟨A, hA, by omega⟩
    · obtain ⟨A, hA, e1, e2⟩ := h2
      exact ⟨A, hA, by unfold Gd; rw [e1, e2]; omega⟩
  · by_cases e : y ≤ mo
    · have hl : lo < V := by
        rcases Int.lt_or_eq_of_le hv with h | h
        · exact h
        · have := p4 h.symm; omega
      obtain ⟨A, hA, e2⟩ := (p2 hl).2
      exact ⟨A, hA, by omega⟩
    · obtain ⟨A, hA, e1, e2⟩ := h3
      exact ⟨A, hA, by unfold Gd; rw [e1, e2]; omega⟩
theorem LM.done {l : List Sk} {ms : List Mt} {a b : Sm} {lo hi le mo : Int} (h : LM l ms a b lo (hi + 1) le mo) (hl : lo ≤ hi) (hb : ∀ A, Poss l ms A → A a.p ≤ hi) : (Earl l ms a b ↔ mo < 0) ∧ (Earl l ms b a ↔ 0 < le) := by
  obtain ⟨p1, p2, -, -⟩ := h
  obtain ⟨⟨A1, hA1, e1⟩, A2, hA2, e2⟩ := p2 (by omega)
  refine ⟨⟨fun h => ?_, fun h A hA => ?_⟩, fun h => ?_, fun h A hA => ?_⟩
  · have := h A2 hA2; unfold Gd at e2; omega
  · have := p1 A hA (by have := hb A hA; omega); unfold Gd at this; omega
  · have := h A1 hA1; unfold Gd at e1; omega
  · have := p1 A hA (by have := hb A hA; omega); unfold Gd at this; omega
/-- What Order answers. -/
noncomputable def orN (l : List Sk) (ms : List Mt) (a b : Sm) : Int := if Earl l ms a b then -1 else if Earl l ms b a then 1 else 0
theorem earl_not {l : List Sk} {ms : List Mt} {a b : Sm} (hf : Feas l ms) (h : Earl l ms a b) : ¬ Earl l ms b a := fun h2 => by
  obtain ⟨A, hA⟩ := hf
  have := h A hA; have := h2 A hA; omega
theorem orN_neg {l : List Sk} {ms : List Mt} {a b : Sm} (hf : Feas l ms) : orN l ms b a = -orN l ms a b := by
  unfold orN
  by_cases h : Earl l ms a b
  · have h2 := earl_not hf h
    simp [h, h2]
  · by_cases h2 : Earl l ms b a <;> simp [h, h2]
theorem orN_bd (l : List Sk) (ms : List Mt) (a b : Sm) : -1 ≤ orN l ms a b ∧ orN l ms a b ≤ 1 := by
  unfold orN; split
  · omega
  · split <;> omega
theorem orN_lt {l : List Sk} {ms : List Mt} {a b : Sm} : orN l ms a b = -1 ↔ Earl l ms a b := by
  unfold orN
  by_cases h : Earl l ms a b
  · rw [if_pos h]; exact ⟨fun _ => h, fun _ => rfl⟩
  · rw [if_neg h]; exact ⟨fun e => by split at e <;> omega, fun h2 => absurd h2 h⟩
theorem orN_gt {l : List Sk} {ms : List Mt} {a b : Sm} (hf : Feas l ms) : orN l ms a b = 1 ↔ Earl l ms b a := by
  have h1 := orN_neg (a := a) (b := b) hf
  have h2 := orN_lt (l := l) (ms := ms) (a := b) (b := a)
  rw [← h2]; omega
theorem earl_take {l : List Sk} {ms : List Mt} {a b : Sm} {c : Nat} (h : Earl l (ms.take c) a b) : Earl l ms a b := fun A hA => h A (hA.sub fun _ hm => List.mem_of_mem_take hm)
theorem orN_take {l : List Sk} {ms : List Mt} {a b : Sm} (hf : Feas l ms) (c : Nat) : orN l (ms.take c) a b = 0 ∨ orN l (ms.take c) a b = orN l ms a b := by
  by_cases h : Earl l (ms.take c) a b
  · right; rw [orN_lt.2 h, orN_lt.2 (earl_take h)]
  · by_cases h2 : Earl l (ms.take c) b a
    · right; rw [(orN_gt (hf.take c)).2 h2, (orN_gt hf).2 (earl_take h2)]
    · left; unfold orN; rw [if_neg h, if_neg h2]
theorem orR_eq {l : List Sk} {ms : List Mt} {a b : Sm} (h : OrOk l ms a b) : orR l ms a b = .tuple #[.int .i64 (orN l ms a b), .int .i64 0] := by
  unfold orR; rw [if_pos h]; rfl
end Go.Proofs.Ytbcgfohacbapoaa
