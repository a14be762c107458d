
/- The mathematics of advances that are spread along meetings. No conditions. -/
import Derived.Test.YtbcgfohacbapoaaCk6
namespace Go.Proofs.Ytbcgfohacbapoaa

/-- Meetings hold. -/
def Mtg (ms : List Mt) (A : Int → Int) : Prop := ∀ m ∈ ms, A m.a - A m.b = m.ta - m.tb
/-- What is known of advances. -/
structure Kn where
  v : Int → Int
  k : Int → Bool
/-- One meeting: what it tells. -/
def sp1 (s : Kn) (m : Mt) : Kn :=
  if s.k m.a = true ∧ s.k m.b = false then ⟨fun q => if q = m.b then s.v m.a - (m.ta - m.tb) else s.v q, fun q => if q = m.b then true else s.k q⟩
  else if s.k m.b = true ∧ s.k m.a = false then ⟨fun q => if q = m.a then s.v m.b + (m.ta - m.tb) else s.v q, fun q => if q = m.a then true else s.k q⟩
  else s
/-- It contradicts. -/
def bad1 (s : Kn) (m : Mt) : Prop := s.k m.a = true ∧ s.k m.b = true ∧ s.v m.a - s.v m.b ≠ m.ta - m.tb
/-- What is known is so. -/
def Snd (ms : List Mt) (P V : Int) (s : Kn) : Prop := s.k P = true ∧ s.v P = V ∧ ∀ A, Mtg ms A → A P = V → ∀ q, s.k q = true → s.v q = A q
section
variable {ms : List Mt} {P V : Int} {s : Kn}
theorem sp1_known {m : Mt} {q : Int} (h : s.k q = true) : (sp1 s m).k q = true ∧ (sp1 s m).v q = s.v q := by
  unfold sp1; split
  · next hc =>
    dsimp only
    have : q ≠ m.b := fun e => by rw [e, hc.2] at h; cases h
    rw [if_neg this, if_neg this]; exact ⟨h, rfl⟩
  · split
    · next hc =>
      dsimp only
      have : q ≠ m.a := fun e => by rw [e, hc.2] at h; cases h
      rw [if_neg this, if_neg this]; exact ⟨h, rfl⟩
    · exact ⟨h, rfl⟩
theorem sp1_both {m : Mt} (h : s.k m.a = true ∨ s.k m.b = true) : (sp1 s m).k m.a = true ∧ (sp1 s m).k m.b = true := by
  cases ha : s.k m.a <;> cases hb : s.k m.b
  · rw [ha, hb] at h; simp at h
  · unfold sp1; rw [if_neg (by simp [ha]), if_pos ⟨hb, ha⟩]; dsimp only
    refine ⟨by simp, ?_⟩
    split
    · rfl
    · exact hb
  · unfold sp1; rw [if_pos ⟨ha, hb⟩]; dsimp only
    refine ⟨?_, by simp⟩
    split
    · rfl
    · exact ha
  · unfold sp1; rw [if_neg (by simp [hb]), if_neg (by simp [ha])]; exact ⟨ha, hb⟩
theorem Snd.step (h : Snd ms P V s) {m : Mt} (hm : m ∈ ms) : Snd ms P V (sp1 s m) := by
  obtain ⟨h1, h2, h3⟩ := h
  refine ⟨(sp1_known h1).1, (sp1_known h1).2.trans h2, fun A hA hP q hq => ?_⟩
  have hg := hA m hm
  by_cases hk : s.k q = true
  · rw [(sp1_known hk).2]; exact h3 A hA hP q hk
  · unfold sp1 at hq ⊢
    split
    · next hc =>
      rw [if_pos hc] at hq
      dsimp only at hq ⊢
      by_cases e : q = m.b
      · rw [if_pos e, e]; have := h3 A hA hP _ hc.1; omega
      · rw [if_neg e] at hq; exact absurd hq hk
    · next hc =>
      rw [if_neg hc] at hq
      split
      · next hc2 =>
        rw [if_pos hc2] at hq
        dsimp only at hq ⊢
        by_cases e : q = m.a
        · rw [if_pos e, e]; have := h3 A hA hP _ hc2.1; omega
        · rw [if_neg e] at hq; exact absurd hq hk
      · next hc2 => rw [if_neg hc2] at hq; exact absurd hq hk
/-- A contradiction: nothing is possible. -/
theorem Snd.bad (h : Snd ms P V s) {m : Mt} (hm : m ∈ ms) (hb : bad1 s m) {A : Int → Int} (hA : Mtg ms A) (hP : A P = V) : False := by
  have h1 := h.2.2 A hA hP _ hb.1; have h2 := h.2.2 A hA hP _ hb.2.1; have h3 := hA m hm; have h4 := hb.2.2
  omega
/-- One time through all meetings. -/
def spL (ms : List Mt) (s : Kn) : Kn := ms.foldl sp1 s
def spN (ms : List Mt) : Nat → Kn → Kn
  | 0, s => s
  | k + 1, s => spL ms (spN ms k s)
theorem spL_known : ∀ (l : List Mt) (s : Kn) {q : Int}, s.k q = true → (spL l s).k q = true ∧ (spL l s).v q = s.v q
  | [], _, _, h => ⟨h, rfl⟩
  | m :: r, s, q, h => by
    have h1 := sp1_known (m := m) h
    have h2 := spL_known r (sp1 s m) h1.1
    exact ⟨h2.1, h2.2.trans h1.2⟩
theorem spL_both : ∀ (l : List Mt) (s : Kn) {m : Mt}, m ∈ l → s.k m.a = true ∨ s.k m.b = true → (spL l s).k m.a = true ∧ (spL l s).k m.b = true
  | x :: r, s, m, hm, h => by
    simp only [List.mem_cons] at hm
    have hk : (sp1 s x).k m.a = true ∨ (sp1 s x).k m.b = true := h.imp (fun h => (sp1_known h).1) (fun h => (sp1_known h).1)
    rcases hm with rfl | hm
    · have h1 := sp1_both h
      exact ⟨(spL_known r _ h1.1).1, (spL_known r _ h1.2).1⟩
    · exact spL_both r (sp1 s x) hm hk
/-- Whoever has met somebody who is known is known. -/
def Clo (ms : List Mt) (s : Kn) : Prop := ∀ m ∈ ms, s.k m.a = s.k m.b
theorem clo_sp1 (h : Clo ms s) {m : Mt} (hm : m ∈ ms) : sp1 s m = s := by
  have := h m hm
  unfold sp1
  rw [if_neg (by rw [this]; intro hc; rw [hc.1] at hc; exact absurd hc.2 (by simp)), if_neg (by rw [this]; intro hc; rw [hc.1] at hc; exact absurd hc.2 (by simp))]
theorem clo_spL (h : Clo ms s) : ∀ l : List Mt, (∀ m ∈ l, m ∈ ms) → spL l s = s
  | [], _ => rfl
  | m :: r, hs => by
    show spL r (sp1 s m) = s
    rw [clo_sp1 h (hs m (by simp))]
    exact clo_spL h r (fun x hx => hs x (by simp [hx]))
/-- How many meetings are between known ones. -/
def knc (s : Kn) (ms : List Mt) : Nat := (ms.map fun m => if s.k m.a = true ∧ s.k m.b = true then 1 else 0).sum
theorem knc_le (s : Kn) : ∀ ms : List Mt, knc s ms ≤ ms.length
  | [] => Nat.le_refl _
  | m :: r => by
    have := knc_le s r
    unfold knc at this ⊢
    simp only [List.map_cons, List.sum_cons, List.length_cons]
    split <;> omega
theorem knc_all (s : Kn) : ∀ ms : List Mt, knc s ms = ms.length → ∀ m ∈ ms, s.k m.a = true ∧ s.k m.b = true
  | [], _, _, h => by simp at h
  | x :: r, h, m, hm => by
    have := knc_le s r
    unfold knc at this h
    simp only [List.map_cons, List.sum_cons, List.length_cons] at h
    have hq : s.k x.a = true ∧ s.k x.b = true := by
      by_cases hq : s.k x.a = true ∧ s.k x.b = true
      · exact hq
      · rw [if_neg hq] at h; omega
    rw [if_pos hq] at h
    simp only [List.mem_cons] at hm
    rcases hm with rfl | hm
    · exact hq
    · exact knc_all s r (by unfold knc; omega) m hm
theorem knc_up (h : ¬ Clo ms s) : knc s ms < knc (spL ms s) ms := by
  obtain ⟨m, hm⟩ := Classical.not_forall.1 h
  obtain ⟨hm, hne⟩ := Classical.not_imp.1 hm
  refine sum_lt_of _ _ ms (fun x _ => ?_) ⟨m, hm, ?_⟩
  · by_cases hq : s.k x.a = true ∧ s.k x.b = true
    · rw [if_pos hq, if_pos ⟨(spL_known ms s hq.1).1, (spL_known ms s hq.2).1⟩]; omega
    · rw [if_neg hq]; omega
  · have hor : s.k m.a = true ∨ s.k m.b = true := by
      cases ha : s.k m.a <;> cases hb : s.k m.b <;> simp_all
    rw [if_neg (fun hc => hne (hc.1.trans hc.2.symm)), if_pos (spL_both ms s hm hor)]; omega
theorem spN_clo (s : Kn) : ∀ k, Clo ms (spN ms k s) ∨ k ≤ knc (spN ms k s) ms
  | 0 => Or.inr (Nat.zero_le _)
  | k + 1 => by
    by_cases hc : Clo ms (spN ms k s)
    · refine Or.inl ?_
      simp only [spN]; rw [clo_spL hc ms (fun _ h => h)]; exact hc
    · rcases spN_clo s k with h | h
      · exact absurd h hc
      · have := knc_up hc
        refine Or.inr ?_
        simp only [spN]; omega
/-- After as many rounds as there are meetings nobody more is known. -/
theorem spN_all (s : Kn) : Clo ms (spN ms ms.length s) := by
  rcases spN_clo (ms := ms) s ms.length with h | h
  · exact h
  · have h1 := knc_le (spN ms ms.length s) ms
    have h2 := knc_all _ ms (Nat.le_antisymm h1 h)
    exact fun m hm => by rw [(h2 m hm).1, (h2 m hm).2]
end
/-- What spreading says: contradictory, or known and closed. -/
def IsSp (ms : List Mt) (P V : Int) (s : Kn) (ok : Bool) : Prop :=
  (ok = false → ∀ A, Mtg ms A → A P = V → False) ∧ (ok = true → Snd ms P V s ∧ Clo ms s ∧ ∀ m ∈ ms, s.k m.a = true → s.v m.a - s.v m.b = m.ta - m.tb)
/-- From what is known, and one that is possible, one that is possible with the advance. -/
theorem IsSp.join {l : List Sk} {ms : List Mt} {P V : Int} {s : Kn} (h : IsSp ms P V s true) {A0 : Int → Int} (hA : Poss l ms A0) (hb : ∀ x ∈ l, s.k x.p = true → x.lo ≤ s.v x.p ∧ s.v x.p ≤ x.hi) : ∃ A, Poss l ms A ∧ A P = V ∧ ∀ q, s.k q = true → A q = s.v q := by
  obtain ⟨⟨h1, h2, h3⟩, h4, h5⟩ := h.2 rfl
  refine ⟨fun q => if s.k q = true then s.v q else A0 q, ⟨fun x hx => ?_, fun m hm => ?_⟩, ?_, fun q hq => ?_⟩
  · dsimp only; split
    · next hq => exact hb x hx hq
    · exact hA.1 x hx
  · have hc := h4 m hm
    dsimp only
    cases ha : s.k m.a
    · rw [ha] at hc; rw [if_neg (by simp), ← hc, if_neg (by simp)]; exact hA.2 m hm
    · rw [ha] at hc; rw [if_pos rfl, ← hc, if_pos rfl]; exact h5 m hm ha
  · dsimp only; rw [if_pos h1]; exact h2
  · dsimp only; rw [if_pos hq]
/-- With an advance that is possible, spreading agrees with whatever is possible. -/
theorem IsSp.agree {ms : List Mt} {P V : Int} {s : Kn} {ok : Bool} (h : IsSp ms P V s ok) {A : Int → Int} (hA : Mtg ms A) (hP : A P = V) : ok = true ∧ ∀ q, s.k q = true → s.v q = A q := by
  cases ok
  · exact absurd (h.1 rfl A hA hP) (fun h => h)
  · exact ⟨rfl, (h.2 rfl).1.2.2 A hA hP⟩
end Go.Proofs.Ytbcgfohacbapoaa
