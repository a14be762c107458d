
/- Skews, meetings, what is possible; the narrowed bounds are the tight ones; orders that are certain. No conditions. -/
import Derived.Test.YtbcgfohacbapoaaCm6
namespace Go.Proofs.Ytbcgfohacbapoaa

/-- A skew. -/
structure Sk where
  p : Int
  lo : Int
  hi : Int
deriving DecidableEq
/-- A meeting. -/
structure Mt where
  a : Int
  ta : Int
  b : Int
  tb : Int
deriving DecidableEq
/-- A stamp. -/
structure Sm where
  t : Int
  p : Int
  n : Int
deriving DecidableEq
/-- Advances that are possible. -/
def Poss (l : List Sk) (ms : List Mt) (A : Int → Int) : Prop := (∀ s ∈ l, s.lo ≤ A s.p ∧ A s.p ≤ s.hi) ∧ ∀ m ∈ ms, A m.a - A m.b = m.ta - m.tb
/-- Both directions of a meeting. -/
def sd2 (m : Mt) : List Ed := [⟨m.a, m.b, m.ta - m.tb⟩, ⟨m.b, m.a, -(m.ta - m.tb)⟩]
def sdL (ms : List Mt) : List Ed := ms.flatMap sd2
theorem sdL_mem {ms : List Mt} {e : Ed} : e ∈ sdL ms ↔ ∃ m ∈ ms, e = ⟨m.a, m.b, m.ta - m.tb⟩ ∨ e = ⟨m.b, m.a, -(m.ta - m.tb)⟩ := by
  simp [sdL, sd2]
theorem sdL_sym {ms : List Mt} : ∀ e ∈ sdL ms, (⟨e.r, e.o, -e.a⟩ : Ed) ∈ sdL ms := fun e he => by
  rw [sdL_mem] at he ⊢
  obtain ⟨m, hm, rfl | rfl⟩ := he
  · exact ⟨m, hm, Or.inr rfl⟩
  · exact ⟨m, hm, Or.inl (by simp)⟩
theorem sdL_all {ms : List Mt} {A : Int → Int} : (∀ e ∈ sdL ms, A e.o - A e.r = e.a) ↔ ∀ m ∈ ms, A m.a - A m.b = m.ta - m.tb := by
  constructor
  · intro h m hm
    exact h _ (sdL_mem.2 ⟨m, hm, Or.inl rfl⟩)
  · intro h e he
    obtain ⟨m, hm, rfl | rfl⟩ := sdL_mem.1 he
    · exact h m hm
    · have := h m hm; dsimp only; omega
/-- Bounds of all persons, narrowed along one direction. -/
def stp (F : Int → Sk) (e : Ed) : Int → Sk := fun q => if q = e.o then ⟨(F e.o).p, max (F e.o).lo ((F e.r).lo + e.a), min (F e.o).hi ((F e.r).hi + e.a)⟩ else F q
def psF (E : List Ed) (F : Int → Sk) : Int → Sk := E.foldl stp F
def itF (E : List Ed) : Nat → (Int → Sk) → (Int → Sk)
  | 0, F => F
  | k + 1, F => psF E (itF E k F)
def lof (F : Int → Sk) : Int → Int := fun q => (F q).lo
def nhi (F : Int → Sk) : Int → Int := fun q => -(F q).hi
def neE (E : List Ed) : List Ed := E.map fun e => ⟨e.o, e.r, -e.a⟩
theorem neE_mem {E : List Ed} {e : Ed} (h : e ∈ neE E) : ∃ x ∈ E, e = ⟨x.o, x.r, -x.a⟩ := by
  obtain ⟨x, hx, rfl⟩ := List.mem_map.1 h; exact ⟨x, hx, rfl⟩
theorem stp_lo (F : Int → Sk) (e : Ed) : lof (stp F e) = los (lof F) e := by
  funext q; unfold lof stp los; dsimp only; split <;> rfl
theorem stp_hi (F : Int → Sk) (e : Ed) : nhi (stp F e) = los (nhi F) ⟨e.o, e.r, -e.a⟩ := by
  funext q; unfold nhi stp los; dsimp only; split
  · dsimp only; omega
  · rfl
theorem stp_p (F : Int → Sk) (e : Ed) (q : Int) : (stp F e q).p = (F q).p := by
  unfold stp; split
  · next h => rw [h]
  · rfl
theorem psF_lo : ∀ (E : List Ed) (F : Int → Sk), lof (psF E F) = lop E (lof F)
  | [], _ => rfl
  | e :: r, F => by
    show lof (psF r (stp F e)) = lop r (los (lof F) e)
    rw [psF_lo r, stp_lo]
theorem psF_hi : ∀ (E : List Ed) (F : Int → Sk), nhi (psF E F) = lop (neE E) (nhi F)
  | [], _ => rfl
  | e :: r, F => by
    show nhi (psF r (stp F e)) = lop (neE r) (los (nhi F) ⟨e.o, e.r, -e.a⟩)
    rw [psF_hi r, stp_hi]
theorem psF_p : ∀ (E : List Ed) (F : Int → Sk) (q : Int), (psF E F q).p = (F q).p
  | [], _, _ => rfl
  | e :: r, F, q => by
    show (psF r (stp F e) q).p = _
    rw [psF_p r, stp_p]
theorem itF_lo (E : List Ed) (F : Int → Sk) : ∀ k, lof (itF E k F) = itr E k (lof F)
  | 0 => rfl
  | k + 1 => by simp only [itF, itr, psF_lo, itF_lo E F k]
theorem itF_hi (E : List Ed) (F : Int → Sk) : ∀ k, nhi (itF E k F) = itr (neE E) k (nhi F)
  | 0 => rfl
  | k + 1 => by simp only [itF, itr, psF_hi, itF_hi E F k]
theorem itF_p (E : List Ed) (F : Int → Sk) : ∀ k q, (itF E k F q).p = (F q).p
  | 0, _ => rfl
  | k + 1, q => by simp only [itF, psF_p, itF_p E F k q]
theorem stp_off {F : Int → Sk} {e : Ed} {q : Int} (h : q ≠ e.o) : stp F e q = F q := by unfold stp; rw [if_neg h]
theorem psF_off {q : Int} : ∀ (E : List Ed) (F : Int → Sk), (∀ e ∈ E, q ≠ e.o) → psF E F q = F q
  | [], _, _ => rfl
  | e :: r, F, h => by
    show psF r (stp F e) q = F q
    rw [psF_off r _ (fun x hx => h x (by simp [hx])), stp_off (h e (by simp))]
theorem itF_off {q : Int} (E : List Ed) (F : Int → Sk) (h : ∀ e ∈ E, q ≠ e.o) : ∀ k, itF E k F q = F q
  | 0 => rfl
  | k + 1 => by simp only [itF]; rw [psF_off E _ h, itF_off E F h k]
/-- Advances within bounds that persons have. -/
def PossF (Ps : List Int) (E : List Ed) (F : Int → Sk) (A : Int → Int) : Prop := (∀ p ∈ Ps, (F p).lo ≤ A p ∧ A p ≤ (F p).hi) ∧ ∀ e ∈ E, A e.o - A e.r = e.a
/-- What narrowing leaves: passed on as often as there are persons, or until nothing changes. -/
def Nar (Ps : List Int) (E : List Ed) (F0 F : Int → Sk) : Prop := ∃ k, F = itF E k F0 ∧ (Ps.length ≤ k ∨ ∀ e ∈ E, stp F e = F)
section
variable {Ps : List Int} {E : List Ed} {F0 F : Int → Sk}
theorem PossF.lower {A : Int → Int} (h : PossF Ps E F0 A) : FsL Ps E (lof F0) A := ⟨fun p hp => (h.1 p hp).1, h.2⟩
theorem PossF.upper {A : Int → Int} (h : PossF Ps E F0 A) : FsL Ps (neE E) (nhi F0) (fun q => -A q) := by
  refine ⟨fun p hp => ?_, fun e he => ?_⟩
  · have := (h.1 p hp).2; unfold nhi; dsimp only; omega
  · obtain ⟨x, hx, rfl⟩ := neE_mem he
    have := h.2 x hx; dsimp only; omega
theorem nar_yes (hn : Nar Ps E F0 F) (hin : ∀ e ∈ E, e.o ∈ Ps ∧ e.r ∈ Ps) (hsym : ∀ e ∈ E, (⟨e.r, e.o, -e.a⟩ : Ed) ∈ E) {A0 : Int → Int} (hA : PossF Ps E F0 A0) :
    PossF Ps E F0 (fun q => (F q).lo) ∧ PossF Ps E F0 (fun q => (F q).hi) ∧ ∀ A, PossF Ps E F0 A → ∀ p ∈ Ps, (F p).lo ≤ A p ∧ A p ≤ (F p).hi := by
  obtain ⟨k, rfl, hk⟩ := hn
  have hin2 : ∀ e ∈ neE E, e.o ∈ Ps ∧ e.r ∈ Ps := fun e he => by obtain ⟨x, hx, rfl⟩ := neE_mem he; exact hin x hx
  have hsym2 : ∀ e ∈ neE E, (⟨e.r, e.o, -e.a⟩ : Ed) ∈ neE E := fun e he => by
    obtain ⟨x, hx, rfl⟩ := neE_mem he
    exact List.mem_map.2 ⟨_, hsym x hx, rfl⟩
  have hlo : ∀ q, (itF E k F0 q).lo = itr E k (lof F0) q := fun q => congrFun (itF_lo E F0 k) q
  have hhi : ∀ q, -(itF E k F0 q).hi = itr (neE E) k (nhi F0) q := fun q => congrFun (itF_hi E F0 k) q
  have hle : ∀ A, PossF Ps E F0 A → ∀ p ∈ Ps, (itF E k F0 p).lo ≤ A p ∧ A p ≤ (itF E k F0 p).hi := fun A h p hp => by
    have h1 := (itr_le hin _ h.lower k).1 p hp; have h2 := (itr_le hin2 _ h.upper k).1 p hp
    have h3 := hlo p; have h4 := hhi p
    dsimp only at h2; omega
  have hE1 : ∀ e ∈ E, (itF E k F0 e.o).lo - (itF E k F0 e.r).lo = e.a := by
    rcases hk with hk | hk
    · intro e he; rw [hlo, hlo]; exact itr_tight hin hsym hA.lower hk e he
    · exact fix_tight (f := lof (itF E k F0)) hsym (fun e he => by rw [← stp_lo, hk e he])
  have hE2 : ∀ e ∈ E, (itF E k F0 e.o).hi - (itF E k F0 e.r).hi = e.a := by
    have key : ∀ e ∈ neE E, nhi (itF E k F0) e.o - nhi (itF E k F0) e.r = e.a := by
      rcases hk with hk | hk
      · intro e he; rw [itF_hi]; exact itr_tight hin2 hsym2 hA.upper hk e he
      · refine fix_tight hsym2 (fun e he => ?_)
        obtain ⟨x, hx, rfl⟩ := neE_mem he
        rw [← stp_hi, hk x hx]
    intro e he
    have := key ⟨e.o, e.r, -e.a⟩ (List.mem_map.2 ⟨e, he, rfl⟩)
    unfold nhi at this; dsimp only at this; omega
  refine ⟨⟨fun p hp => ?_, hE1⟩, ⟨fun p hp => ?_, hE2⟩, hle⟩
  · have h1 : (F0 p).lo ≤ itr E k (lof F0) p := itr_ge E (lof F0) k p
    have h2 := hlo p; have h3 := hle _ hA p hp; have h4 := hA.1 p hp
    dsimp only; omega
  · have h1 : -(F0 p).hi ≤ itr (neE E) k (nhi F0) p := itr_ge (neE E) (nhi F0) k p
    have h2 := hhi p; have h3 := hle _ hA p hp; have h4 := hA.1 p hp
    dsimp only; omega
/-- The least bounds are possible, as the last look sees it. -/
def Lst (E : List Ed) (F : Int → Sk) : Prop := ∀ e ∈ E, (F e.o).lo ≤ (F e.o).hi ∧ (F e.o).lo - (F e.r).lo = e.a
theorem nar_lst (hn : Nar Ps E F0 F) (hin : ∀ e ∈ E, e.o ∈ Ps ∧ e.r ∈ Ps) (hsym : ∀ e ∈ E, (⟨e.r, e.o, -e.a⟩ : Ed) ∈ E) (h0 : ∀ p ∈ Ps, (F0 p).lo ≤ (F0 p).hi) : Lst E F ↔ ∃ A, PossF Ps E F0 A := by
  constructor
  · intro h
    obtain ⟨k, rfl, hk⟩ := hn
    refine ⟨fun q => (itF E k F0 q).lo, fun p hp => ?_, fun e he => (h e he).2⟩
    have h1 : (F0 p).lo ≤ itr E k (lof F0) p := itr_ge E (lof F0) k p
    have h2 : (itF E k F0 p).lo = itr E k (lof F0) p := congrFun (itF_lo E F0 k) p
    have h3 : -(F0 p).hi ≤ itr (neE E) k (nhi F0) p := itr_ge (neE E) (nhi F0) k p
    have h4 : -(itF E k F0 p).hi = itr (neE E) k (nhi F0) p := congrFun (itF_hi E F0 k) p
    dsimp only
    by_cases hx : ∃ e ∈ E, e.o = p
    · obtain ⟨e, he, rfl⟩ := hx
      have := (h e he).1; omega
    · have hoff := itF_off (q := p) E F0 (fun e he hq => hx ⟨e, he, hq.symm⟩) k
      rw [hoff]; have := h0 p hp; omega
  · rintro ⟨A, hA⟩ e he
    obtain ⟨h1, h2, h3⟩ := nar_yes hn hin hsym hA
    have h4 := h3 _ hA e.o (hin e he).1
    exact ⟨by omega, h1.2 e he⟩
end
/-- The skew of a person. -/
def fnd (l : List Sk) (q : Int) : Option Sk := l.find? fun s => s.p == q
def z0 : Sk := ⟨0, 0, 0⟩
def byP (l : List Sk) : Int → Sk := fun q => (fnd l q).getD z0
/-- Persons are there once. -/
def Apart (l : List Sk) : Prop := l.Pairwise fun s t => s.p ≠ t.p
theorem fnd_some {l : List Sk} {q : Int} {s : Sk} (h : fnd l q = some s) : s ∈ l ∧ s.p = q := by
  unfold fnd at h
  exact ⟨List.mem_of_find?_eq_some h, by have := List.find?_some h; simpa using this⟩
theorem fnd_mem : ∀ {l : List Sk}, Apart l → ∀ s ∈ l, fnd l s.p = some s
  | [], _, s, h => by simp at h
  | x :: r, hp, s, h => by
    unfold Apart at hp
    rw [List.pairwise_cons] at hp
    unfold fnd
    simp only [List.mem_cons] at h
    rcases h with rfl | h
    · simp
    · have hne := hp.1 s h
      rw [List.find?_cons_of_neg (by simpa using hne)]
      exact fnd_mem hp.2 s h
theorem fnd_isSome {l : List Sk} {q : Int} : (fnd l q).isSome ↔ q ∈ l.map (·.p) := by
  unfold fnd; rw [List.find?_isSome]; simp
theorem byP_mem {l : List Sk} (hp : Apart l) {s : Sk} (h : s ∈ l) : byP l s.p = s := by unfold byP; rw [fnd_mem hp s h]; rfl
theorem poss_iff {l : List Sk} (hp : Apart l) {ms : List Mt} {A : Int → Int} : PossF (l.map (·.p)) (sdL ms) (byP l) A ↔ Poss l ms A := by
  unfold PossF Poss
  rw [sdL_all]
  refine and_congr_left fun _ => ?_
  constructor
  · intro h s hs
    have := h s.p (List.mem_map.2 ⟨s, hs, rfl⟩)
    rwa [byP_mem hp hs] at this
  · intro h p hpm
    obtain ⟨s, hs, rfl⟩ := List.mem_map.1 hpm
    rw [byP_mem hp hs]; exact h s hs
/-- Persons of meetings have a skew. -/
def Met (l : List Sk) (ms : List Mt) : Prop := ∀ m ∈ ms, m.a ∈ l.map (·.p) ∧ m.b ∈ l.map (·.p)
theorem Met.ends {l : List Sk} {ms : List Mt} (h : Met l ms) : ∀ e ∈ sdL ms, e.o ∈ l.map (·.p) ∧ e.r ∈ l.map (·.p) := fun e he => by
  obtain ⟨m, hm, rfl | rfl⟩ := sdL_mem.1 he
  · exact h m hm
  · exact ⟨(h m hm).2, (h m hm).1⟩
/-- The skews that are known. -/
def IsTt (l : List Sk) (ms : List Mt) (out : List Sk) : Prop :=
  out.map (·.p) = l.map (·.p) ∧ (∃ L, Poss l ms L ∧ ∀ s ∈ out, L s.p = s.lo) ∧ (∃ H, Poss l ms H ∧ ∀ s ∈ out, H s.p = s.hi) ∧ ∀ A, Poss l ms A → ∀ s ∈ out, s.lo ≤ A s.p ∧ A s.p ≤ s.hi
theorem IsTt.unique {l : List Sk} {ms : List Mt} {o1 o2 : List Sk} (h1 : IsTt l ms o1) (h2 : IsTt l ms o2) : o1 = o2 := by
  obtain ⟨p1, ⟨L1, hL1, eL1⟩, ⟨H1, hH1, eH1⟩, b1⟩ := h1
  obtain ⟨p2, ⟨L2, hL2, eL2⟩, ⟨H2, hH2, eH2⟩, b2⟩ := h2
  have hp : o1.map (·.p) = o2.map (·.p) := p1.trans p2.symm
  have hlen : o1.length = o2.length := by simpa using congrArg List.length hp
  refine List.ext_getElem hlen fun i hi1 hi2 => ?_
  have hpi : o1[i].p = o2[i].p := by
    have := congrArg (fun l => l[i]?) hp
    simpa [hi1, hi2] using this
  have m1 := List.getElem_mem hi1; have m2 := List.getElem_mem hi2
  have a1 := b1 _ hL2 _ m1; have a2 := b2 _ hL1 _ m2; have a3 := b1 _ hH2 _ m1; have a4 := b2 _ hH1 _ m2
  have c1 := eL1 _ m1; have c2 := eL2 _ m2; have c3 := eH1 _ m1; have c4 := eH2 _ m2
  rw [hpi] at a1 a3 c1 c3
  generalize o1[i] = s1 at *
  generalize o2[i] = s2 at *
  cases s1; cases s2
  simp only [Sk.mk.injEq] at *
  omega
theorem IsTt.apart {l : List Sk} {ms : List Mt} {out : List Sk} (h : IsTt l ms out) (hp : Apart l) : Apart out := by
  have h1 : (l.map (·.p)).Pairwise (· ≠ ·) := List.pairwise_map.2 hp
  rw [← h.1] at h1
  exact List.pairwise_map.1 h1
theorem IsTt.within {l : List Sk} {ms : List Mt} {out : List Sk} (h : IsTt l ms out) {A : Int → Int} : Poss out ms A ↔ Poss l ms A := by
  constructor
  · rintro ⟨h1, h2⟩
    refine ⟨fun s hs => ?_, h2⟩
    obtain ⟨L, hL, eL⟩ := h.2.1
    obtain ⟨H, hH, eH⟩ := h.2.2.1
    have hm : s.p ∈ out.map (·.p) := by rw [h.1]; exact List.mem_map.2 ⟨s, hs, rfl⟩
    obtain ⟨t, ht, hst⟩ := List.mem_map.1 hm
    have a1 := hL.1 s hs; have a2 := hH.1 s hs; have a3 := h1 t ht; have a4 := eL t ht; have a5 := eH t ht
    rw [hst] at a3 a4 a5
    omega
  · intro h1
    exact ⟨fun s hs => h.2.2.2 A h1 s hs, h1.2⟩
/-- What narrowing leaves of skews, as a list, are the known ones. -/
theorem nar_tight {l : List Sk} {ms : List Mt} (hp : Apart l) (hm : Met l ms) {F : Int → Sk} (hn : Nar (l.map (·.p)) (sdL ms) (byP l) F) {A0 : Int → Int} (hA : Poss l ms A0) : IsTt l ms (l.map fun s => F s.p) := by
  obtain ⟨h1, h2, h3⟩ := nar_yes hn hm.ends sdL_sym ((poss_iff hp).2 hA)
  have hpp : ∀ s ∈ l, (F s.p).p = s.p := fun s hs => by
    obtain ⟨k, rfl, _⟩ := hn
    rw [itF_p, byP_mem hp hs]
  refine ⟨?_, ⟨_, (poss_iff hp).1 h1, fun s hs => ?_⟩, ⟨_, (poss_iff hp).1 h2, fun s hs => ?_⟩, fun A h s hs => ?_⟩
  · rw [List.map_map]; exact List.map_congr_left fun s hs => hpp s hs
  · obtain ⟨t, ht, rfl⟩ := List.mem_map.1 hs
    rw [hpp t ht]
  · obtain ⟨t, ht, rfl⟩ := List.mem_map.1 hs
    rw [hpp t ht]
  · obtain ⟨t, ht, rfl⟩ := List.mem_map.1 hs
    rw [hpp t ht]
    exact h3 A ((poss_iff hp).2 h) t.p (List.mem_map.2 ⟨t, ht, rfl⟩)
/-- a was made earlier than b, for all that is possible. -/
def Earl (l : List Sk) (ms : List Mt) (a b : Sm) : Prop := ∀ A, Poss l ms A → a.t - A a.p < b.t - A b.p
/-- Bounds with those of one person taken at the least. -/
def late (F : Int → Sk) (q : Int) : Int → Sk := fun p => if p = q then ⟨(F q).p, (F q).lo, (F q).lo⟩ else F p
theorem Poss.max {l : List Sk} {ms : List Mt} {L A : Int → Int} (hL : Poss l ms L) (hA : Poss l ms A) {c : Int} (hc : 0 ≤ c) : Poss l ms (fun q => max (L q) (A q - c)) := by
  refine ⟨fun s hs => ?_, fun m hm => ?_⟩
  · have h1 := hL.1 s hs; have h2 := hA.1 s hs; dsimp only; omega
  · have h1 := hL.2 m hm; have h2 := hA.2 m hm; dsimp only; omega
theorem Poss.min {l : List Sk} {ms : List Mt} {L H : Int → Int} (hL : Poss l ms L) (hH : Poss l ms H) {c : Int} (hc : 0 ≤ c) (hle : ∀ s ∈ l, L s.p ≤ H s.p) : Poss l ms (fun q => min (H q) (L q + c)) := by
  refine ⟨fun s hs => ?_, fun m hm => ?_⟩
  · have h1 := hL.1 s hs; have h2 := hH.1 s hs; have h3 := hle s hs; dsimp only; omega
  · have h1 := hL.2 m hm; have h2 := hH.2 m hm; dsimp only; omega
theorem earl_iff {l : List Sk} {ms : List Mt} (hp : Apart l) (hm : Met l ms) {out : List Sk} (ht : IsTt l ms out) {a b : Sm} (ha : a.p ∈ l.map (·.p)) (hb : b.p ∈ l.map (·.p)) {F : Int → Sk}
    (hn : Nar (l.map (·.p)) (sdL ms) (late (byP out) a.p) F) : a.t - (byP out a.p).lo < b.t - (F b.p).hi ↔ Earl l ms a b := by
  have hap := ht.apart hp
  obtain ⟨L, hL, eL⟩ := ht.2.1
  have hma : a.p ∈ out.map (·.p) := by rw [ht.1]; exact ha
  obtain ⟨sa, hsa, esa⟩ := List.mem_map.1 hma
  have eby : byP out a.p = sa := by rw [← esa]; exact byP_mem hap hsa
  have hLa : L a.p = sa.lo := by rw [← esa]; exact eL sa hsa
  have hiff : ∀ A, PossF (l.map (·.p)) (sdL ms) (late (byP out) a.p) A ↔ Poss l ms A ∧ A a.p = sa.lo := fun A => by
    rw [← ht.within, ← poss_iff hap, ht.1]
    constructor
    · rintro ⟨h1, h2⟩
      have h3 := h1 a.p ha
      unfold late at h3; rw [if_pos rfl, eby] at h3
      refine ⟨⟨fun p hp => ?_, h2⟩, by dsimp only at h3; omega⟩
      have h4 := h1 p hp
      unfold late at h4
      by_cases hq : p = a.p
      · subst hq
        have h5 := ht.2.2.2 L hL sa hsa
        rw [eby]; dsimp only at h3; rw [esa] at h5
        obtain ⟨H, hH, eH⟩ := ht.2.2.1
        omega
      · rwa [if_neg hq] at h4
    · rintro ⟨⟨h1, h2⟩, h3⟩
      refine ⟨fun p hp => ?_, h2⟩
      unfold late
      by_cases hq : p = a.p
      · subst hq; rw [if_pos rfl, eby]; dsimp only; omega
      · rw [if_neg hq]; exact h1 p hp
  obtain ⟨_, hH, hgr⟩ := nar_yes hn hm.ends sdL_sym ((hiff L).2 ⟨hL, hLa⟩)
  have hH2 := (hiff _).1 hH
  rw [eby]
  constructor
  · intro hlt A hA
    have hge : sa.lo ≤ A a.p := by rw [← esa]; exact (ht.2.2.2 A hA sa hsa).1
    have hP := Poss.max hL hA (c := A a.p - sa.lo) (by omega)
    have h4 := (hgr _ ((hiff _).2 ⟨hP, by omega⟩) b.p hb).2
    omega
  · intro h
    have := h _ hH2.1
    have h5 := hH2.2
    omega
end Go.Proofs.Ytbcgfohacbapoaa
