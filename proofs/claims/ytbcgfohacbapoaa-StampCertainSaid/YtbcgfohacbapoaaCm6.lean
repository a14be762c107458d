
/- The mathematics of wrong clocks: bounds that are passed on along meetings. No conditions. -/
import Derived.Test.YtbcgfohacbapoaaMem
namespace Go.Proofs.Ytbcgfohacbapoaa

/-- One direction of a meeting: o's clock is ahead of r's by a. -/
structure Ed where
  o : Int
  r : Int
  a : Int
deriving DecidableEq
/-- Least bounds, passed on along one direction. -/
def los (f : Int → Int) (e : Ed) : Int → Int := fun q => if q = e.o then max (f e.o) (f e.r + e.a) else f q
def lop (E : List Ed) (f : Int → Int) : Int → Int := E.foldl los f
def itr (E : List Ed) : Nat → (Int → Int) → (Int → Int)
  | 0, f => f
  | k + 1, f => lop E (itr E k f)
/-- What is possible, as to lower bounds. -/
def FsL (Ps : List Int) (E : List Ed) (f A : Int → Int) : Prop := (∀ p ∈ Ps, f p ≤ A p) ∧ ∀ e ∈ E, A e.o - A e.r = e.a
theorem los_ge (f : Int → Int) (e : Ed) (q : Int) : f q ≤ los f e q := by
  unfold los; split
  · next h => subst h; omega
  · omega
theorem lop_ge : ∀ (E : List Ed) (f : Int → Int) (q : Int), f q ≤ lop E f q
  | [], _, _ => Int.le_refl _
  | e :: r, f, q => Int.le_trans (los_ge f e q) (lop_ge r (los f e) q)
theorem los_le {f A : Int → Int} {Ps : List Int} {E : List Ed} (h : FsL Ps E f A) {e : Ed} (he : e ∈ E) (hin : e.o ∈ Ps ∧ e.r ∈ Ps) : FsL Ps E (los f e) A := by
  refine ⟨fun p hp => ?_, h.2⟩
  unfold los; split
  · next hq =>
    subst hq
    have h1 := h.1 _ hin.1; have h2 := h.1 _ hin.2; have h3 := h.2 e he
    omega
  · exact h.1 p hp
theorem lop_le {A : Int → Int} {Ps : List Int} {E : List Ed} (hin : ∀ e ∈ E, e.o ∈ Ps ∧ e.r ∈ Ps) : ∀ (E' : List Ed) (f : Int → Int), (∀ e ∈ E', e ∈ E) → FsL Ps E f A → FsL Ps E (lop E' f) A
  | [], _, _, h => h
  | e :: r, f, hs, h => lop_le hin r (los f e) (fun x hx => hs x (by simp [hx])) (los_le h (hs e (by simp)) (hin e (hs e (by simp))))
theorem itr_le {A : Int → Int} {Ps : List Int} {E : List Ed} (hin : ∀ e ∈ E, e.o ∈ Ps ∧ e.r ∈ Ps) (f : Int → Int) (h : FsL Ps E f A) : ∀ k, FsL Ps E (itr E k f) A
  | 0 => h
  | k + 1 => lop_le hin E _ (fun _ he => he) (itr_le hin f h k)
theorem itr_ge (E : List Ed) (f : Int → Int) : ∀ k q, f q ≤ itr E k f q
  | 0, _ => Int.le_refl _
  | k + 1, q => Int.le_trans (itr_ge E f k q) (lop_ge E _ q)
/-- How much higher than the bounds. -/
def dst (f A : Int → Int) (Ps : List Int) : Nat := (Ps.map fun p => (A p - f p).toNat).sum
theorem sum_le_of {α : Type} (u v : α → Nat) : ∀ l : List α, (∀ x ∈ l, u x ≤ v x) → (l.map u).sum ≤ (l.map v).sum
  | [], _ => Nat.le_refl _
  | x :: r, h => by
    have h1 := h x (by simp); have h2 := sum_le_of u v r (fun y hy => h y (by simp [hy]))
    simp only [List.map_cons, List.sum_cons]; omega
theorem sum_lt_of {α : Type} (u v : α → Nat) : ∀ l : List α, (∀ x ∈ l, u x ≤ v x) → (∃ x ∈ l, u x < v x) → (l.map u).sum < (l.map v).sum
  | [], _, h => by obtain ⟨x, hx, _⟩ := h; simp at hx
  | x :: r, h, h2 => by
    have h1 := h x (by simp); have h3 := sum_le_of u v r (fun y hy => h y (by simp [hy]))
    simp only [List.map_cons, List.sum_cons]
    obtain ⟨y, hy, hlt⟩ := h2
    simp only [List.mem_cons] at hy
    rcases hy with rfl | hy
    · omega
    · have h4 := sum_lt_of u v r (fun y hy => h y (by simp [hy])) ⟨y, hy, hlt⟩; omega
theorem least_exists {Ps : List Int} {E : List Ed} {f : Int → Int} : ∀ (n : Nat) (A : Int → Int), FsL Ps E f A → dst f A Ps ≤ n → ∃ L, FsL Ps E f L ∧ ∀ A, FsL Ps E f A → dst f L Ps ≤ dst f A Ps
  | 0, A, h, hd => ⟨A, h, fun _ _ => by omega⟩
  | n + 1, A, h, hd => by
    by_cases hx : ∃ A', FsL Ps E f A' ∧ dst f A' Ps ≤ n
    · obtain ⟨A', h', hd'⟩ := hx
      exact least_exists n A' h' hd'
    · refine ⟨A, h, fun A' h' => ?_⟩
      have : ¬ dst f A' Ps ≤ n := fun hc => hx ⟨A', h', hc⟩
      omega
/-- How many have come to the least. -/
def cnt (L f : Int → Int) (Ps : List Int) : Nat := (Ps.map fun p => if f p = L p then 1 else 0).sum
theorem cnt_le (L f : Int → Int) : ∀ Ps : List Int, cnt L f Ps ≤ Ps.length
  | [] => Nat.le_refl _
  | p :: r => by
    have := cnt_le L f r
    unfold cnt at this ⊢
    simp only [List.map_cons, List.sum_cons, List.length_cons]
    split <;> omega
theorem cnt_all (L f : Int → Int) : ∀ Ps : List Int, cnt L f Ps = Ps.length → ∀ p ∈ Ps, f p = L p
  | [], _, _, h => by simp at h
  | q :: r, h, p, hp => by
    have := cnt_le L f r
    unfold cnt at this h
    simp only [List.map_cons, List.sum_cons, List.length_cons] at h
    have hq : f q = L q := by
      by_cases hq : f q = L q
      · exact hq
      · rw [if_neg hq] at h; omega
    rw [if_pos hq] at h
    simp only [List.mem_cons] at hp
    rcases hp with rfl | hp
    · exact hq
    · exact cnt_all L f r (by unfold cnt; omega) p hp
theorem lop_edge {A : Int → Int} {Ps : List Int} {E : List Ed} (hin : ∀ e ∈ E, e.o ∈ Ps ∧ e.r ∈ Ps) {e : Ed} : ∀ (E' : List Ed) (f : Int → Int), (∀ x ∈ E', x ∈ E) → FsL Ps E f A → e ∈ E' → f e.r = A e.r → lop E' f e.o = A e.o
  | [], _, _, _, h, _ => by simp at h
  | x :: r, f, hs, hf, he, hr => by
    have hx := hs x (by simp)
    have hf' := los_le hf hx (hin x hx)
    have hr' : los f x e.r = A e.r := by
      have h1 := los_ge f x e.r
      by_cases hq : e.r ∈ Ps
      · have h2 := hf'.1 _ hq; omega
      · exfalso
        exact hq (hin e (hs e he)).2
    simp only [List.mem_cons] at he
    by_cases hc : e ∈ r
    · exact lop_edge hin r (los f x) (fun y hy => hs y (by simp [hy])) hf' hc hr'
    · have hex : e = x := by rcases he with h | h; exact h; exact absurd h hc
      subst hex
      have h1 : A e.o ≤ los f e e.o := by
        have h3 := hf.2 e hx
        unfold los; rw [if_pos rfl]; omega
      have h2 := lop_ge r (los f e) e.o
      have h3 := (lop_le hin r (los f e) (fun y hy => hs y (by simp [hy])) hf').1 _ (hin e hx).1
      show lop r (los f e) e.o = A e.o
      omega
theorem cnt_up {L f : Int → Int} {Ps : List Int} {E : List Ed} (hin : ∀ e ∈ E, e.o ∈ Ps ∧ e.r ∈ Ps) (hsym : ∀ e ∈ E, (⟨e.r, e.o, -e.a⟩ : Ed) ∈ E) {f0 : Int → Int} (h0 : ∀ p ∈ Ps, f0 p ≤ f p)
    (hL : FsL Ps E f0 L) (hm : ∀ A, FsL Ps E f0 A → dst f0 L Ps ≤ dst f0 A Ps) (hf : FsL Ps E f L) (hne : ¬ ∀ p ∈ Ps, f p = L p) : cnt L f Ps < cnt L (lop E f) Ps := by
  have hex : ∃ e ∈ E, f e.r = L e.r ∧ f e.o ≠ L e.o := by
    refine Classical.byContradiction fun hno => ?_
    have hno' : ∀ e ∈ E, f e.r = L e.r → f e.o = L e.o := fun e he h => Classical.byContradiction fun hc => hno ⟨e, he, h, hc⟩
    have hF : FsL Ps E f0 (fun p => if f p = L p then L p else L p - 1) := by
      refine ⟨fun p hp => ?_, fun e he => ?_⟩
      · have h1 := hL.1 p hp; have h2 := h0 p hp; have h3 := hf.1 p hp
        dsimp only; split <;> omega
      · have h1 := hL.2 e he
        have h2 := hno' e he
        have h3 := hno' _ (hsym e he)
        dsimp only at h3 ⊢
        by_cases hr : f e.r = L e.r
        · rw [if_pos (h2 hr), if_pos hr]; exact h1
        · rw [if_neg (fun hc => hr (h3 hc)), if_neg hr]; omega
    have h1 := hm _ hF
    have h2 : dst f0 (fun p => if f p = L p then L p else L p - 1) Ps < dst f0 L Ps := by
      refine sum_lt_of _ _ Ps (fun p hp => ?_) ?_
      · dsimp only; split <;> omega
      · obtain ⟨p, hp⟩ := Classical.not_forall.1 hne
        obtain ⟨hp, hq⟩ := Classical.not_imp.1 hp
        refine ⟨p, hp, ?_⟩
        have h1 := hL.1 p hp; have h2 := h0 p hp; have h3 := hf.1 p hp
        dsimp only; rw [if_neg hq]; omega
    omega
  obtain ⟨e, he, hr, ho⟩ := hex
  have hle := lop_le hin E f (fun _ h => h) hf
  refine sum_lt_of _ _ Ps (fun p hp => ?_) ⟨e.o, (hin e he).1, ?_⟩
  · have h1 := lop_ge E f p; have h2 := hle.1 p hp
    by_cases hq : f p = L p
    · rw [if_pos hq, if_pos (by omega)]; omega
    · rw [if_neg hq]; omega
  · rw [if_neg ho, if_pos (lop_edge hin E f (fun _ h => h) hf he hr)]; omega
theorem itr_cnt {L : Int → Int} {Ps : List Int} {E : List Ed} (hin : ∀ e ∈ E, e.o ∈ Ps ∧ e.r ∈ Ps) (hsym : ∀ e ∈ E, (⟨e.r, e.o, -e.a⟩ : Ed) ∈ E) {f0 : Int → Int}
    (hL : FsL Ps E f0 L) (hm : ∀ A, FsL Ps E f0 A → dst f0 L Ps ≤ dst f0 A Ps) : ∀ k, (∀ p ∈ Ps, itr E k f0 p = L p) ∨ k ≤ cnt L (itr E k f0) Ps
  | 0 => Or.inr (Nat.zero_le _)
  | k + 1 => by
    have hk := itr_le hin f0 hL k
    by_cases hall : ∀ p ∈ Ps, itr E k f0 p = L p
    · refine Or.inl fun p hp => ?_
      have h1 := lop_ge E (itr E k f0) p; have h2 := (itr_le hin f0 hL (k + 1)).1 p hp; have h3 := hall p hp
      simp only [itr] at h2 ⊢; omega
    · have h1 := cnt_up hin hsym (fun p _ => itr_ge E f0 k p) hL hm hk hall
      rcases itr_cnt hin hsym hL hm k with h | h
      · exact absurd h hall
      · refine Or.inr ?_
        simp only [itr]; omega
/-- Passed on as often as there are persons, the least bounds are possible, if any are. -/
theorem itr_tight {A : Int → Int} {Ps : List Int} {E : List Ed} (hin : ∀ e ∈ E, e.o ∈ Ps ∧ e.r ∈ Ps) (hsym : ∀ e ∈ E, (⟨e.r, e.o, -e.a⟩ : Ed) ∈ E) {f0 : Int → Int} (hA : FsL Ps E f0 A) {k : Nat} (hk : Ps.length ≤ k) :
    ∀ e ∈ E, itr E k f0 e.o - itr E k f0 e.r = e.a := by
  obtain ⟨L, hL, hm⟩ := least_exists _ A hA (Nat.le_refl _)
  have hall : ∀ p ∈ Ps, itr E k f0 p = L p := by
    rcases itr_cnt hin hsym hL hm k with h | h
    · exact h
    · exact cnt_all L _ Ps (by have := cnt_le L (itr E k f0) Ps; omega)
  intro e he
  rw [hall _ (hin e he).1, hall _ (hin e he).2]
  exact hL.2 e he
/-- What a step leaves as it was: the bound is no less than what comes along it. -/
theorem los_same {f : Int → Int} {e : Ed} (h : los f e = f) : f e.r + e.a ≤ f e.o := by
  have := congrFun h e.o
  unfold los at this; rw [if_pos rfl] at this; omega
theorem lop_same : ∀ (E : List Ed) (f : Int → Int), (∀ e ∈ E, los f e = f) → lop E f = f
  | [], _, _ => rfl
  | e :: r, f, h => by
    show lop r (los f e) = f
    rw [h e (by simp)]; exact lop_same r f (fun x hx => h x (by simp [hx]))
theorem fix_tight {E : List Ed} (hsym : ∀ e ∈ E, (⟨e.r, e.o, -e.a⟩ : Ed) ∈ E) {f : Int → Int} (h : ∀ e ∈ E, los f e = f) : ∀ e ∈ E, f e.o - f e.r = e.a := fun e he => by
  have h1 := los_same (h e he); have h2 := los_same (h _ (hsym e he))
  dsimp only at h2; omega
end Go.Proofs.Ytbcgfohacbapoaa
