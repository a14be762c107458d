
/- Strokes that are moved and turned: what stays. No conditions. -/
import Derived.Test.YtamogfcedkjmcaaNM5
import Derived.Test.YtamogfcedkjmcaaTn5
import Derived.Test.YtamogfcedkjmcaaBt5
import Derived.Test.YtamogfcedkjmcaaBx5
import Derived.Test.YtamogfcedkjmcaaThM5
import Derived.Test.YtamogfcedkjmcaaKp5
namespace Go.Proofs.Ytamogfcedkjmcaa
open Go.RowKit Go.Lib

theorem Vd.map {P N : Int} {ds : List Dt} {f : Dt → Dt} (h : Vd P N ds) (hok : ∀ d ∈ ds, d.ok → (f d).ok) (ht : ∀ d, (f d).t = d.t) : Vd P N (ds.map f) := by
  refine ⟨h.1, h.2.1, by rw [List.length_map]; exact h.2.2.1, fun i hi d hd => ?_⟩
  rw [List.length_map] at hi
  rw [List.getElem?_map] at hd
  obtain ⟨d0, h0, rfl⟩ := Option.map_eq_some_iff.1 hd
  obtain ⟨h1, h2⟩ := h.2.2.2 i hi d0 h0
  refine ⟨hok d0 (List.mem_of_getElem? h0) h1, fun e he => ?_⟩
  rw [List.getElem?_map] at he
  obtain ⟨e0, h3, rfl⟩ := Option.map_eq_some_iff.1 he
  rw [ht, ht]; exact h2 e0 h3
theorem mvd_ok {x y : Int} {d : Dt} (h : d.ok) (hp : OnP (d.x + x) (d.y + y)) : (mvd x y d).ok := ⟨hp, h.2⟩
theorem vd_moved {P N : Int} {ds : List Dt} {x y : Int} (h : MovP P N ds x y) : Vd P N (ds.map (mvd x y)) := h.1.map (fun d hd hk => mvd_ok hk (h.2.2 d hd)) fun _ => rfl
theorem sel4_ok {k : Nat} {a b c d : Int} (h : ∀ v, v = a ∨ v = b ∨ v = c ∨ v = d → 0 ≤ v ∧ v ≤ 4095) : 0 ≤ sel4 k a b c d ∧ sel4 k a b c d ≤ 4095 := by
  unfold sel4
  split
  · exact h _ (.inl rfl)
  · split
    · exact h _ (.inr (.inl rfl))
    · split
      · exact h _ (.inr (.inr (.inl rfl)))
      · exact h _ (.inr (.inr (.inr rfl)))
theorem trn_ok {k : Nat} {d : Dt} (h : d.ok) : (trn k d).ok := by
  obtain ⟨h1, h2⟩ := h
  have a := sel4_ok (k := k) (a := d.x) (b := 4095 - d.y) (c := 4095 - d.x) (d := d.y) (by rintro v (rfl | rfl | rfl | rfl) <;> omega)
  have b := sel4_ok (k := k) (a := d.y) (b := d.x) (c := 4095 - d.y) (d := 4095 - d.x) (by rintro v (rfl | rfl | rfl | rfl) <;> omega)
  exact ⟨⟨a.1, a.2, b.1, b.2⟩, h2⟩
theorem vd_turned {P N : Int} {ds : List Dt} (k : Nat) (h : Vd P N ds) : Vd P N (ds.map (trn k)) := h.map (fun _ _ hk => trn_ok hk) fun _ => rfl
theorem trn_zero (d : Dt) : trn 0 d = d := by cases d; rfl
theorem trn_one (d : Dt) : trn 1 d = ⟨4095 - d.y, d.x, d.t, d.p⟩ := rfl
/-- One quarter more. -/
theorem trn_succ (k : Nat) (d : Dt) (h : k < 4) : trn 1 (trn k d) = trn ((k + 1) % 4) d := by
  cases d with
  | mk x y t p =>
    match k, h with
    | 0, _ => rfl
    | 1, _ => simp [trn, sel4]
    | 2, _ => simp [trn, sel4] <;> omega
    | 3, _ => simp [trn, sel4] <;> omega
theorem trn_add (j : Nat) (d : Dt) : ∀ k, k < 4 → trn k (trn j d) = trn ((k + j) % 4) d ∨ 4 ≤ j
  | k, hk => by
    by_cases hj : j < 4
    · left
      cases d with
      | mk x y t p =>
        match k, j, hk, hj with
        | 0, 0, _, _ => rfl
        | 0, 1, _, _ => rfl
        | 0, 2, _, _ => rfl
        | 0, 3, _, _ => rfl
        | 1, 0, _, _ => rfl
        | 1, 1, _, _ => simp [trn, sel4]
        | 1, 2, _, _ => simp [trn, sel4] <;> omega
        | 1, 3, _, _ => simp [trn, sel4] <;> omega
        | 2, 0, _, _ => rfl
        | 2, 1, _, _ => simp [trn, sel4] <;> omega
        | 2, 2, _, _ => simp [trn, sel4] <;> omega
        | 2, 3, _, _ => simp [trn, sel4] <;> omega
        | 3, 0, _, _ => rfl
        | 3, 1, _, _ => simp [trn, sel4] <;> omega
        | 3, 2, _, _ => simp [trn, sel4] <;> omega
        | 3, 3, _, _ => simp [trn, sel4] <;> omega
    · right; omega
/-- Turning by a, and then by b. -/
theorem trn_qrt (a b : Int) (d : Dt) : trn (qrt b) (trn (qrt a) d) = trn (qrt (a + b)) d := by
  rcases trn_add (qrt a) d (qrt b) (qrt_lt b) with h | h
  · rw [h]; congr 1; unfold qrt; omega
  · have := qrt_lt a; omega
theorem qrt_zero {a : Int} (h : a % 4 = 0) : qrt a = 0 := by unfold qrt; omega
theorem map_trn_qrt (a b : Int) (ds : List Dt) : (ds.map (trn (qrt a))).map (trn (qrt b)) = ds.map (trn (qrt (a + b))) := by
  rw [List.map_map]; congr 1; funext d; exact trn_qrt a b d
theorem map_trn_zero {a : Int} (h : a % 4 = 0) (ds : List Dt) : ds.map (trn (qrt a)) = ds := by
  rw [qrt_zero h]
  have : trn 0 = id := by funext d; exact trn_zero d
  rw [this, List.map_id]
theorem map_mvd_back (x y : Int) (ds : List Dt) : (ds.map (mvd x y)).map (mvd (-x) (-y)) = ds := by
  rw [List.map_map]
  have : mvd (-x) (-y) ∘ mvd x y = id := by
    funext d; cases d; simp only [Function.comp, mvd, id, Dt.mk.injEq, and_true]; omega
  rw [this, List.map_id]
/-- How far it is from dot to dot does not change. -/
theorem stepD_moved (x y : Int) (d e : Dt) : stepD (mvd x y d) (mvd x y e) = stepD d e := by
  unfold stepD mvd
  have h1 : e.x + x - (d.x + x) = e.x - d.x := by omega
  have h2 : e.y + y - (d.y + y) = e.y - d.y := by omega
  simp only [h1, h2]
theorem stepD_turned (d e : Dt) : stepD (trn 1 d) (trn 1 e) = stepD d e := by
  rw [trn_one, trn_one]
  unfold stepD
  simp only
  split <;> split <;> omega
theorem wayL_map {f : Dt → Dt} (hf : ∀ d e, stepD (f d) (f e) = stepD d e) : ∀ ds : List Dt, wayL (ds.map f) = wayL ds
  | [] => rfl
  | [_] => rfl
  | d :: e :: r => by
    have := wayL_map hf (e :: r)
    simp only [List.map_cons, wayL] at this ⊢
    rw [hf, this]
/-- What is between stays between. -/
theorem betw_moved {P N : Int} {ds : List Dt} {x y z : Int} (h : MovP P N ds x y) (i k : Nat) : BetwP (ds.map (mvd x y)) z i k ↔ BetwP ds z i k := by
  unfold BetwP NearAt
  refine forall_congr' fun n => forall_congr' fun _ => forall_congr' fun _ => ?_
  constructor
  · intro hn d e f h1 h2 h3
    have h4 := hn (mvd x y d) (mvd x y e) (mvd x y f) (by rw [List.getElem?_map, h1]; rfl) (by rw [List.getElem?_map, h2]; rfl) (by rw [List.getElem?_map, h3]; rfl)
    have a1 := (h.1.mem d (List.mem_of_getElem? h1)).1; have a2 := (h.1.mem e (List.mem_of_getElem? h2)).1; have a3 := (h.1.mem f (List.mem_of_getElem? h3)).1
    have h5 := NearP.move (-x) (-y) h4 (by unfold OnP mvd; simp only; omega) (by unfold OnP mvd; simp only; omega) (by unfold OnP mvd; simp only; omega)
    simp only [mvd] at h5
    have q : ∀ u v : Int, u + v + -v = u := fun u v => by omega
    simpa only [q] using h5
  · intro hn d e f h1 h2 h3
    rw [List.getElem?_map] at h1 h2 h3
    obtain ⟨d0, g1, rfl⟩ := Option.map_eq_some_iff.1 h1
    obtain ⟨e0, g2, rfl⟩ := Option.map_eq_some_iff.1 h2
    obtain ⟨f0, g3, rfl⟩ := Option.map_eq_some_iff.1 h3
    exact NearP.move x y (hn d0 e0 f0 g1 g2 g3) (h.2.2 d0 (List.mem_of_getElem? g1)) (h.2.2 e0 (List.mem_of_getElem? g2)) (h.2.2 f0 (List.mem_of_getElem? g3))
theorem betw_turned {ds : List Dt} {z : Int} (i k : Nat) : BetwP (ds.map (trn 1)) z i k ↔ BetwP ds z i k := by
  unfold BetwP NearAt
  refine forall_congr' fun n => forall_congr' fun _ => forall_congr' fun _ => ?_
  constructor
  · intro hn d e f h1 h2 h3
    have h4 := hn (trn 1 d) (trn 1 e) (trn 1 f) (by rw [List.getElem?_map, h1]; rfl) (by rw [List.getElem?_map, h2]; rfl) (by rw [List.getElem?_map, h3]; rfl)
    rw [trn_one, trn_one, trn_one] at h4
    exact h4.back
  · intro hn d e f h1 h2 h3
    rw [List.getElem?_map] at h1 h2 h3
    obtain ⟨d0, g1, rfl⟩ := Option.map_eq_some_iff.1 h1
    obtain ⟨e0, g2, rfl⟩ := Option.map_eq_some_iff.1 h2
    obtain ⟨f0, g3, rfl⟩ := Option.map_eq_some_iff.1 h3
    rw [trn_one, trn_one, trn_one]
    exact (hn d0 e0 f0 g1 g2 g3).turn
theorem betw_mono {ds : List Dt} {z y : Int} (h : z ≤ y) (h2 : y ≤ 1000) (i k : Nat) (hb : BetwP ds z i k) : BetwP ds y i k := fun n h3 h4 d e f a b c => (hb n h3 h4 d e f a b c).mono h h2
theorem betw_next (ds : List Dt) (z : Int) (i : Nat) : BetwP ds z i (i + 1) := fun n h1 h2 => by omega
/-- The box moves, and turns. -/
theorem IsBox.moved {ds : List Dt} {x y w h : Int} (a b : Int) (hb : IsBox ds x y w h) : IsBox (ds.map (mvd a b)) (x + a) (y + b) w h := by
  obtain ⟨h0, ⟨d1, m1, e1⟩, ⟨d2, m2, e2⟩, ⟨d3, m3, e3⟩, ⟨d4, m4, e4⟩⟩ := hb
  refine ⟨fun d hd => ?_, ⟨_, List.mem_map_of_mem m1, by simp only [mvd]; omega⟩, ⟨_, List.mem_map_of_mem m2, by simp only [mvd]; omega⟩, ⟨_, List.mem_map_of_mem m3, by simp only [mvd]; omega⟩, ⟨_, List.mem_map_of_mem m4, by simp only [mvd]; omega⟩⟩
  obtain ⟨d0, hd0, rfl⟩ := List.mem_map.1 hd
  have := h0 d0 hd0
  simp only [mvd]; omega
theorem IsBox.turned {ds : List Dt} {x y w h : Int} (hb : IsBox ds x y w h) : IsBox (ds.map (trn 1)) (4095 - y - h) x h w := by
  obtain ⟨h0, ⟨d1, m1, e1⟩, ⟨d2, m2, e2⟩, ⟨d3, m3, e3⟩, ⟨d4, m4, e4⟩⟩ := hb
  refine ⟨fun d hd => ?_, ⟨_, List.mem_map_of_mem m4, by simp only [trn_one]; omega⟩, ⟨_, List.mem_map_of_mem m3, by simp only [trn_one]; omega⟩, ⟨_, List.mem_map_of_mem m1, by simp only [trn_one]; omega⟩, ⟨_, List.mem_map_of_mem m2, by simp only [trn_one]; omega⟩⟩
  obtain ⟨d0, hd0, rfl⟩ := List.mem_map.1 hd
  have := h0 d0 hd0
  simp only [trn_one]; omega
/-- The way is at least as long as the greater side. -/
theorem way_reach : ∀ (ds : List Dt) (d : Dt), (∀ e ∈ d :: ds, e.ok) → ∀ e ∈ d :: ds, (-wayL (d :: ds) ≤ e.x - d.x ∧ e.x - d.x ≤ wayL (d :: ds)) ∧ (-wayL (d :: ds) ≤ e.y - d.y ∧ e.y - d.y ≤ wayL (d :: ds))
  | [], d, _, e, he => by
    simp at he; subst he; simp [wayL]
  | a :: r, d, hk, e, he => by
    have hw := wayL_le (a :: r) (fun x hx => hk x (List.mem_cons_of_mem _ hx))
    have hs := stepD_le (hk d (by simp)) (hk a (by simp))
    have hst : (a.x - d.x).natAbs ≤ (stepD d a).natAbs ∧ (a.y - d.y).natAbs ≤ (stepD d a).natAbs := by unfold stepD; split <;> omega
    simp only [wayL]
    rcases List.mem_cons.1 he with rfl | he
    · omega
    · have := way_reach r a (fun x hx => hk x (List.mem_cons_of_mem _ hx)) e he
      omega
theorem way_tail : ∀ (ds : List Dt), (∀ e ∈ ds, e.ok) → ∀ e ∈ ds, ∀ f ∈ ds, e.x - f.x ≤ wayL ds ∧ e.y - f.y ≤ wayL ds
  | [], _, e, he, _, _ => by simp at he
  | [a], _, e, he, f, hf => by simp at he hf; subst he; subst hf; simp [wayL]
  | d :: a :: r, hk, e, he, f, hf => by
    have h1 := way_reach (a :: r) d hk
    have h2 := way_tail (a :: r) (fun x hx => hk x (List.mem_cons_of_mem _ hx))
    have hs := stepD_le (hk d (by simp)) (hk a (by simp))
    have hw : wayL (d :: a :: r) = stepD d a + wayL (a :: r) := rfl
    rcases List.mem_cons.1 he with rfl | he2
    · have := h1 f hf; omega
    · rcases List.mem_cons.1 hf with rfl | hf2
      · have := h1 e he; omega
      · have := h2 e he2 f hf2; omega
theorem way_sides {P N : Int} {ds : List Dt} {x y w h : Int} (hv : Vd P N ds) (hb : IsBox ds x y w h) : w ≤ wayL ds ∧ h ≤ wayL ds := by
  obtain ⟨_, ⟨d1, m1, e1⟩, ⟨d2, m2, e2⟩, ⟨d3, m3, e3⟩, ⟨d4, m4, e4⟩⟩ := hb
  have a := way_tail ds hv.mem d2 m2 d1 m1; have b := way_tail ds hv.mem d4 m4 d3 m3
  omega
/-- With the tolerance 0, what is near is on the straight line. -/
theorem nearP_zero {ax ay bx by_ px py : Int} (h : NearP ax ay bx by_ px py 0) : (bx - ax) * (py - ay) = (by_ - ay) * (px - ax) := by
  unfold NearP at h
  obtain ⟨_, _, _, _, h⟩ := h
  rcases h with h | h | ⟨_, h⟩
  · obtain ⟨h1, h2⟩ := sqd_x (Int.le_refl 0) h
    have e1 : px - ax = 0 := by omega
    have e2 : py - ay = 0 := by omega
    rw [e1, e2]; simp
  · obtain ⟨h1, h2⟩ := sqd_x (Int.le_refl 0) h
    have e1 : px = bx := by omega
    have e2 : py = by_ := by omega
    rw [e1, e2]; grind
  · have h2 := abs_of_sq (u := (bx - ax) * (py - ay) - (by_ - ay) * (px - ax)) (Int.le_refl 0) (by omega)
    omega
/-- The box of some of the dots is in the box of all. -/
theorem IsBox.sub {ds es : List Dt} {x y w h x2 y2 w2 h2 : Int} (hs : ∀ d ∈ es, d ∈ ds) (a : IsBox ds x y w h) (b : IsBox es x2 y2 w2 h2) : x ≤ x2 ∧ y ≤ y2 ∧ x2 + w2 ≤ x + w ∧ y2 + h2 ≤ y + h := by
  obtain ⟨a0, _⟩ := a
  obtain ⟨_, ⟨f1, n1, g1⟩, ⟨f2, n2, g2⟩, ⟨f3, n3, g3⟩, ⟨f4, n4, g4⟩⟩ := b
  have := a0 _ (hs _ n1); have := a0 _ (hs _ n2); have := a0 _ (hs _ n3); have := a0 _ (hs _ n4)
  omega
theorem KeptP.sub {P N : Int} {ds : List Dt} {l : List Int} (h : KeptP P N ds l) : ∀ d ∈ keptD ds l, d ∈ ds := fun d hd => by
  obtain ⟨k, hk, rfl⟩ := List.mem_map.1 hd
  obtain ⟨i, hi, rfl⟩ := List.getElem_of_mem hk
  have h1 := (h.2.2 i hi _ (List.getElem?_eq_getElem hi)).1
  have h2 : (l[i]).toNat < ds.length := by omega
  rw [List.getD_eq_getElem?_getD, List.getElem?_eq_getElem h2]
  exact List.getElem_mem h2
theorem vd_asc {P N : Int} {ds : List Dt} (h : Vd P N ds) : ∀ (n i : Nat) (d e : Dt), ds[i]? = some d → ds[i + n]? = some e → d.t ≤ e.t
  | 0, i, d, e, h1, h2 => by rw [Nat.add_zero, h1] at h2; cases h2; exact Int.le_refl _
  | n + 1, i, d, e, h1, h2 => by
    have hl := (List.getElem?_eq_some_iff.1 h2).1
    have h3 := vd_asc h n i d _ h1 (List.getElem?_eq_getElem (show i + n < ds.length by omega))
    have h4 := (h.2.2.2 (i + (n + 1)) hl e h2).2 (ds[i + n]'(by omega)) (by rw [show i + (n + 1) - 1 = i + n by omega]; exact List.getElem?_eq_getElem _)
    omega
theorem KeptP.vd {P N : Int} {ds : List Dt} {l : List Int} (h : KeptP P N ds l) : Vd P N (keptD ds l) := by
  have hlen : (keptD ds l).length = l.length := by unfold keptD; rw [List.length_map]
  refine ⟨h.1.1, h.1.2.1, by rw [hlen]; have := h.1.2.2.1; have := h.2.1; omega, fun i hi d hd => ⟨h.1.mem d (h.sub d (List.mem_of_getElem? hd)), fun e he => ?_⟩⟩
  rw [hlen] at hi
  have hat : ∀ j d, (keptD ds l)[j]? = some d → ∃ k : Int, l[j]? = some k ∧ (0 ≤ k ∧ k < (ds.length : Int)) ∧ ds[k.toNat]? = some d := fun j d hj => by
    unfold keptD at hj
    rw [List.getElem?_map] at hj
    obtain ⟨k, hk, rfl⟩ := Option.map_eq_some_iff.1 hj
    have h1 := (h.2.2 j (List.getElem?_eq_some_iff.1 hk).1 k hk).1
    refine ⟨k, hk, h1, ?_⟩
    have h2 : k.toNat < ds.length := by omega
    rw [List.getD_eq_getElem?_getD, List.getElem?_eq_getElem h2]; rfl
  obtain ⟨k, hk, hkr, hkd⟩ := hat i d hd
  obtain ⟨m, hm, hmr, hmd⟩ := hat (i - 1) e he
  by_cases h0 : 0 < i
  · have hlt := (h.2.2 i hi k hk).2 h0 m hm
    have := vd_asc h.1 (k.toNat - m.toNat) m.toNat e d hmd (by rw [show m.toNat + (k.toNat - m.toNat) = k.toNat by omega]; exact hkd)
    exact this
  · have : i - 1 = i := by omega
    rw [this, hd] at he
    cases he
    exact Int.le_refl _
end Go.Proofs.Ytamogfcedkjmcaa
