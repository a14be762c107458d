/- Places, rectangles, turns, sides, and what is said of them. No conditions. | Slices of structs in memory; slices of the call's own: appending one, appending all of another. No conditions. | The contracts of plane's small functions. Conditions: sizes that do not overflow. | A region whose rest holds more of the world: the held condition may grow on the way. Slices of places. No conditions. | The distance of lists of directions: a metric, the same for lists that are turned together. Conditions: directions from 0 to 7. -/
import Derived.Laws.AppendOwn
import Derived.Laws.AppendOwnNone
import Derived.Shelf.Abstract
import Derived.Test.YtmjcjaecaigahaaDoorLA
import Derived.Test.YtmjcjaecaigahaaDoorLC
namespace Go.Proofs.YtmjcjaecaigahaaDoor

/-- A place. -/
structure P7 where
  x : Int
  y : Int
deriving DecidableEq
/-- A rectangle. -/
structure R7 where
  x : Int
  y : Int
  w : Int
  h : Int
deriving DecidableEq
def P7.ok (p : P7) : Prop := (0 ≤ p.x ∧ p.x ≤ 4095) ∧ (0 ≤ p.y ∧ p.y ≤ 4095)
instance decP7 (p : P7) : Decidable p.ok := by unfold P7.ok; infer_instance
def R7.ok (r : R7) : Prop := ((0 ≤ r.x ∧ r.x ≤ 4095) ∧ (0 ≤ r.y ∧ r.y ≤ 4095)) ∧ (0 ≤ r.w ∧ r.w ≤ 4095 - r.x) ∧ (0 ≤ r.h ∧ r.h ≤ 4095 - r.y)
instance decR7 (r : R7) : Decidable r.ok := by unfold R7.ok; infer_instance
def P7.int (p : P7) : Prop := (-9223372036854775808 ≤ p.x ∧ p.x ≤ 9223372036854775807) ∧ (-9223372036854775808 ≤ p.y ∧ p.y ≤ 9223372036854775807)
end Go.Proofs.YtmjcjaecaigahaaDoor
namespace Go.Proofs.YtmjcjaecaigahaaDoor
open Go.RowKit Go.Lib

/-- What has not come up yields nothing: laid ahead of a region whose guards hang on what is skipped. -/
theorem un_none : yielded.match_1 (motive := fun _ => Option Bool) (some undef) (fun b => some b) (fun _ => none) = none := rfl
theorem own_pos {W : World} {B e s n : Nat} {v : Value} {xs : List Value} (h : W.ownsRow B e s v (n + 1) xs) : ∃ g c, v = .slice (some ⟨g, 0, none⟩) (n + 1) c ∧ B ≤ g := by
  rcases h.2 with ⟨_, h0⟩ | ⟨g, cap, cur, h1, h2, _⟩
  · omega
  · exact ⟨g, cap, h1, h2⟩
theorem own_far {W : World} {B e s n : Nat} {v : Value} {xs : List Value} (h : W.ownsRow B e s v n xs) {p : Addr} (hp : v.ownBlock ≠ some p.block) (u : Value) : (W.setCell p u).ownsRow B e s v n xs := by
  refine ⟨h.1, ?_⟩
  rcases h.2 with h0 | ⟨g, cap, cur, rfl, h1, h2, h3⟩
  · exact Or.inl h0
  · exact Or.inr ⟨g, cap, cur, rfl, h1, (Below.heap_setCell W p u g (fun e => hp (by rw [← e]; rfl))).trans h2, h3⟩
theorem own_base_le {W : World} {B B2 e s n : Nat} {v : Value} {xs : List Value} (h : W.ownsRow B e s v n xs) (hb : B2 ≤ B) : W.ownsRow B2 e s v n xs := by
  refine ⟨h.1, ?_⟩
  rcases h.2 with h0 | ⟨g, cap, cur, rfl, h1, h3⟩
  · exact Or.inl h0
  · exact Or.inr ⟨g, cap, cur, rfl, by omega, h3⟩
theorem own_ne {W : World} {B e s n k : Nat} {v : Value} {xs : List Value} (h : W.ownsRow B e s v n xs) (hk : k < B) : v.ownBlock ≠ some k := by
  rcases h.2 with ⟨rfl, _⟩ | ⟨g, cap, cur, rfl, h1, _⟩
  · simp [Value.ownBlock]
  · simp only [Value.ownBlock, ne_eq, Option.some.injEq]; omega
theorem own_below {W W2 : World} {B e s n : Nat} {v : Value} {xs : List Value} (h : W.ownsRow B e s v n xs) (hb : Below W.heap.size W W2) : W2.ownsRow B e s v n xs := by
  refine ⟨h.1, ?_⟩
  rcases h.2 with h0 | ⟨g, cap, cur, rfl, h1, h2, h3⟩
  · exact Or.inl h0
  · exact Or.inr ⟨g, cap, cur, rfl, h1, (hb.block g (Array.getElem?_eq_some_iff.1 h2).1).trans h2, h3⟩
theorem own7_base {w : World} {base e size n : Nat} {v : Value} {xs : List Value} (h : w.ownsRow base e size v n xs) (k : Nat) (hk : v.ownBlock = some k) : base ≤ k := (h.lt k hk).1
/-- The slice's cells are those of the elements, k each. -/
def Rz {α : Type} (cs : α → List Value) (k : Nat) (w : World) (A : Option Addr) (l : List α) : Prop :=
  0 < l.length → ∃ b o, A = some ⟨b, o, none⟩ ∧ b < w.heap.size ∧ ∀ i (h : i < l.length) j v, (cs l[i])[j]? = some v → w.cell? ⟨b, o + i * k + j, none⟩ = some v
section
variable {α : Type} {cs : α → List Value} {k : Nat} {w w' : World} {A : Option Addr} {l : List α}
theorem Rz.below {B : Nat} (h : Rz cs k w A l) (hb : Below B w w') (hB : w.heap.size ≤ B) : Rz cs k w' A l := fun hn => by
  obtain ⟨b, o, e, hl, hc⟩ := h hn
  have hl2 : b < B := Nat.lt_of_lt_of_le hl hB
  exact ⟨b, o, e, Nat.lt_of_lt_of_le hl hb.size, fun i hi j v hv => (hb.cell (p := ⟨b, _, none⟩) hl2).trans (hc i hi j v hv)⟩
theorem Rz.nil (w : World) (A : Option Addr) : Rz cs k w A ([] : List α) := fun h => absurd h (by simp)
theorem Rz.some (h : Rz cs k w A l) (hn : 0 < l.length) : ∃ b o, A = some ⟨b, o, none⟩ := by obtain ⟨b, o, e, _⟩ := h hn; exact ⟨b, o, e⟩
theorem Rz.here {b o : Nat} (h : Rz cs k w (Option.some ⟨b, o, none⟩) l) {i : Nat} (hi : i < l.length) : b < w.heap.size := by
  obtain ⟨b', o', e, hl, _⟩ := h (by omega); cases e; exact hl
theorem Rz.at {b o : Nat} (h : Rz cs k w (Option.some ⟨b, o, none⟩) l) {i : Nat} (hi : i < l.length) {j : Nat} {v : Value} (hv : (cs l[i])[j]? = Option.some v) : w.cell? ⟨b, o + i * k + j, none⟩ = Option.some v := by
  obtain ⟨b', o', e, _, hc⟩ := h (by omega); cases e; exact hc i hi j v hv
theorem Rz.cells {W : World} {B : Nat} {b o : Nat} (h : Rz cs k w (Option.some ⟨b, o, none⟩) l) (hb : Below B w W) (hB : w.heap.size ≤ B) {i : Nat} (hi : i < l.length) {j : Nat} {v : Value} (hv : (cs l[i])[j]? = Option.some v) : W.cell? ⟨b, o + i * k + j, none⟩ = Option.some v :=
  (h.below hb hB).at hi hv
/-- A part of a slice. -/
theorem Rz.drop {b o : Nat} (h : Rz cs k w (Option.some ⟨b, o, none⟩) l) (n : Nat) : Rz cs k w (Option.some ⟨b, o + n * k, none⟩) (l.drop n) := fun hn => by
  simp only [List.length_drop] at hn
  refine ⟨b, o + n * k, rfl, h.here (i := n) (by omega), fun i hi j v hv => ?_⟩
  simp only [List.length_drop] at hi
  rw [List.getElem_drop] at hv
  have := h.at (i := n + i) (by omega) hv
  rwa [show o + (n + i) * k + j = o + n * k + i * k + j from by rw [Nat.add_mul]; omega] at this
theorem Rz.take (h : Rz cs k w A l) (n : Nat) : Rz cs k w A (l.take n) := fun hn => by
  simp only [List.length_take] at hn
  obtain ⟨b, o, e, hl, hc⟩ := h (by omega)
  refine ⟨b, o, e, hl, fun i hi j v hv => ?_⟩
  simp only [List.length_take] at hi
  rw [List.getElem_take] at hv
  exact hc i (by omega) j v hv
end
/-- What has been appended or made, read as a slice. -/
theorem Rz.of_own {α : Type} {cs : α → List Value} {k : Nat} (hk : ∀ x, (cs x).length = k) {W : World} {B n : Nat} {e : TypeId} {v : Value} {l : List α} (h : W.ownsRow B e k v n (l.flatMap cs)) (h0 : 0 < k) : n = l.length ∧ ∃ A c, v = .slice A l.length c ∧ Rz cs k W A l := by
  have hlen : (l.flatMap cs).length = l.length * k := by
    clear h
    induction l with
    | nil => simp
    | cons x r ih => simp only [List.flatMap_cons, List.length_append, List.length_cons, hk, ih]; rw [Nat.add_mul]; omega
  have hn : n = l.length := by
    have := h.1; rw [hlen] at this
    exact (Nat.eq_of_mul_eq_mul_right h0 this).symm
  subst hn
  refine ⟨rfl, ?_⟩
  rcases h.2 with ⟨rfl, h0⟩ | ⟨g, cap, cur, rfl, hB, hg, hc1, hc2, hs, ht⟩
  · exact ⟨none, 0, by rw [h0], fun hh => absurd hh (by omega)⟩
  · refine ⟨_, _, rfl, fun _ => ⟨g, 0, rfl, (Array.getElem?_eq_some_iff.1 hg).1, fun i hi j v hv => ?_⟩⟩
    have hjk : j < k := by rw [← hk l[i]]; exact (List.getElem?_eq_some_iff.1 hv).1
    have key : (l.flatMap cs)[i * k + j]? = Option.some v := by
      clear h ht hg hB hc1 hc2 hs hlen
      induction l generalizing i with
      | nil => simp at hi
      | cons x r ih =>
        cases i with
        | zero =>
          rw [List.flatMap_cons, List.getElem?_append_left (by rw [hk]; omega)]
          simpa using hv
        | succ i =>
          rw [List.flatMap_cons, List.getElem?_append_right (by rw [hk, Nat.add_mul]; omega), show (i + 1) * k + j - (cs x).length = i * k + j from by rw [hk, Nat.add_mul]; omega]
          exact ih (by simp only [List.length_cons] at hi; omega) i (by simpa using hi) (by simpa using hv)
    have h3 : cur[0 + i * k + j]? = Option.some v := by
      have hlt : i * k + j < l.length * k := by
        have : (i + 1) * k ≤ l.length * k := Nat.mul_le_mul_right k hi
        rw [Nat.add_mul] at this; omega
      rw [← ht, List.getElem?_take_of_lt hlt] at key
      rw [Nat.zero_add]; simpa using key
    exact Blk.cell (show Blk W g e cur from hg) h3
/-- What a law on append asks of an element's type. -/
structure Ap {α : Type} (cs : α → List Value) (k : Nat) (T TS : TypeId) : Prop where
  info : ∃ (i : TypeInfo) (z : Value) (b : Nat), Tryd.prog.info? T = some i ∧ i.zero = some z ∧ i.size = k ∧ i.bytes = b ∧ b ≤ 100 ∧ z.cells.size = k
  und : Tryd.prog.underlying TS = some (.slice T)
  pos : 0 < k
  len : ∀ x, (cs x).length = k
  one : ∀ x, ∀ u ∈ cs x, u.oneCell' = true
/-- The call's own slice holds l. -/
def OwnL {α : Type} (cs : α → List Value) (k : Nat) (T : TypeId) (W : World) (B : Nat) (v : Value) (l : List α) : Prop := W.ownsRow B T k v l.length (l.flatMap cs)
section
variable {α : Type} {cs : α → List Value} {k : Nat} {T TS : TypeId} {W W' : World} {B : Nat} {v : Value} {l : List α}
theorem OwnL.nil (W : World) (B : Nat) : OwnL cs k T W B (.slice none 0 0) ([] : List α) := World.ownsRow_nil W B T k
theorem OwnL.below (h : OwnL cs k T W B v l) (hb : Below W.heap.size W W') : OwnL cs k T W' B v l := own_below h hb
theorem OwnL.base {B2 : Nat} (h : OwnL cs k T W B v l) (hb : B2 ≤ B) : OwnL cs k T W B2 v l := own_base_le h hb
theorem OwnL.far (h : OwnL cs k T W B v l) {p : Addr} (hp : p.block < B) (u : Value) : OwnL cs k T (W.setCell p u) B v l := own_far h (own_ne h hp) u
theorem OwnL.block (h : OwnL cs k T W B v l) {g : Nat} (e : v.ownBlock = some g) : B ≤ g := own7_base h g e
theorem OwnL.drew (h : OwnL cs k T W B v l) : OwnL cs k T W.drew B v l := h
/-- As a slice value, with what lies there. -/
theorem OwnL.read (ap : Ap cs k T TS) (h : OwnL cs k T W B v l) : ∃ A c, v = .slice A l.length c ∧ Rz cs k W A l ∧ l.length ≤ c ∧ (A = none → c = 0) ∧ c ≤ maxLen := by
  obtain ⟨_, A, c, rfl, hz⟩ := Rz.of_own ap.len h ap.pos
  refine ⟨A, c, rfl, hz, ?_⟩
  rcases h.2 with ⟨h1, h0⟩ | ⟨g, cap, cur, h1, _, _, h2, h3, _⟩
  · simp only [Value.slice.injEq] at h1
    obtain ⟨rfl, h2, rfl⟩ := h1
    exact ⟨by omega, fun _ => rfl, by unfold maxLen; omega⟩
  · simp only [Value.slice.injEq] at h1
    obtain ⟨rfl, h4, rfl⟩ := h1
    exact ⟨h2, (fun h => by cases h), h3⟩
end
end Go.Proofs.YtmjcjaecaigahaaDoor
namespace Go.Proofs.YtmjcjaecaigahaaDoor
open Go.RowKit Go.Lib

abbrev p7v (p : P7) : Value := .agg #[.int .i64 p.x, .int .i64 p.y]
abbrev r7v (r : R7) : Value := .agg #[.int .i64 r.x, .int .i64 r.y, .int .i64 r.w, .int .i64 r.h]
def p7c (p : P7) : List Value := [.int .i64 p.x, .int .i64 p.y]
abbrev Pz := Rz p7c 2
/-- What a function on plain values yields. -/
abbrev Yl (f : FuncId) (args : Array Value) (w : World) (v : Value) : Prop := Calls Tryd.prog f args w fun e w' => e = .returned v ∧ Below w.heap.size w w'
end Go.Proofs.YtmjcjaecaigahaaDoor
namespace Go.Proofs.YtmjcjaecaigahaaDoor
open Go.RowKit Go.Lib

theorem grow_put {P : Program} {md : Region.Mode} {ops : Array Oper} {Q : Exit → Act → World → Prop} {S : World → Prop} {fuel : Nat} {listed : Array Bool} {K : Act → World → Prop} {a : Act} {w : World}
    (hK : Shut (∀ a' w' (I' : World → Prop), Calm S I' → I' w' → Grow P md ops Q S fuel listed a' I' → K a' w')) (I : World → Prop) (hI : Calm S I) (h0 : I w) (h : Calm S I → Grow P md ops Q S fuel listed a I) : K a w := hK.out _ _ I hI h0 (h hI)
theorem grow_new {P : Program} {md : Region.Mode} {ops : Array Oper} {Q : Exit → Act → World → Prop} {S I : World → Prop} {fuel : Nat} {listed : Array Bool} {K : Act → World → Prop} {a : Act} {w : World} {o : Obj} {p : Nat} {t : TypeId} {cs : Array Value}
    (hK : Shut (∀ a' w' (I' : World → Prop), Calm S I' → I' w' → Grow P md ops Q S fuel listed a' I' → K a' w')) (hI : Calm S I) (hA : I w) (hn : Blk (w.alloc o) p t cs) (h : Calm S (fun w' => I w' ∧ Blk w' p t cs) → Grow P md ops Q S fuel listed a (fun w' => I w' ∧ Blk w' p t cs)) : K a (w.alloc o) :=
  have hc : Calm S (fun w' => I w' ∧ Blk w' p t cs) := ⟨fun w h => hI.1 w h.1, fun w w' h hb => ⟨hI.2 w w' h.1 hb, h.2.below hb h.2.lt⟩⟩
  hK.out _ _ _ hc ⟨hI.2 w _ hA ((Below.refl _ _).alloc (Nat.le_refl _) _), hn⟩ (h hc)
theorem Pz.cell {w w' : World} {b o B : Nat} {l : List P7} (h : Pz w (some ⟨b, o, none⟩) l) (hb : Below B w w') (hB : w.heap.size ≤ B) {i : Nat} (hi : i < l.length) : w'.cell? ⟨b, o + i * 2, none⟩ = some (.int .i64 l[i].x) ∧ w'.cell? ⟨b, o + i * 2 + 1, none⟩ = some (.int .i64 l[i].y) :=
  ⟨h.cells hb hB hi (j := 0) rfl, h.cells hb hB hi (j := 1) rfl⟩
end Go.Proofs.YtmjcjaecaigahaaDoor
namespace Go.Proofs.YtmjcjaecaigahaaDoor
open Go.RowKit Go.Lib

/-- The eighths of a turn between two directions. -/
def tn8 (x y : Int) : Int := min (max (x - y) (-(x - y))) (8 - max (x - y) (-(x - y)))
def Dr8 (x : Int) : Prop := 0 ≤ x ∧ x ≤ 7
theorem tn8_nn {x y : Int} (hx : Dr8 x) (hy : Dr8 y) : 0 ≤ tn8 x y ∧ tn8 x y ≤ 4 := by unfold tn8 Dr8 at *; omega
/-- The distance of two lists, from their ends. -/
def lv8 : List Int → List Int → Int
  | [], ys => 3 * ys.length
  | x :: xs, [] => 3 * (xs.length + 1)
  | x :: xs, y :: ys => min (lv8 xs ys + tn8 x y) (min (lv8 (x :: xs) ys) (lv8 xs (y :: ys)) + 3)
termination_by xs ys => xs.length + ys.length
theorem lv8_nil (ys : List Int) : lv8 [] ys = 3 * ys.length := by unfold lv8; rfl
theorem lv8_nil' (xs : List Int) : lv8 xs [] = 3 * xs.length := by
  cases xs with
  | nil => rw [lv8_nil]
  | cons x xs => unfold lv8; simp
theorem lv8_cons (x y : Int) (xs ys : List Int) : lv8 (x :: xs) (y :: ys) = min (lv8 xs ys + tn8 x y) (min (lv8 (x :: xs) ys) (lv8 xs (y :: ys)) + 3) := by
  conv => lhs; unfold lv8
def Ds8 (l : List Int) : Prop := ∀ x ∈ l, Dr8 x
theorem Ds8.head {x : Int} {l : List Int} (h : Ds8 (x :: l)) : Dr8 x := h x (List.mem_cons_self ..)
theorem Ds8.tail {x : Int} {l : List Int} (h : Ds8 (x :: l)) : Ds8 l := fun y hy => h y (List.mem_cons_of_mem _ hy)
/-- Both bounds. -/
theorem lv8_bd : ∀ xs ys : List Int, Ds8 xs → Ds8 ys → (3 * ((xs.length : Int) - ys.length) ≤ lv8 xs ys ∧ 3 * ((ys.length : Int) - xs.length) ≤ lv8 xs ys) ∧ lv8 xs ys ≤ 3 * ((xs.length : Int) + ys.length)
  | [], ys, _, _ => by rw [lv8_nil]; simp only [List.length_nil]; omega
  | x :: xs, [], _, _ => by rw [lv8_nil']; simp only [List.length_nil, List.length_cons]; omega
  | x :: xs, y :: ys, hx, hy => by
    have h1 := lv8_bd xs ys hx.tail hy.tail
    have h2 := lv8_bd (x :: xs) ys hx hy.tail
    have h3 := lv8_bd xs (y :: ys) hx.tail hy
    have h4 := tn8_nn hx.head hy.head
    rw [lv8_cons]
    simp only [List.length_cons] at *
    omega
termination_by xs ys => xs.length + ys.length
/-- The distance of two lists of directions. -/
def far8 (a b : List Int) : Int := lv8 a.reverse b.reverse
theorem ds8_rev {l : List Int} (h : Ds8 l) : Ds8 l.reverse := fun x hx => h x (List.mem_reverse.1 hx)
theorem far8_bd {a b : List Int} (ha : Ds8 a) (hb : Ds8 b) : (3 * ((a.length : Int) - b.length) ≤ far8 a b ∧ 3 * ((b.length : Int) - a.length) ≤ far8 a b) ∧ far8 a b ≤ 3 * ((a.length : Int) + b.length) := by
  have := lv8_bd _ _ (ds8_rev ha) (ds8_rev hb)
  rw [List.length_reverse, List.length_reverse] at this
  exact this
/-- The row behind i directions of a: the distances from the beginnings of b. -/
def dm8 (a b : List Int) (i k : Nat) : Int := far8 (a.take i) (b.take k)
theorem dm8_zero (a b : List Int) {k : Nat} (hk : k ≤ b.length) : dm8 a b 0 k = 3 * k := by
  unfold dm8 far8; rw [List.take_zero, List.reverse_nil, lv8_nil, List.length_reverse, List.length_take]; omega
theorem dm8_zero' (a b : List Int) {i : Nat} (hi : i ≤ a.length) : dm8 a b i 0 = 3 * i := by
  unfold dm8 far8; rw [List.take_zero, List.reverse_nil, lv8_nil', List.length_reverse, List.length_take]; omega
theorem take_rev8 (a : List Int) {i : Nat} {x : Int} (hx : a[i]? = some x) : (a.take (i + 1)).reverse = x :: (a.take i).reverse := by
  have hi : i < a.length := (List.getElem?_eq_some_iff.1 hx).1
  rw [List.take_add_one, hx]; simp
theorem dm8_step (a b : List Int) {i k : Nat} {x y : Int} (hx : a[i]? = some x) (hy : b[k]? = some y) :
    dm8 a b (i + 1) (k + 1) = min (dm8 a b i k + tn8 x y) (min (dm8 a b (i + 1) k) (dm8 a b i (k + 1)) + 3) := by
  unfold dm8 far8
  rw [take_rev8 a hx, take_rev8 b hy, lv8_cons]
theorem dm8_all (a b : List Int) : dm8 a b a.length b.length = far8 a b := by unfold dm8; rw [List.take_length, List.take_length]
theorem ds8_take {l : List Int} (h : Ds8 l) (n : Nat) : Ds8 (l.take n) := fun x hx => h x (List.mem_of_mem_take hx)
theorem dm8_bd {a b : List Int} (ha : Ds8 a) (hb : Ds8 b) (i k : Nat) (hi : i ≤ 200) (hk : k ≤ 200) : 0 ≤ dm8 a b i k ∧ dm8 a b i k ≤ 1200 := by
  have h := far8_bd (ds8_take ha i) (ds8_take hb k)
  have h1 : (a.take i).length ≤ i := by rw [List.length_take]; omega
  have h2 : (b.take k).length ≤ k := by rw [List.length_take]; omega
  unfold dm8; omega
end Go.Proofs.YtmjcjaecaigahaaDoor
