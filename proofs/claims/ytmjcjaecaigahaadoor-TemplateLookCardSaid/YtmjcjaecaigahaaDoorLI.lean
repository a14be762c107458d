/- The contracts of isNear and featureOf. Conditions: the table of directions and the slices read; dots on the board. -/
import Derived.Deep.CutRange
import Derived.Test.YtmjcjaecaigahaaDoorLH
namespace Go.Proofs.YtmjcjaecaigahaaDoor
open Go.RowKit Go.Lib

/-- A feature: places, steps, closed. -/
structure F8 where
  ps : List P7
  ss : List Int
  cl : Bool
def pt8 (ds : List Dt) (k : Nat) : P7 := ⟨(ds.getD k ⟨0, 0, 0, 0⟩).x, (ds.getD k ⟨0, 0, 0, 0⟩).y⟩
def stp8 : List P7 → List Int
  | [] => []
  | [_] => []
  | a :: b :: r => dr8 a b :: stp8 (b :: r)
theorem stp8_length : ∀ l : List P7, (stp8 l).length = l.length - 1
  | [] => rfl
  | [_] => rfl
  | a :: b :: r => by have := stp8_length (b :: r); simp only [stp8, List.length_cons] at *; omega
theorem stp8_at : ∀ (l : List P7) (j : Nat) (h : j + 1 < l.length), (stp8 l)[j]? = some (dr8 l[j] l[j + 1])
  | [], j, h => absurd h (by simp)
  | [_], j, h => absurd h (by simp)
  | a :: b :: r, 0, h => rfl
  | a :: b :: r, j + 1, h => by
    have := stp8_at (b :: r) j (by simpa using h)
    simpa [stp8] using this
theorem stp8_ds : ∀ l : List P7, Ds8 (stp8 l)
  | [] => fun x h => by cases h
  | [_] => fun x h => by cases h
  | a :: b :: r => fun x h => by
    rcases List.mem_cons.1 h with rfl | h
    · exact dr8_in a b
    · exact stp8_ds (b :: r) x h
def nr8 (a b : P7) : Bool := decide (max (b.x - a.x) (-(b.x - a.x)) ≤ 120) && decide (max (b.y - a.y) (-(b.y - a.y)) ≤ 120)
def cls8 (l : List P7) : Bool := decide (4 ≤ l.length) && nr8 (l.getD 0 ⟨0, 0⟩) (l.getD (l.length - 1) ⟨0, 0⟩)
def fea8 (l : List P7) : F8 := ⟨l, stp8 l, cls8 l⟩
def lk8 (ds : List Dt) (L : List Nat) : F8 := fea8 (L.map (pt8 ds))
set_option maxRecDepth 100000 in
set_option maxHeartbeats 8000000 in
theorem near8_any (a b : P7) (w : World) (ha : a.ok) (hb0 : b.ok) : Yl 88 #[p7v a, p7v b] w (.bool (nr8 a b)) := by
  have hx : Sm8 (b.x - a.x) := by unfold P7.ok at ha hb0; unfold Sm8; omega
  have hy : Sm8 (b.y - a.y) := by unfold P7.ok at ha hb0; unfold Sm8; omega
  have hv : nr8 a b = (decide (max (b.x - a.x) (-(b.x - a.x)) ≤ 120) && decide (max (b.y - a.y) (-(b.y - a.y)) ≤ 120)) := rfl
  obtain ⟨x, hx0⟩ : ∃ x, x = b.x - a.x := ⟨_, rfl⟩
  obtain ⟨y, hy0⟩ : ∃ y, y = b.y - a.y := ⟨_, rfl⟩
  rw [← hx0] at hx hv
  rw [← hy0] at hy hv
  have e1 : IntKind.i64.wrap (b.x - a.x) = x := by rw [← hx0]; exact IntWalk.i64_in _ (by unfold Sm8 at hx; omega)
  have e2 : IntKind.i64.wrap (b.y - a.y) = y := by rw [← hy0]; exact IntWalk.i64_in _ (by unfold Sm8 at hy; omega)
  have HX := Lib.hid (fun W => size8_any x W hx); have HY := Lib.hid (fun W => size8_any y W hy)
  obtain ⟨p, hp⟩ : ∃ p, p = max x (-x) := ⟨_, rfl⟩
  obtain ⟨q, hq⟩ : ∃ q, q = max y (-y) := ⟨_, rfl⟩
  rw [← hp] at HX hv
  rw [← hq] at HY hv
  clear hx hy hx0 hy0 hp hq ha hb0
  by_cases h1 : p ≤ 120
  case neg =>
    rw [hv, decide_eq_false h1, Bool.false_and]
    have hundef := un_none
    clear hv
    have S_0 : Hid (Blk ((w.alloc (.cells #[.int .i64 a.x, .int .i64 a.y] 28)).alloc (.cells #[.int .i64 b.x, .int .i64 b.y] 28)) w.heap.size 28 #[.int .i64 a.x, .int .i64 a.y]) := allocs_blk [(#[.int .i64 a.x, .int .i64 a.y], 28), (#[.int .i64 b.x, .int .i64 b.y], 28)] w 0 _ rfl
    have T_0 : Hid (Blk ((w.alloc (.cells #[.int .i64 a.x, .int .i64 a.y] 28)).alloc (.cells #[.int .i64 b.x, .int .i64 b.y] 28)) (w.heap.size + 1) 28 #[.int .i64 b.x, .int .i64 b.y]) := allocs_blk [(#[.int .i64 a.x, .int .i64 a.y], 28), (#[.int .i64 b.x, .int .i64 b.y], 28)] w 1 _ rfl
    have HB_0 : Hid (Below w.heap.size w ((w.alloc (.cells #[.int .i64 a.x, .int .i64 a.y] 28)).alloc (.cells #[.int .i64 b.x, .int .i64 b.y] 28))) := allocs_below [(#[.int .i64 a.x, .int .i64 a.y], 28), (#[.int .i64 b.x, .int .i64 b.y], 28)] w (Below.refl w.heap.size w) (Nat.le_refl _)
    go_enter Tryd.func88, Tryd.ntmps88
    have yy0 := S_0.out.cell (i := 0) (v := .int .i64 a.x) rfl; have yy1 := S_0.out.cell (i := 1) (v := .int .i64 a.y) rfl
    have yy2 := T_0.out.cell (i := 0) (v := .int .i64 b.x) rfl; have yy3 := T_0.out.cell (i := 1) (v := .int .i64 b.y) rfl
    go_wp2_with fail
    refine (HX.out _).mono ?_
    rintro e v0 ⟨rfl, hb⟩
    clear yy0 yy1 yy2 yy3
    have S_1 : Hid (Blk v0 w.heap.size 28 #[.int .i64 a.x, .int .i64 a.y]) := Lib.hid (S_0.out.below hb S_0.out.lt)
    have T_1 : Hid (Blk v0 (w.heap.size + 1) 28 #[.int .i64 b.x, .int .i64 b.y]) := Lib.hid (T_0.out.below hb T_0.out.lt)
    have HB_1 : Hid (Below w.heap.size w v0) := Lib.hid (HB_0.out.trans (hb.mono HB_0.out.size))
    clear hb S_0 T_0 HB_0
    go_wp2_with fail
    go_ret
    exact ⟨rfl, HB_1.out⟩
  case pos =>
    rw [hv, decide_eq_true h1, Bool.true_and]
    clear hv
    have S_0 : Hid (Blk ((w.alloc (.cells #[.int .i64 a.x, .int .i64 a.y] 28)).alloc (.cells #[.int .i64 b.x, .int .i64 b.y] 28)) w.heap.size 28 #[.int .i64 a.x, .int .i64 a.y]) := allocs_blk [(#[.int .i64 a.x, .int .i64 a.y], 28), (#[.int .i64 b.x, .int .i64 b.y], 28)] w 0 _ rfl
    have T_0 : Hid (Blk ((w.alloc (.cells #[.int .i64 a.x, .int .i64 a.y] 28)).alloc (.cells #[.int .i64 b.x, .int .i64 b.y] 28)) (w.heap.size + 1) 28 #[.int .i64 b.x, .int .i64 b.y]) := allocs_blk [(#[.int .i64 a.x, .int .i64 a.y], 28), (#[.int .i64 b.x, .int .i64 b.y], 28)] w 1 _ rfl
    have HB_0 : Hid (Below w.heap.size w ((w.alloc (.cells #[.int .i64 a.x, .int .i64 a.y] 28)).alloc (.cells #[.int .i64 b.x, .int .i64 b.y] 28))) := allocs_below [(#[.int .i64 a.x, .int .i64 a.y], 28), (#[.int .i64 b.x, .int .i64 b.y], 28)] w (Below.refl w.heap.size w) (Nat.le_refl _)
    go_enter Tryd.func88, Tryd.ntmps88
    have yy0 := S_0.out.cell (i := 0) (v := .int .i64 a.x) rfl; have yy1 := S_0.out.cell (i := 1) (v := .int .i64 a.y) rfl
    have yy2 := T_0.out.cell (i := 0) (v := .int .i64 b.x) rfl; have yy3 := T_0.out.cell (i := 1) (v := .int .i64 b.y) rfl
    go_wp2_with fail
    refine (HX.out _).mono ?_
    rintro e v0 ⟨rfl, hb⟩
    clear yy0 yy1 yy2 yy3
    have S_1 : Hid (Blk v0 w.heap.size 28 #[.int .i64 a.x, .int .i64 a.y]) := Lib.hid (S_0.out.below hb S_0.out.lt)
    have T_1 : Hid (Blk v0 (w.heap.size + 1) 28 #[.int .i64 b.x, .int .i64 b.y]) := Lib.hid (T_0.out.below hb T_0.out.lt)
    have HB_1 : Hid (Below w.heap.size w v0) := Lib.hid (HB_0.out.trans (hb.mono HB_0.out.size))
    clear hb S_0 T_0 HB_0
    have yy0 := S_1.out.cell (i := 0) (v := .int .i64 a.x) rfl; have yy1 := S_1.out.cell (i := 1) (v := .int .i64 a.y) rfl
    have yy2 := T_1.out.cell (i := 0) (v := .int .i64 b.x) rfl; have yy3 := T_1.out.cell (i := 1) (v := .int .i64 b.y) rfl
    go_wp2_with fail
    refine (HY.out _).mono ?_
    rintro e v1 ⟨rfl, hb⟩
    clear yy0 yy1 yy2 yy3
    have S_2 : Hid (Blk v1 w.heap.size 28 #[.int .i64 a.x, .int .i64 a.y]) := Lib.hid (S_1.out.below hb S_1.out.lt)
    have T_2 : Hid (Blk v1 (w.heap.size + 1) 28 #[.int .i64 b.x, .int .i64 b.y]) := Lib.hid (T_1.out.below hb T_1.out.lt)
    have HB_2 : Hid (Below w.heap.size w v1) := Lib.hid (HB_1.out.trans (hb.mono HB_1.out.size))
    clear hb S_1 T_1 HB_1
    go_wp2_with fail
    go_ret
    exact ⟨rfl, HB_2.out⟩
/-- Rows of places and of ints in memory. -/
def pc8 (n : Nat) (f : Nat → P7) : List Value := (List.range (n * 2)).map fun m => .int .i64 (if m % 2 = 0 then (f (m / 2)).x else (f (m / 2)).y)
def ic8 (n : Nat) (f : Nat → Int) : List Value := (List.range n).map fun k => .int .i64 (f k)
theorem pc8_x {n k : Nat} {f : Nat → P7} (h : k < n) : (pc8 n f).toArray[k * 2]? = some (.int .i64 (f k).x) := by
  rw [List.getElem?_toArray]; unfold pc8
  rw [List.getElem?_map, List.getElem?_range (by omega)]
  simp only [Option.map_some, show k * 2 % 2 = 0 from by omega, show k * 2 / 2 = k from by omega, if_pos]
theorem pc8_y {n k : Nat} {f : Nat → P7} (h : k < n) : (pc8 n f).toArray[k * 2 + 1]? = some (.int .i64 (f k).y) := by
  rw [List.getElem?_toArray]; unfold pc8
  rw [List.getElem?_map, List.getElem?_range (by omega)]
  simp only [Option.map_some, show (k * 2 + 1) % 2 = 1 from by omega, show (k * 2 + 1) / 2 = k from by omega]
  simp
theorem ic8_at {n k : Nat} {f : Nat → Int} (h : k < n) : (ic8 n f).toArray[k]? = some (.int .i64 (f k)) := by
  rw [List.getElem?_toArray]; unfold ic8
  rw [List.getElem?_map, List.getElem?_range h]; rfl
theorem pc8_congr {n : Nat} {f h : Nat → P7} (e : ∀ k, k < n → f k = h k) : pc8 n f = pc8 n h := List.map_congr_left fun m hm => by rw [e (m / 2) (by have := List.mem_range.1 hm; omega)]
theorem ic8_congr {n : Nat} {f h : Nat → Int} (e : ∀ k, k < n → f k = h k) : ic8 n f = ic8 n h := List.map_congr_left fun m hm => by rw [e m (List.mem_range.1 hm)]
theorem pc8_set {n k : Nat} (f : Nat → P7) (p : P7) (hk : k < n) : ((pc8 n f).toArray.setIfInBounds (k * 2) (.int .i64 p.x)).setIfInBounds (k * 2 + 1) (.int .i64 p.y) = (pc8 n (fun j => if j = k then p else f j)).toArray := by
  rw [List.setIfInBounds_toArray, List.setIfInBounds_toArray]
  congr 1
  apply List.ext_getElem?
  intro m
  unfold pc8
  rw [List.getElem?_set, List.getElem?_set]
  simp only [List.length_set, List.length_map, List.length_range]
  by_cases hm : m < n * 2
  · rw [List.getElem?_map, List.getElem?_map, List.getElem?_range hm]
    by_cases h1 : k * 2 + 1 = m
    · rw [if_pos h1, if_pos (by omega)]
      simp only [Option.map_some, show m % 2 = 1 from by omega, show m / 2 = k from by omega]
      simp
    · rw [if_neg h1]
      by_cases h2 : k * 2 = m
      · rw [if_pos h2, if_pos (by omega)]
        simp only [Option.map_some, show m % 2 = 0 from by omega, show m / 2 = k from by omega, if_pos]
      · rw [if_neg h2]
        simp only [Option.map_some, if_neg (show ¬ m / 2 = k by omega)]
  · rw [List.getElem?_eq_none (by simp; omega)]
    split
    · omega
    · split
      · omega
      · rw [List.getElem?_eq_none (by simp; omega)]
theorem ic8_set {n k : Nat} (f : Nat → Int) (v : Int) (hk : k < n) : (ic8 n f).toArray.setIfInBounds k (.int .i64 v) = (ic8 n (fun j => if j = k then v else f j)).toArray := by
  rw [List.setIfInBounds_toArray]
  congr 1
  apply List.ext_getElem?
  intro m
  unfold ic8
  rw [List.getElem?_set]
  simp only [List.length_map, List.length_range]
  by_cases hm : m < n
  · rw [List.getElem?_map, List.getElem?_map, List.getElem?_range hm]
    by_cases h1 : k = m
    · rw [if_pos h1, if_pos (by omega)]
      simp only [Option.map_some, if_pos h1.symm]
    · rw [if_neg h1]
      simp only [Option.map_some, if_neg (show ¬ m = k by omega)]
  · rw [List.getElem?_eq_none (by simp; omega)]
    split
    · omega
    · rw [List.getElem?_eq_none (by simp; omega)]
theorem Pw8.store {w : World} {p n k : Nat} {f : Nat → P7} (h : Blk w p 28 (pc8 n f).toArray) (d : P7) (hk : k < n) : Blk ((w.setCell ⟨p, k * 2, none⟩ (.int .i64 d.x)).setCell ⟨p, k * 2 + 1, none⟩ (.int .i64 d.y)) p 28 (pc8 n (fun j => if j = k then d else f j)).toArray := by
  have h2 := (Blk.set h (k * 2) (.int .i64 d.x)).set (k * 2 + 1) (.int .i64 d.y)
  rwa [pc8_set f d hk] at h2
theorem Iw8.store {w : World} {p n k : Nat} {f : Nat → Int} (h : Blk w p 3 (ic8 n f).toArray) (v : Int) (hk : k < n) : Blk (w.setCell ⟨p, k, none⟩ (.int .i64 v)) p 3 (ic8 n (fun j => if j = k then v else f j)).toArray := by
  have h2 := Blk.set h k (.int .i64 v)
  rwa [ic8_set f v hk] at h2
theorem Pw8.reads {w : World} {p : Nat} {f : Nat → P7} {l : List P7} (h : Blk w p 28 (pc8 l.length f).toArray) (hf : ∀ j (hj : j < l.length), f j = l[j]) : Pz w (some ⟨p, 0, none⟩) l := fun _ => ⟨p, 0, rfl, h.lt, fun i hi j v hv => by
  have h0 := h.cell (i := i * 2) (pc8_x hi); have h1 := h.cell (i := i * 2 + 1) (pc8_y hi)
  rw [hf i hi] at h0 h1
  match j, hv with
  | 0, hv =>
    obtain rfl : Value.int .i64 l[i].x = v := by simpa [p7c] using hv
    rw [show 0 + i * 2 + 0 = i * 2 by omega]; exact h0
  | 1, hv =>
    obtain rfl : Value.int .i64 l[i].y = v := by simpa [p7c] using hv
    rw [show 0 + i * 2 + 1 = i * 2 + 1 by omega]; exact h1
  | j + 2, hv => simp [p7c] at hv⟩
theorem Iw8.reads {w : World} {p : Nat} {f : Nat → Int} {l : List Int} (h : Blk w p 3 (ic8 l.length f).toArray) (hf : ∀ j (hj : j < l.length), f j = l[j]) : Iz w (some ⟨p, 0, none⟩) l := fun _ => ⟨p, 0, rfl, h.lt, fun i hi => by
  have h0 := h.cell (i := i) (ic8_at hi)
  rw [hf i hi] at h0
  rw [Nat.zero_add]; exact h0⟩
/-- A feature in memory, in blocks from B on. -/
abbrev PB8 (w : World) (p : Nat) (l : List P7) : Prop := Blk w p 28 (pc8 l.length (fun j => l.getD j ⟨0, 0⟩)).toArray
abbrev IB8 (w : World) (q : Nat) (l : List Int) : Prop := Blk w q 3 (ic8 l.length (fun j => l.getD j 0)).toArray
def Fz8 (w : World) (B : Nat) (v : Value) (F : F8) : Prop := ∃ p q : Nat, v = .agg #[.slice (some ⟨p, 0, none⟩) F.ps.length F.ps.length, .slice (some ⟨q, 0, none⟩) F.ss.length F.ss.length, .bool F.cl] ∧ (B ≤ p ∧ B ≤ q) ∧ PB8 w p F.ps ∧ IB8 w q F.ss
theorem Fz8.below {w w' : World} {v : Value} {F : F8} {B B2 : Nat} (h : Fz8 w B v F) (hb : Below B2 w w') (hB : w.heap.size ≤ B2) : Fz8 w' B v F := by
  obtain ⟨p, q, e, h0, h1, h2⟩ := h
  exact ⟨p, q, e, h0, h1.below hb (Nat.lt_of_lt_of_le h1.lt hB), h2.below hb (Nat.lt_of_lt_of_le h2.lt hB)⟩
theorem Fz8.far {w : World} {v : Value} {F : F8} {B k : Nat} (h : Fz8 w B v F) (hk : k < B) (i : Nat) (u : Value) : Fz8 (w.setCell ⟨k, i, none⟩ u) B v F := by
  obtain ⟨p, q, e, h0, h1, h2⟩ := h
  exact ⟨p, q, e, h0, h1.far (p := ⟨k, i, none⟩) (by show p ≠ k; omega) u, h2.far (p := ⟨k, i, none⟩) (by show q ≠ k; omega) u⟩
theorem Fz8.base {w : World} {v : Value} {F : F8} {B B2 : Nat} (h : Fz8 w B v F) (hk : B2 ≤ B) : Fz8 w B2 v F := by
  obtain ⟨p, q, e, h0, h1, h2⟩ := h
  exact ⟨p, q, e, by omega, h1, h2⟩
theorem PB8.reads {w : World} {p : Nat} {l : List P7} (h : PB8 w p l) : Pz w (some ⟨p, 0, none⟩) l := Pw8.reads h (fun j hj => by simp [List.getElem?_eq_getElem hj])
theorem IB8.reads {w : World} {p : Nat} {l : List Int} (h : IB8 w p l) : Iz w (some ⟨p, 0, none⟩) l := Iw8.reads h (fun j hj => by simp [List.getElem?_eq_getElem hj])
theorem fp_step {Q : Nat → P7} {i : Nat} {x : P7} (hx : x = Q i) (j : Nat) : (if j = i then x else (fun j => if j < i then Q j else ⟨0, 0⟩) j) = (fun j => if j < i + 1 then Q j else ⟨0, 0⟩) j := by
  show (if j = i then x else if j < i then Q j else ⟨0, 0⟩) = if j < i + 1 then Q j else ⟨0, 0⟩
  by_cases hj : j = i
  · rw [if_pos hj, if_pos (by omega), hj, hx]
  · rw [if_neg hj]
    by_cases hj2 : j < i
    · rw [if_pos hj2, if_pos (by omega)]
    · rw [if_neg hj2, if_neg (by omega)]
theorem fs_step {Q : Nat → P7} {i j : Nat} {x y : P7} (hj : i = j + 1) (hx : x = Q i) (hy : y = Q j) (t : Nat) : (if t = j then dr8 y x else (fun j => if j + 1 < i then dr8 (Q j) (Q (j + 1)) else 0) t) = (fun j => if j + 1 < i + 1 then dr8 (Q j) (Q (j + 1)) else 0) t := by
  show (if t = j then dr8 y x else if t + 1 < i then dr8 (Q t) (Q (t + 1)) else 0) = if t + 1 < i + 1 then dr8 (Q t) (Q (t + 1)) else 0
  by_cases h : t = j
  · rw [if_pos h, if_pos (by omega), h, hx, hy, hj]
  · rw [if_neg h]
    by_cases h2 : t + 1 < i
    · rw [if_pos h2, if_pos (by omega)]
    · rw [if_neg h2, if_neg (by omega)]
theorem info_place8 : (Tryd.prog.info? 28).map (fun i => (i.zero, i.size, i.bytes)) = some (some (.agg #[.int .i64 0, .int .i64 0]), 2, 16) := by kernel_rfl
theorem run_make_places (n : Nat) (hn : n ≤ 100000) (w : World) :
    (Instr.makeSlice 46 (.int .i64 (n : Nat)) (.int .i64 (n : Nat))).run Tryd.prog w = .ok (.slice (some ⟨w.heap.size, 0, none⟩) n n) (w.alloc (.cells (pc8 n (fun _ => ⟨0, 0⟩)).toArray 28)) := by
  obtain ⟨i, hi, hz, hs, hb⟩ := info_of info_place8
  have h := run_make (P := Tryd.prog) w 46 28 i (.agg #[.int .i64 0, .int .i64 0]) Tryd.underlying46 hi hz .i64 .i64 n n (by omega) (by omega) (by rw [hb]; omega) (by omega)
  rw [hs] at h
  simp only [Int.toNat_natCast] at h
  have e : madeCells (Value.agg #[.int .i64 0, .int .i64 0]).cells (n * 2) = (pc8 n (fun _ => ⟨0, 0⟩)).toArray := by
    apply Array.ext
    · simp [madeCells, pc8]
    · intro j h1 h2
      have h3 : j % 2 = 0 ∨ j % 2 = 1 := by omega
      rcases h3 with h3 | h3 <;> simp [madeCells, Value.cells, pc8, h3]
  rw [e] at h
  exact h
theorem run_make_ints8 (n : Nat) (hn : n ≤ 100000) (w : World) :
    (Instr.makeSlice 23 (.int .i64 (n : Nat)) (.int .i64 (n : Nat))).run Tryd.prog w = .ok (.slice (some ⟨w.heap.size, 0, none⟩) n n) (w.alloc (.cells (ic8 n (fun _ => 0)).toArray 3)) := by
  have h := run_make_ints 23 Tryd.underlying23 n n (Nat.le_refl _) hn w
  rw [show zc n = (ic8 n (fun _ => 0)).toArray from by
    unfold zc ic8
    refine congrArg List.toArray ?_
    apply List.ext_getElem
    · simp
    · intro j h1 h2; simp [iv]] at h
  exact h
set_option maxRecDepth 100000 in
set_option maxHeartbeats 16000000 in
theorem featureof8_any (P N : Int) (ds : List Dt) (L : List Nat) (A B : Option Addr) (c d : Nat) (w : World) (hA : Dz w A ds) (hB0 : Iz w B (L.map Int.ofNat)) (hl : 1 ≤ L.length ∧ L.length ≤ 200) (hin : ∀ k ∈ L, k < ds.length) (hd : ds.length ≤ 200) (hon : ∀ x ∈ ds, x.ok) (hT : Cp8 w) :
    Calls Tryd.prog 55 #[.agg #[.int .i64 P, .int .i64 N, .slice A ds.length c], .slice B L.length d] w fun e w' => (∃ v, e = .returned v ∧ Fz8 w' w.heap.size v (lk8 ds L)) ∧ Below w.heap.size w w' := by
  obtain ⟨n, hn⟩ : ∃ n, n = L.length := ⟨_, rfl⟩
  obtain ⟨m, hm⟩ : ∃ m, m = n - 1 := ⟨_, rfl⟩
  have hk0 : 0 < ds.length := by
    have := hin (L[0]'(by omega)) (List.getElem_mem _); omega
  obtain ⟨b, o, rfl⟩ := hA.some hk0
  obtain ⟨bk, ok, rfl, hbk, hkc⟩ := hB0 (by rw [List.length_map]; omega)
  obtain ⟨Q, hQ⟩ : ∃ Q : Nat → P7, Q = fun j => pt8 ds (L.getD j 0) := ⟨_, rfl⟩
  obtain ⟨K, hK⟩ : ∃ K : Nat → Nat, K = fun j => L.getD j 0 := ⟨_, rfl⟩
  have HQL : Hid (∀ j (hj : j < L.length), Q j = (L.map (pt8 ds))[j]'(by rw [List.length_map]; exact hj)) := Lib.hid (fun j hj => by rw [hQ, List.getElem_map]; simp only [List.getD_eq_getElem?_getD, List.getElem?_eq_getElem hj, Option.getD_some])
  have HQO : Hid (∀ j, j < n → (Q j).ok) := Lib.hid (fun j hj => by
    have h1 := hin (L[j]'(by omega)) (List.getElem_mem _)
    have h2 := (hon (ds[L[j]'(by omega)]) (List.getElem_mem _)).1
    rw [hQ]
    simp only [pt8, List.getD_eq_getElem?_getD, List.getElem?_eq_getElem (show j < L.length by omega), Option.getD_some, List.getElem?_eq_getElem h1, P7.ok]
    omega)
  have HCE : Hid (∀ W, Below w.heap.size w W → ∀ j (hj : j < n), W.cell? ⟨bk, ok + j, none⟩ = some (.int .i64 ((K j : Nat) : Int)) ∧ ((K j : Nat) : Int) < (ds.length : Int) ∧ W.cell? ⟨b, o + K j * 4, none⟩ = some (.int .i64 (Q j).x) ∧ W.cell? ⟨b, o + K j * 4 + 1, none⟩ = some (.int .i64 (Q j).y)) := Lib.hid (fun W hW j hj => by
    have h1 := hin (L[j]'(by omega)) (List.getElem_mem _)
    have hkj : K j = L[j]'(by omega) := by rw [hK]; simp only [List.getD_eq_getElem?_getD, List.getElem?_eq_getElem (show j < L.length by omega), Option.getD_some]
    rw [hkj]
    refine ⟨?_, by omega, ?_, ?_⟩
    · have h2 := hkc j (by rw [List.length_map]; omega)
      rw [List.getElem_map] at h2
      exact (hW.cell (p := ⟨bk, ok + j, none⟩) hbk).trans h2
    · have h2 := (hA.at W hW (L[j]'(by omega)) h1).1
      rw [h2, hQ]
      simp only [pt8, List.getD_eq_getElem?_getD, List.getElem?_eq_getElem (show j < L.length by omega), Option.getD_some, List.getElem?_eq_getElem h1]
    · have h2 := (hA.at W hW (L[j]'(by omega)) h1).2.1
      rw [h2, hQ]
      simp only [pt8, List.getD_eq_getElem?_getD, List.getElem?_eq_getElem (show j < L.length by omega), Option.getD_some, List.getElem?_eq_getElem h1])
  have HT : Hid (∀ W, Below w.heap.size w W → Cp8 W) := Lib.hid (fun W hW => hT.below hW (Nat.le_refl _))
  have HN := Lib.hid hn
  have n1 : 1 ≤ n := by omega
  have n2 : n ≤ 200 := by omega
  have n3 : n = m + 1 := by omega
  have HNN : Hid (1 ≤ n ∧ n ≤ 200 ∧ n = m + 1) := Lib.hid ⟨n1, n2, n3⟩
  have HDL := Lib.hid hd
  have e1 : IntKind.i64.wrap ((n : Int) - 1) = (m : Int) := by rw [show (m : Int) = (n : Int) - 1 by omega]; exact IntWalk.i64_in _ (by omega)
  rw [← hn]
  clear hA hB0 hl hin hd hon hT hn hm hQ hK hbk hkc hk0 n1 n2 n3
  have S_0 : Hid (Blk ((w.alloc (.cells #[.int .i64 P, .int .i64 N, .slice (some ⟨b, o, none⟩) ds.length c] 26)).alloc (.cells #[.slice none 0 0, .slice none 0 0, .bool false] 48)) w.heap.size 26 #[.int .i64 P, .int .i64 N, .slice (some ⟨b, o, none⟩) ds.length c]) := allocs_blk [(#[.int .i64 P, .int .i64 N, .slice (some ⟨b, o, none⟩) ds.length c], 26), (#[.slice none 0 0, .slice none 0 0, .bool false], 48)] w 0 _ rfl
  have Z_0 : Hid (Blk ((w.alloc (.cells #[.int .i64 P, .int .i64 N, .slice (some ⟨b, o, none⟩) ds.length c] 26)).alloc (.cells #[.slice none 0 0, .slice none 0 0, .bool false] 48)) (w.heap.size + 1) 48 #[.slice none 0 0, .slice none 0 0, .bool false]) := allocs_blk [(#[.int .i64 P, .int .i64 N, .slice (some ⟨b, o, none⟩) ds.length c], 26), (#[.slice none 0 0, .slice none 0 0, .bool false], 48)] w 1 _ rfl
  have HB_0 : Hid (Below w.heap.size w ((w.alloc (.cells #[.int .i64 P, .int .i64 N, .slice (some ⟨b, o, none⟩) ds.length c] 26)).alloc (.cells #[.slice none 0 0, .slice none 0 0, .bool false] 48))) := allocs_below [(#[.int .i64 P, .int .i64 N, .slice (some ⟨b, o, none⟩) ds.length c], 26), (#[.slice none 0 0, .slice none 0 0, .bool false], 48)] w (Below.refl w.heap.size w) (Nat.le_refl _)
  go_enter Tryd.func55, Tryd.ntmps55
  go_upto_region 1 with fail
  go_cut [5, 6] from 10 to 16 (fun v5 v6 wx => ∃ p q : Nat, v5 = .slice (some ⟨p, 0, none⟩) n n ∧ v6 = .slice (some ⟨q, 0, none⟩) m m ∧ Blk wx p 28 (pc8 n (fun _ => ⟨0, 0⟩)).toArray ∧ Blk wx q 3 (ic8 m (fun _ => 0)).toArray ∧ p ≠ q ∧ (w.heap.size + 1 < p ∧ w.heap.size + 1 < q) ∧ Below ((w.alloc (.cells #[.int .i64 P, .int .i64 N, .slice (some ⟨b, o, none⟩) ds.length c] 26)).alloc (.cells #[.slice none 0 0, .slice none 0 0, .bool false] 48)).heap.size ((w.alloc (.cells #[.int .i64 P, .int .i64 N, .slice (some ⟨b, o, none⟩) ds.length c] 26)).alloc (.cells #[.slice none 0 0, .slice none 0 0, .bool false] 48)) wx)
  case first =>
    have HM1 := Lib.hid (fun W => run_make_places n (by have := HNN.out; omega) W); have HM2 := Lib.hid (fun W => run_make_ints8 m (by have := HNN.out; omega) W)
    have hs0 : ((w.alloc (.cells #[.int .i64 P, .int .i64 N, .slice (some ⟨b, o, none⟩) ds.length c] 26)).alloc (.cells #[.slice none 0 0, .slice none 0 0, .bool false] 48)).heap.size = w.heap.size + 2 := by simp
    refine wp_region_grow (S := (fun w' => True)) ((fun w' => Below ((w.alloc (.cells #[.int .i64 P, .int .i64 N, .slice (some ⟨b, o, none⟩) ds.length c] 26)).alloc (.cells #[.slice none 0 0, .slice none 0 0, .bool false] 48)).heap.size ((w.alloc (.cells #[.int .i64 P, .int .i64 N, .slice (some ⟨b, o, none⟩) ds.length c] 26)).alloc (.cells #[.slice none 0 0, .slice none 0 0, .bool false] 48)) w')) (by kernel_rfl) (⟨fun w2 h2 => trivial, fun w2 w3 h2 hb2 => h2.trans (hb2.mono h2.size)⟩) ((Below.refl _ _).drew) (fun hCalm => ?_)
    refine grow_take 0 (some 10) ?_ rfl rfl (by kernel_rfl) (fun _ _ _ h => h) (by kernel_rfl) hCalm ?_ ?_
    rotate_left
    · intro wS hS; (try dsimp only at hS); go_simp <;> with_reducible rfl
    try simp only [Act.put, List.setIfInBounds_toArray, List.set_cons_zero, List.set_cons_succ]
    refine grow_take 1 (some 11) ?_ rfl rfl (by kernel_rfl) (fun _ _ _ h => h) (by kernel_rfl) hCalm ?_ ?_
    rotate_left
    · intro wS hS; (try dsimp only at hS); go_simp <;> with_reducible rfl
    try simp only [Act.put, List.setIfInBounds_toArray, List.set_cons_zero, List.set_cons_succ]
    refine grow_take 3 (some 13) ?_ rfl rfl (by kernel_rfl) (fun _ _ _ h => h) (by kernel_rfl) hCalm ?_ ?_
    rotate_left
    · intro wS hS; (try dsimp only at hS); go_simp <;> with_reducible rfl
    try simp only [Act.put, List.setIfInBounds_toArray, List.set_cons_zero, List.set_cons_succ]
    refine grow_take 4 (some 14) ?_ rfl rfl (by kernel_rfl) (fun _ _ _ h => h) (by kernel_rfl) hCalm ?_ ?_
    rotate_left
    · intro wS hS; (try dsimp only at hS); go_simp <;> with_reducible rfl
    try simp only [Act.put, List.setIfInBounds_toArray, List.set_cons_zero, List.set_cons_succ]
    refine grow_take 5 (some 15) (.int .i64 (m : Int)) rfl rfl (by kernel_rfl) (fun _ _ _ h => h) (by kernel_rfl) hCalm ?_ ?_
    · intro wS hS; (try dsimp only at hS); go_simp
      all_goals (rw [e1])
    try simp only [Act.put, List.setIfInBounds_toArray, List.set_cons_zero, List.set_cons_succ]
    refine grow_each [2, 6] (by kernel_rfl) (by decide) ?_
    refine grow_cons 2 rfl (by kernel_rfl) (fun wA hA K hK => ?_) ?_
    case _ =>
     obtain ⟨pX, hpX⟩ : ∃ b, b = wA.heap.size := ⟨_, rfl⟩
     have le_pX : ((w.alloc (.cells #[.int .i64 P, .int .i64 N, .slice (some ⟨b, o, none⟩) ds.length c] 26)).alloc (.cells #[.slice none 0 0, .slice none 0 0, .bool false] 48)).heap.size ≤ pX := by rw [hpX]; exact hA.size
     have hnew : Blk (wA.alloc (.cells (pc8 n (fun _ => ⟨0, 0⟩)).toArray 28)) pX 28 (pc8 n (fun _ => ⟨0, 0⟩)).toArray := by rw [hpX]; exact Blk.new wA _ _
     have hmk1 := HM1.out wA
     go_simp
     rw [← hpX]
     refine grow_new hK hCalm hA hnew (fun h9 => ?_)
     clear hCalm hnew hpX hK K hA hmk1 wA; have hCalm := h9; clear h9
     try simp only [Act.put, List.setIfInBounds_toArray, List.set_cons_zero, List.set_cons_succ]
     refine grow_take 7 (some 5) ?_ rfl rfl (by kernel_rfl) (fun _ _ _ h => h) (by kernel_rfl) hCalm ?_ ?_
     rotate_left
     · intro wS hS; (try dsimp only at hS); go_simp <;> with_reducible rfl
     try simp only [Act.put, List.setIfInBounds_toArray, List.set_cons_zero, List.set_cons_succ]
     refine grow_each [6] (by kernel_rfl) (by decide) ?_
     refine grow_cons 6 rfl (by kernel_rfl) (fun wA hA K hK => ?_) grow_nil
     obtain ⟨pY, hpY⟩ : ∃ b, b = wA.heap.size := ⟨_, rfl⟩
     have le_pY : ((w.alloc (.cells #[.int .i64 P, .int .i64 N, .slice (some ⟨b, o, none⟩) ds.length c] 26)).alloc (.cells #[.slice none 0 0, .slice none 0 0, .bool false] 48)).heap.size ≤ pY := by rw [hpY]; exact hA.1.size
     have lt_X_pY : pX < pY := by rw [hpY]; exact hA.2.lt
     have hnew : Blk (wA.alloc (.cells (ic8 m (fun _ => 0)).toArray 3)) pY 3 (ic8 m (fun _ => 0)).toArray := by rw [hpY]; exact Blk.new wA _ _
     have hmk1 := HM2.out wA
     go_simp
     rw [← hpY]
     refine grow_new hK hCalm hA hnew (fun h9 => ?_)
     clear hCalm hnew hpY hK K hA hmk1 wA; have hCalm := h9; clear h9
     try simp only [Act.put, List.setIfInBounds_toArray, List.set_cons_zero, List.set_cons_succ]
     refine grow_take 8 (some 6) ?_ rfl rfl (by kernel_rfl) (fun _ _ _ h => h) (by kernel_rfl) hCalm ?_ ?_
     rotate_left
     · intro wS hS; (try dsimp only at hS); go_simp <;> with_reducible rfl
     try simp only [Act.put, List.setIfInBounds_toArray, List.set_cons_zero, List.set_cons_succ]
     refine grow_done (by kernel_rfl) (fun wA hA => ?_) _
     have hx := hA.1.2; have hy := hA.2; have hb := hA.1.1
     clear hA hCalm
     go_wp2_with fail
     go_meet
     exact ⟨pX, pY, rfl, rfl, hx, hy, Nat.ne_of_lt lt_X_pY, ⟨by rw [hs0] at le_pX; omega, by rw [hs0] at le_pY; omega⟩, hb⟩
    refine grow_cons 6 rfl (by kernel_rfl) (fun wA hA K hK => ?_) ?_
    case _ =>
     obtain ⟨pY, hpY⟩ : ∃ b, b = wA.heap.size := ⟨_, rfl⟩
     have le_pY : ((w.alloc (.cells #[.int .i64 P, .int .i64 N, .slice (some ⟨b, o, none⟩) ds.length c] 26)).alloc (.cells #[.slice none 0 0, .slice none 0 0, .bool false] 48)).heap.size ≤ pY := by rw [hpY]; exact hA.size
     have hnew : Blk (wA.alloc (.cells (ic8 m (fun _ => 0)).toArray 3)) pY 3 (ic8 m (fun _ => 0)).toArray := by rw [hpY]; exact Blk.new wA _ _
     have hmk1 := HM2.out wA
     go_simp
     rw [← hpY]
     refine grow_new hK hCalm hA hnew (fun h9 => ?_)
     clear hCalm hnew hpY hK K hA hmk1 wA; have hCalm := h9; clear h9
     try simp only [Act.put, List.setIfInBounds_toArray, List.set_cons_zero, List.set_cons_succ]
     refine grow_each [2] (by kernel_rfl) (by decide) ?_
     refine grow_cons 2 rfl (by kernel_rfl) (fun wA hA K hK => ?_) grow_nil
     obtain ⟨pX, hpX⟩ : ∃ b, b = wA.heap.size := ⟨_, rfl⟩
     have le_pX : ((w.alloc (.cells #[.int .i64 P, .int .i64 N, .slice (some ⟨b, o, none⟩) ds.length c] 26)).alloc (.cells #[.slice none 0 0, .slice none 0 0, .bool false] 48)).heap.size ≤ pX := by rw [hpX]; exact hA.1.size
     have lt_Y_pX : pY < pX := by rw [hpX]; exact hA.2.lt
     have hnew : Blk (wA.alloc (.cells (pc8 n (fun _ => ⟨0, 0⟩)).toArray 28)) pX 28 (pc8 n (fun _ => ⟨0, 0⟩)).toArray := by rw [hpX]; exact Blk.new wA _ _
     have hmk1 := HM1.out wA
     go_simp
     rw [← hpX]
     refine grow_new hK hCalm hA hnew (fun h9 => ?_)
     clear hCalm hnew hpX hK K hA hmk1 wA; have hCalm := h9; clear h9
     try simp only [Act.put, List.setIfInBounds_toArray, List.set_cons_zero, List.set_cons_succ]
     refine grow_take 7 (some 5) ?_ rfl rfl (by kernel_rfl) (fun _ _ _ h => h) (by kernel_rfl) hCalm ?_ ?_
     rotate_left
     · intro wS hS; (try dsimp only at hS); go_simp <;> with_reducible rfl
     try simp only [Act.put, List.setIfInBounds_toArray, List.set_cons_zero, List.set_cons_succ]
     refine grow_take 8 (some 6) ?_ rfl rfl (by kernel_rfl) (fun _ _ _ h => h) (by kernel_rfl) hCalm ?_ ?_
     rotate_left
     · intro wS hS; (try dsimp only at hS); go_simp <;> with_reducible rfl
     try simp only [Act.put, List.setIfInBounds_toArray, List.set_cons_zero, List.set_cons_succ]
     refine grow_done (by kernel_rfl) (fun wA hA => ?_) _
     have hx := hA.2; have hy := hA.1.2; have hb := hA.1.1
     clear hA hCalm
     go_wp2_with fail
     go_meet
     exact ⟨pX, pY, rfl, rfl, hx, hy, (Nat.ne_of_lt lt_Y_pX).symm, ⟨by rw [hs0] at le_pX; omega, by rw [hs0] at le_pY; omega⟩, hb⟩
    exact grow_nil
  case rest =>
    obtain ⟨p, q, rfl, rfl, hp, hq, hne, hpq, hb⟩ := hcut
    rename World => wc
    have HP := Lib.hid hp; have HQ := Lib.hid hq; have HNE := Lib.hid hne; have HPQ := Lib.hid hpq; have HB := Lib.hid hb
    clear hp hq hne hpq hb e1
    go_wp2_with fail
    have HS0 : Hid (((w.alloc (.cells #[.int .i64 P, .int .i64 N, .slice (some ⟨b, o, none⟩) ds.length c] 26)).alloc (.cells #[.slice none 0 0, .slice none 0 0, .bool false] 48)).heap.size = w.heap.size + 2) := Lib.hid (by simp)
    go_loopw [19] (fun ii wr => ∃ i : Nat, ii = .int .i64 i ∧ i ≤ n ∧ Blk wr p 28 (pc8 n (fun j => if j < i then Q j else ⟨0, 0⟩)).toArray ∧ Blk wr q 3 (ic8 m (fun j => if j + 1 < i then dr8 (Q j) (Q (j + 1)) else 0)).toArray ∧ Below ((w.alloc (.cells #[.int .i64 P, .int .i64 N, .slice (some ⟨b, o, none⟩) ds.length c] 26)).alloc (.cells #[.slice none 0 0, .slice none 0 0, .bool false] 48)).heap.size ((w.alloc (.cells #[.int .i64 P, .int .i64 N, .slice (some ⟨b, o, none⟩) ds.length c] 26)).alloc (.cells #[.slice none 0 0, .slice none 0 0, .bool false] 48)) wr) (fun ii _ => n - (intOf ii).toNat)
    case atStart => exact ⟨0, rfl, Nat.zero_le _, by rw [pc8_congr (h := fun _ => ⟨0, 0⟩) (fun k _ => if_neg (Nat.not_lt_zero k))]; exact HP.out, by rw [ic8_congr (h := fun _ => 0) (fun k _ => if_neg (Nat.not_lt_zero (k + 1)))]; exact HQ.out, HB.out⟩
    case round =>
      clear HP HQ HB
      obtain ⟨i, rfl, hi, hp, hq, hB⟩ := hrel
      rename World => wr
      have HP := Lib.hid hp; have HQ := Lib.hid hq; have HB := Lib.hid hB; clear hp hq hB
      have HBW : Hid (Below w.heap.size w wr) := Lib.hid (HB_0.out.trans (HB.out.mono HB_0.out.size))
      by_cases hlt : i < n
      case pos =>
        have hce := fun W (hW : Below wr.heap.size wr W) => HCE.out W (HBW.out.trans (hW.mono HBW.out.size)) i hlt
        obtain ⟨k, hk⟩ : ∃ k, k = K i := ⟨_, rfl⟩
        simp only [← hk] at hce
        obtain ⟨k0, k1, k2, k3⟩ := hce wr (Below.refl _ _)
        have HK : Hid (∀ W, Below wr.heap.size wr W → W.cell? ⟨b, o + k * 4, none⟩ = some (.int .i64 (Q i).x) ∧ W.cell? ⟨b, o + k * 4 + 1, none⟩ = some (.int .i64 (Q i).y)) := Lib.hid (fun W hW => (hce W hW).2.2)
        clear hce hk
        have HQI := Lib.hid (HQO.out i hlt)
        obtain ⟨x, hx⟩ : ∃ x, x = Q i := ⟨_, rfl⟩
        have HX := Lib.hid hx
        rw [← hx] at HK HQI
        have q1 : (0 : Int) ≤ (i : Int) := by omega
        have q2 : (i : Int) < (n : Int) := by omega
        have q3 : (0 : Int) ≤ (k : Int) := by omega
        have q5 : (i : Int) ≤ 9223372036854775806 := by have := HNN.out; omega
        have HI := Lib.hid hlt
        clear hx k2 k3 hi
        go_wp2_with fail
        clear k0
        refine wp_region_goes (Sp := fun _ => True) (Se := (fun w' => w'.cell? ⟨w.heap.size, 2, none⟩ = some (.slice (some ⟨b, o, none⟩) ds.length c) ∧ w'.cell? ⟨b, o + k * 4, none⟩ = some (.int .i64 x.x) ∧ w'.cell? ⟨b, o + k * 4 + 1, none⟩ = some (.int .i64 x.y))) (Z := (([16] : List Nat).contains ·)) (by kernel_rfl) ?_
        have hw : Holds (fun _ => True) (fun w' => w'.cell? ⟨w.heap.size, 2, none⟩ = some (.slice (some ⟨b, o, none⟩) ds.length c) ∧ w'.cell? ⟨b, o + k * 4, none⟩ = some (.int .i64 x.x) ∧ w'.cell? ⟨b, o + k * 4 + 1, none⟩ = some (.int .i64 x.y)) (([16] : List Nat).contains ·) (Array.replicate 17 false) wr.drew := ⟨trivial, fun _ => ⟨(S_0.out.below HB.out.drew S_0.out.lt).cell (i := 2) rfl, (HK.out _ ((Below.refl wr.heap.size wr).drew)).1, (HK.out _ ((Below.refl wr.heap.size wr).drew)).2⟩⟩
        refine goes_take (t := [(16, [0, 1, 2, 3, 4, 5, 6, 7, 8, 9, 10, 11, 12, 13, 14, 15])]) (es := [3, 7, 9, 13]) (zs := [16]) 0 (some 24) ?_ (by kernel_rfl) rfl rfl (by kernel_rfl) (fun _ _ _ h => h) (by kernel_rfl) ?_ hw (fun hw2 => ?_)
        rotate_left
        · intro wS hS; clear hS; go_simp <;> with_reducible rfl
        clear hw; have hw := hw2; clear hw2
        try simp only [Act.put, List.setIfInBounds_toArray, List.set_cons_zero, List.set_cons_succ]
        refine goes_take (t := [(16, [0, 1, 2, 3, 4, 5, 6, 7, 8, 9, 10, 11, 12, 13, 14, 15])]) (es := [3, 7, 9, 13]) (zs := [16]) 1 (some 25) ?_ (by kernel_rfl) rfl rfl (by kernel_rfl) (fun _ _ _ h => h) (by kernel_rfl) ?_ hw (fun hw2 => ?_)
        rotate_left
        · intro wS hS; clear hS; go_simp <;> with_reducible rfl
        clear hw; have hw := hw2; clear hw2
        try simp only [Act.put, List.setIfInBounds_toArray, List.set_cons_zero, List.set_cons_succ]
        refine goes_take (t := [(16, [0, 1, 2, 3, 4, 5, 6, 7, 8, 9, 10, 11, 12, 13, 14, 15])]) (es := [3, 7, 9, 13]) (zs := [16]) 2 (some 26) ?_ (by kernel_rfl) rfl rfl (by kernel_rfl) (fun _ _ _ h => h) (by kernel_rfl) ?_ hw (fun hw2 => ?_)
        rotate_left
        · intro wS hS; clear hS; go_simp <;> with_reducible rfl
        clear hw; have hw := hw2; clear hw2
        try simp only [Act.put, List.setIfInBounds_toArray, List.set_cons_zero, List.set_cons_succ]
        refine goes_take (t := [(16, [0, 1, 2, 3, 4, 5, 6, 7, 8, 9, 10, 11, 12, 13, 14, 15])]) (es := [3, 7, 9, 13]) (zs := [16]) 3 (some 27) ?_ (by kernel_rfl) rfl rfl (by kernel_rfl) (fun _ _ _ h => h) (by kernel_rfl) ?_ hw (fun hw2 => ?_)
        rotate_left
        · intro wS hS; have hE := hS.2 rfl; clear hS; (try dsimp only at hE); go_simp <;> with_reducible rfl
        clear hw; have hw := hw2; clear hw2
        try simp only [Act.put, List.setIfInBounds_toArray, List.set_cons_zero, List.set_cons_succ]
        refine goes_take (t := [(16, [0, 1, 2, 3, 4, 5, 6, 7, 8, 9, 10, 11, 12, 13, 14, 15])]) (es := [3, 7, 9, 13]) (zs := [16]) 4 (some 28) ?_ (by kernel_rfl) rfl rfl (by kernel_rfl) (fun _ _ _ h => h) (by kernel_rfl) ?_ hw (fun hw2 => ?_)
        rotate_left
        · intro wS hS; clear hS; go_simp <;> with_reducible rfl
        clear hw; have hw := hw2; clear hw2
        try simp only [Act.put, List.setIfInBounds_toArray, List.set_cons_zero, List.set_cons_succ]
        refine goes_take (t := [(16, [0, 1, 2, 3, 4, 5, 6, 7, 8, 9, 10, 11, 12, 13, 14, 15])]) (es := [3, 7, 9, 13]) (zs := [16]) 5 (some 29) ?_ (by kernel_rfl) rfl rfl (by kernel_rfl) (fun _ _ _ h => h) (by kernel_rfl) ?_ hw (fun hw2 => ?_)
        rotate_left
        · intro wS hS; clear hS; go_simp <;> with_reducible rfl
        clear hw; have hw := hw2; clear hw2
        try simp only [Act.put, List.setIfInBounds_toArray, List.set_cons_zero, List.set_cons_succ]
        refine goes_take (t := [(16, [0, 1, 2, 3, 4, 5, 6, 7, 8, 9, 10, 11, 12, 13, 14, 15])]) (es := [3, 7, 9, 13]) (zs := [16]) 6 (some 30) ?_ (by kernel_rfl) rfl rfl (by kernel_rfl) (fun _ _ _ h => h) (by kernel_rfl) ?_ hw (fun hw2 => ?_)
        rotate_left
        · intro wS hS; clear hS; go_simp <;> with_reducible rfl
        clear hw; have hw := hw2; clear hw2
        try simp only [Act.put, List.setIfInBounds_toArray, List.set_cons_zero, List.set_cons_succ]
        refine goes_take (t := [(16, [0, 1, 2, 3, 4, 5, 6, 7, 8, 9, 10, 11, 12, 13, 14, 15])]) (es := [3, 7, 9, 13]) (zs := [16]) 7 (some 31) ?_ (by kernel_rfl) rfl rfl (by kernel_rfl) (fun _ _ _ h => h) (by kernel_rfl) ?_ hw (fun hw2 => ?_)
        rotate_left
        · intro wS hS; have hE := hS.2 rfl; clear hS; (try dsimp only at hE); go_simp <;> with_reducible rfl
        clear hw; have hw := hw2; clear hw2
        try simp only [Act.put, List.setIfInBounds_toArray, List.set_cons_zero, List.set_cons_succ]
        refine goes_take (t := [(16, [0, 1, 2, 3, 4, 5, 6, 7, 8, 9, 10, 11, 12, 13, 14, 15])]) (es := [3, 7, 9, 13]) (zs := [16]) 8 (some 32) ?_ (by kernel_rfl) rfl rfl (by kernel_rfl) (fun _ _ _ h => h) (by kernel_rfl) ?_ hw (fun hw2 => ?_)
        rotate_left
        · intro wS hS; clear hS; go_simp <;> with_reducible rfl
        clear hw; have hw := hw2; clear hw2
        try simp only [Act.put, List.setIfInBounds_toArray, List.set_cons_zero, List.set_cons_succ]
        refine goes_take (t := [(16, [0, 1, 2, 3, 4, 5, 6, 7, 8, 9, 10, 11, 12, 13, 14, 15])]) (es := [3, 7, 9, 13]) (zs := [16]) 9 (some 33) ?_ (by kernel_rfl) rfl rfl (by kernel_rfl) (fun _ _ _ h => h) (by kernel_rfl) ?_ hw (fun hw2 => ?_)
        rotate_left
        · intro wS hS; have hE := hS.2 rfl; clear hS; (try dsimp only at hE); go_simp <;> with_reducible rfl
        clear hw; have hw := hw2; clear hw2
        try simp only [Act.put, List.setIfInBounds_toArray, List.set_cons_zero, List.set_cons_succ]
        refine goes_take (t := [(16, [0, 1, 2, 3, 4, 5, 6, 7, 8, 9, 10, 11, 12, 13, 14, 15])]) (es := [3, 7, 9, 13]) (zs := [16]) 10 (some 34) ?_ (by kernel_rfl) rfl rfl (by kernel_rfl) (fun _ _ _ h => h) (by kernel_rfl) ?_ hw (fun hw2 => ?_)
        rotate_left
        · intro wS hS; clear hS; go_simp <;> with_reducible rfl
        clear hw; have hw := hw2; clear hw2
        try simp only [Act.put, List.setIfInBounds_toArray, List.set_cons_zero, List.set_cons_succ]
        refine goes_take (t := [(16, [0, 1, 2, 3, 4, 5, 6, 7, 8, 9, 10, 11, 12, 13, 14, 15])]) (es := [3, 7, 9, 13]) (zs := [16]) 11 (some 35) ?_ (by kernel_rfl) rfl rfl (by kernel_rfl) (fun _ _ _ h => h) (by kernel_rfl) ?_ hw (fun hw2 => ?_)
        rotate_left
        · intro wS hS; clear hS; go_simp <;> with_reducible rfl
        clear hw; have hw := hw2; clear hw2
        try simp only [Act.put, List.setIfInBounds_toArray, List.set_cons_zero, List.set_cons_succ]
        refine goes_take (t := [(16, [0, 1, 2, 3, 4, 5, 6, 7, 8, 9, 10, 11, 12, 13, 14, 15])]) (es := [3, 7, 9, 13]) (zs := [16]) 12 (some 36) ?_ (by kernel_rfl) rfl rfl (by kernel_rfl) (fun _ _ _ h => h) (by kernel_rfl) ?_ hw (fun hw2 => ?_)
        rotate_left
        · intro wS hS; clear hS; go_simp <;> with_reducible rfl
        clear hw; have hw := hw2; clear hw2
        try simp only [Act.put, List.setIfInBounds_toArray, List.set_cons_zero, List.set_cons_succ]
        refine goes_take (t := [(16, [0, 1, 2, 3, 4, 5, 6, 7, 8, 9, 10, 11, 12, 13, 14, 15])]) (es := [3, 7, 9, 13]) (zs := [16]) 13 (some 37) ?_ (by kernel_rfl) rfl rfl (by kernel_rfl) (fun _ _ _ h => h) (by kernel_rfl) ?_ hw (fun hw2 => ?_)
        rotate_left
        · intro wS hS; have hE := hS.2 rfl; clear hS; (try dsimp only at hE); go_simp <;> with_reducible rfl
        clear hw; have hw := hw2; clear hw2
        try simp only [Act.put, List.setIfInBounds_toArray, List.set_cons_zero, List.set_cons_succ]
        refine goes_take (t := [(16, [0, 1, 2, 3, 4, 5, 6, 7, 8, 9, 10, 11, 12, 13, 14, 15])]) (es := [3, 7, 9, 13]) (zs := [16]) 14 (some 38) ?_ (by kernel_rfl) rfl rfl (by kernel_rfl) (fun _ _ _ h => h) (by kernel_rfl) ?_ hw (fun hw2 => ?_)
        rotate_left
        · intro wS hS; clear hS; go_simp <;> with_reducible rfl
        clear hw; have hw := hw2; clear hw2
        try simp only [Act.put, List.setIfInBounds_toArray, List.set_cons_zero, List.set_cons_succ]
        refine goes_take (t := [(16, [0, 1, 2, 3, 4, 5, 6, 7, 8, 9, 10, 11, 12, 13, 14, 15])]) (es := [3, 7, 9, 13]) (zs := [16]) 15 (some 39) ?_ (by kernel_rfl) rfl rfl (by kernel_rfl) (fun _ _ _ h => h) (by kernel_rfl) ?_ hw (fun hw2 => ?_)
        rotate_left
        · intro wS hS; clear hS; go_simp <;> with_reducible rfl
        clear hw; have hw := hw2; clear hw2
        try simp only [Act.put, List.setIfInBounds_toArray, List.set_cons_zero, List.set_cons_succ]
        refine goes_late 16 rfl (by kernel_rfl) (by kernel_rfl) (by kernel_rfl) (fun _ => trivial) (fun K hK => ?_)
        have y0 := HP.out.drew.cell (i := i * 2) (v := .int .i64 0) (by have h := pc8_x (n := n) (f := (fun j => if j < i then Q j else ⟨0, 0⟩)) hlt; rwa [if_neg (Nat.lt_irrefl i)] at h); have y1 := HP.out.drew.cell (i := i * 2 + 1) (v := .int .i64 0) (by have h := pc8_y (n := n) (f := (fun j => if j < i then Q j else ⟨0, 0⟩)) hlt; rwa [if_neg (Nat.lt_irrefl i)] at h); have y2 := HP.out.drew.frozen (i * 2); have y3 := HP.out.drew.frozen (i * 2 + 1)
        have y4 : wr.cell? ⟨p, i * 2 + 1, none⟩ = some (.int .i64 0) := y1; have y5 : wr.frozen? ⟨p, i * 2 + 1, none⟩ = false := y3; have y6 : wr.cell? ⟨p, i * 2, none⟩ = some (.int .i64 0) := y0; have y7 : wr.frozen? ⟨p, i * 2, none⟩ = false := y2
        go_simp
        refine hK.out _ _ ?_
        clear hK K
        try simp only [Act.put]
        refine Goes.done (by kernel_rfl) ?_ _
        clear y0 y1 y2 y3 y4 y5 y6 y7 hw
        have NP0 := Pw8.store (k := i) HP.out x HI.out
        have NP : Hid (Blk ((wr.setCell ⟨p, i * 2, none⟩ (.int .i64 x.x)).setCell ⟨p, i * 2 + 1, none⟩ (.int .i64 x.y)).drew p 28 (pc8 n (fun j => if j < i + 1 then Q j else ⟨0, 0⟩)).toArray) := Lib.hid (by rw [pc8_congr (h := (fun j => if j < i + 1 then Q j else ⟨0, 0⟩)) (fun j _ => fp_step HX.out j)] at NP0; exact NP0.drew)
        have NQ : Hid (Blk ((wr.setCell ⟨p, i * 2, none⟩ (.int .i64 x.x)).setCell ⟨p, i * 2 + 1, none⟩ (.int .i64 x.y)).drew q 3 (ic8 m (fun j => if j + 1 < i then dr8 (Q j) (Q (j + 1)) else 0)).toArray) := Lib.hid ((HQ.out.far (p := ⟨p, i * 2, none⟩) (Ne.symm HNE.out) _).far (p := ⟨p, i * 2 + 1, none⟩) (Ne.symm HNE.out) _).drew
        have NB : Hid (Below ((w.alloc (.cells #[.int .i64 P, .int .i64 N, .slice (some ⟨b, o, none⟩) ds.length c] 26)).alloc (.cells #[.slice none 0 0, .slice none 0 0, .bool false] 48)).heap.size ((w.alloc (.cells #[.int .i64 P, .int .i64 N, .slice (some ⟨b, o, none⟩) ds.length c] 26)).alloc (.cells #[.slice none 0 0, .slice none 0 0, .bool false] 48)) ((wr.setCell ⟨p, i * 2, none⟩ (.int .i64 x.x)).setCell ⟨p, i * 2 + 1, none⟩ (.int .i64 x.y)).drew) := Lib.hid ((HB.out.setCell (p := ⟨p, i * 2, none⟩) (by have := HPQ.out.1; have := HS0.out; show ((w.alloc (.cells #[.int .i64 P, .int .i64 N, .slice (some ⟨b, o, none⟩) ds.length c] 26)).alloc (.cells #[.slice none 0 0, .slice none 0 0, .bool false] 48)).heap.size ≤ p; omega) _).setCell (p := ⟨p, i * 2 + 1, none⟩) (by have := HPQ.out.1; have := HS0.out; show ((w.alloc (.cells #[.int .i64 P, .int .i64 N, .slice (some ⟨b, o, none⟩) ds.length c] 26)).alloc (.cells #[.slice none 0 0, .slice none 0 0, .bool false] 48)).heap.size ≤ p; omega) _).drew
        clear NP0 HP HQ HB HBW HK
        by_cases h0 : 0 < i
        case neg =>
          have h0b : ¬ (0 : Int) < (i : Int) := by omega
          have H0 := Lib.hid h0; clear h0
          go_wp2_with fail
          go_roundw
          case rel => exact ⟨i + 1, by go_num, HI.out, NP.out, by rw [ic8_congr (h := (fun j => if j + 1 < i then dr8 (Q j) (Q (j + 1)) else 0)) (fun j _ => by have := H0.out; rw [if_neg (by omega), if_neg (by omega)])]; exact NQ.out, NB.out⟩
          case measure => have := HI.out; simp [intOf]; omega
        case pos =>
          have h0b : (0 : Int) < (i : Int) := by omega
          obtain ⟨j, hj⟩ : ∃ j, j = i - 1 := ⟨_, rfl⟩
          have hji : i = j + 1 := by omega
          have HJ := Lib.hid hji
          have e2 : IntKind.i64.wrap ((i : Int) - 1) = (j : Int) := by rw [show (j : Int) = (i : Int) - 1 by omega]; exact IntWalk.i64_in _ (by omega)
          obtain ⟨y, hy⟩ : ∃ y, y = Q j := ⟨_, rfl⟩
          have HY := Lib.hid hy
          have HYO : Hid (y.ok) := Lib.hid (by rw [hy]; exact HQO.out j (by omega))
          have r1 : (0 : Int) ≤ (j : Int) := by omega
          have r2 : (j : Int) < (n : Int) := by omega
          have r3 : (j : Int) < (m : Int) := by have := HNN.out; omega
          have HJM : Hid (j < m) := Lib.hid (by omega)
          have z0 := NP.out.cell (i := j * 2) (v := .int .i64 y.x) (by have h := pc8_x (n := n) (f := (fun j => if j < i + 1 then Q j else ⟨0, 0⟩)) (k := j) (by omega); rwa [if_pos (by omega), ← hy] at h); have z1 := NP.out.cell (i := j * 2 + 1) (v := .int .i64 y.y) (by have h := pc8_y (n := n) (f := (fun j => if j < i + 1 then Q j else ⟨0, 0⟩)) (k := j) (by omega); rwa [if_pos (by omega), ← hy] at h)
          have z2 := NP.out.cell (i := i * 2) (v := .int .i64 x.x) (by have h := pc8_x (n := n) (f := (fun j => if j < i + 1 then Q j else ⟨0, 0⟩)) (k := i) hlt; rwa [if_pos (by omega), ← HX.out] at h); have z3 := NP.out.cell (i := i * 2 + 1) (v := .int .i64 x.y) (by have h := pc8_y (n := n) (f := (fun j => if j < i + 1 then Q j else ⟨0, 0⟩)) (k := i) hlt; rwa [if_pos (by omega), ← HX.out] at h)
          have HZ : Hid (∀ W, Below ((wr.setCell ⟨p, i * 2, none⟩ (.int .i64 x.x)).setCell ⟨p, i * 2 + 1, none⟩ (.int .i64 x.y)).drew.heap.size ((wr.setCell ⟨p, i * 2, none⟩ (.int .i64 x.x)).setCell ⟨p, i * 2 + 1, none⟩ (.int .i64 x.y)).drew W → W.cell? ⟨p, j * 2, none⟩ = some (.int .i64 y.x) ∧ W.cell? ⟨p, j * 2 + 1, none⟩ = some (.int .i64 y.y) ∧ W.cell? ⟨p, i * 2, none⟩ = some (.int .i64 x.x) ∧ W.cell? ⟨p, i * 2 + 1, none⟩ = some (.int .i64 x.y)) := Lib.hid (fun W hW => ⟨(hW.cell (p := ⟨p, j * 2, none⟩) NP.out.lt).trans z0, (hW.cell (p := ⟨p, j * 2 + 1, none⟩) NP.out.lt).trans z1, (hW.cell (p := ⟨p, i * 2, none⟩) NP.out.lt).trans z2, (hW.cell (p := ⟨p, i * 2 + 1, none⟩) NP.out.lt).trans z3⟩)
          clear z0 z1 z2 z3 hy hj hji h0
          have HND : Hid (Below w.heap.size w ((wr.setCell ⟨p, i * 2, none⟩ (.int .i64 x.x)).setCell ⟨p, i * 2 + 1, none⟩ (.int .i64 x.y)).drew) := Lib.hid (HB_0.out.trans (NB.out.mono HB_0.out.size))
          have HDI := Lib.hid (direction8_any y x _ HYO.out HQI.out (HT.out _ HND.out.drew))
          go_wp2_with fail
          refine wp_region_goes (Sp := fun _ => True) (Se := (fun w' => w'.cell? ⟨p, j * 2, none⟩ = some (.int .i64 y.x) ∧ w'.cell? ⟨p, j * 2 + 1, none⟩ = some (.int .i64 y.y) ∧ w'.cell? ⟨p, i * 2, none⟩ = some (.int .i64 x.x) ∧ w'.cell? ⟨p, i * 2 + 1, none⟩ = some (.int .i64 x.y))) (Z := (([14] : List Nat).contains ·)) (by kernel_rfl) ?_
          have hw : Holds (fun _ => True) (fun w' => w'.cell? ⟨p, j * 2, none⟩ = some (.int .i64 y.x) ∧ w'.cell? ⟨p, j * 2 + 1, none⟩ = some (.int .i64 y.y) ∧ w'.cell? ⟨p, i * 2, none⟩ = some (.int .i64 x.x) ∧ w'.cell? ⟨p, i * 2 + 1, none⟩ = some (.int .i64 x.y)) (([14] : List Nat).contains ·) (Array.replicate 15 false) ((wr.setCell ⟨p, i * 2, none⟩ (.int .i64 x.x)).setCell ⟨p, i * 2 + 1, none⟩ (.int .i64 x.y)).drew.drew := ⟨trivial, fun _ => ⟨(HZ.out _ ((Below.refl ((wr.setCell ⟨p, i * 2, none⟩ (.int .i64 x.x)).setCell ⟨p, i * 2 + 1, none⟩ (.int .i64 x.y)).drew.heap.size ((wr.setCell ⟨p, i * 2, none⟩ (.int .i64 x.x)).setCell ⟨p, i * 2 + 1, none⟩ (.int .i64 x.y)).drew).drew)).1, (HZ.out _ ((Below.refl ((wr.setCell ⟨p, i * 2, none⟩ (.int .i64 x.x)).setCell ⟨p, i * 2 + 1, none⟩ (.int .i64 x.y)).drew.heap.size ((wr.setCell ⟨p, i * 2, none⟩ (.int .i64 x.x)).setCell ⟨p, i * 2 + 1, none⟩ (.int .i64 x.y)).drew).drew)).2.1, (HZ.out _ ((Below.refl ((wr.setCell ⟨p, i * 2, none⟩ (.int .i64 x.x)).setCell ⟨p, i * 2 + 1, none⟩ (.int .i64 x.y)).drew.heap.size ((wr.setCell ⟨p, i * 2, none⟩ (.int .i64 x.x)).setCell ⟨p, i * 2 + 1, none⟩ (.int .i64 x.y)).drew).drew)).2.2.1, (HZ.out _ ((Below.refl ((wr.setCell ⟨p, i * 2, none⟩ (.int .i64 x.x)).setCell ⟨p, i * 2 + 1, none⟩ (.int .i64 x.y)).drew.heap.size ((wr.setCell ⟨p, i * 2, none⟩ (.int .i64 x.x)).setCell ⟨p, i * 2 + 1, none⟩ (.int .i64 x.y)).drew).drew)).2.2.2⟩⟩
          refine goes_take (t := [(14, [0, 1, 2, 3, 4, 5, 6, 7, 8, 9, 10, 11, 12, 13])]) (es := [7, 11]) (zs := [14]) 0 (some 42) ?_ (by kernel_rfl) rfl rfl (by kernel_rfl) (fun _ _ _ h => h) (by kernel_rfl) ?_ hw (fun hw2 => ?_)
          rotate_left
          · intro wS hS; clear hS; go_simp <;> with_reducible rfl
          clear hw; have hw := hw2; clear hw2
          try simp only [Act.put, List.setIfInBounds_toArray, List.set_cons_zero, List.set_cons_succ]
          refine goes_take (t := [(14, [0, 1, 2, 3, 4, 5, 6, 7, 8, 9, 10, 11, 12, 13])]) (es := [7, 11]) (zs := [14]) 1 (some 43) ?_ (by kernel_rfl) rfl rfl (by kernel_rfl) (fun _ _ _ h => h) (by kernel_rfl) ?_ hw (fun hw2 => ?_)
          rotate_left
          · intro wS hS; clear hS; go_simp <;> with_reducible rfl
          clear hw; have hw := hw2; clear hw2
          try simp only [Act.put, List.setIfInBounds_toArray, List.set_cons_zero, List.set_cons_succ]
          refine goes_take (t := [(14, [0, 1, 2, 3, 4, 5, 6, 7, 8, 9, 10, 11, 12, 13])]) (es := [7, 11]) (zs := [14]) 2 (some 44) (.int .i64 (j : Int)) (by kernel_rfl) rfl rfl (by kernel_rfl) (fun _ _ _ h => h) (by kernel_rfl) ?_ hw (fun hw2 => ?_)
          · intro wS hS; clear hS; go_simp
            all_goals (rw [e2])
          clear hw; have hw := hw2; clear hw2
          try simp only [Act.put, List.setIfInBounds_toArray, List.set_cons_zero, List.set_cons_succ]
          refine goes_take (t := [(14, [0, 1, 2, 3, 4, 5, 6, 7, 8, 9, 10, 11, 12, 13])]) (es := [7, 11]) (zs := [14]) 3 (some 45) ?_ (by kernel_rfl) rfl rfl (by kernel_rfl) (fun _ _ _ h => h) (by kernel_rfl) ?_ hw (fun hw2 => ?_)
          rotate_left
          · intro wS hS; clear hS; go_simp <;> with_reducible rfl
          clear hw; have hw := hw2; clear hw2
          try simp only [Act.put, List.setIfInBounds_toArray, List.set_cons_zero, List.set_cons_succ]
          refine goes_take (t := [(14, [0, 1, 2, 3, 4, 5, 6, 7, 8, 9, 10, 11, 12, 13])]) (es := [7, 11]) (zs := [14]) 4 (some 46) ?_ (by kernel_rfl) rfl rfl (by kernel_rfl) (fun _ _ _ h => h) (by kernel_rfl) ?_ hw (fun hw2 => ?_)
          rotate_left
          · intro wS hS; clear hS; go_simp <;> with_reducible rfl
          clear hw; have hw := hw2; clear hw2
          try simp only [Act.put, List.setIfInBounds_toArray, List.set_cons_zero, List.set_cons_succ]
          refine goes_take (t := [(14, [0, 1, 2, 3, 4, 5, 6, 7, 8, 9, 10, 11, 12, 13])]) (es := [7, 11]) (zs := [14]) 5 (some 47) (.int .i64 (j : Int)) (by kernel_rfl) rfl rfl (by kernel_rfl) (fun _ _ _ h => h) (by kernel_rfl) ?_ hw (fun hw2 => ?_)
          · intro wS hS; clear hS; go_simp
            all_goals (rw [e2])
          clear hw; have hw := hw2; clear hw2
          try simp only [Act.put, List.setIfInBounds_toArray, List.set_cons_zero, List.set_cons_succ]
          refine goes_take (t := [(14, [0, 1, 2, 3, 4, 5, 6, 7, 8, 9, 10, 11, 12, 13])]) (es := [7, 11]) (zs := [14]) 6 (some 48) ?_ (by kernel_rfl) rfl rfl (by kernel_rfl) (fun _ _ _ h => h) (by kernel_rfl) ?_ hw (fun hw2 => ?_)
          rotate_left
          · intro wS hS; clear hS; go_simp <;> with_reducible rfl
          clear hw; have hw := hw2; clear hw2
          try simp only [Act.put, List.setIfInBounds_toArray, List.set_cons_zero, List.set_cons_succ]
          refine goes_take (t := [(14, [0, 1, 2, 3, 4, 5, 6, 7, 8, 9, 10, 11, 12, 13])]) (es := [7, 11]) (zs := [14]) 7 (some 49) ?_ (by kernel_rfl) rfl rfl (by kernel_rfl) (fun _ _ _ h => h) (by kernel_rfl) ?_ hw (fun hw2 => ?_)
          rotate_left
          · intro wS hS; have hE := hS.2 rfl; clear hS; (try dsimp only at hE); go_simp <;> with_reducible rfl
          clear hw; have hw := hw2; clear hw2
          try simp only [Act.put, List.setIfInBounds_toArray, List.set_cons_zero, List.set_cons_succ]
          refine goes_take (t := [(14, [0, 1, 2, 3, 4, 5, 6, 7, 8, 9, 10, 11, 12, 13])]) (es := [7, 11]) (zs := [14]) 8 (some 50) ?_ (by kernel_rfl) rfl rfl (by kernel_rfl) (fun _ _ _ h => h) (by kernel_rfl) ?_ hw (fun hw2 => ?_)
          rotate_left
          · intro wS hS; clear hS; go_simp <;> with_reducible rfl
          clear hw; have hw := hw2; clear hw2
          try simp only [Act.put, List.setIfInBounds_toArray, List.set_cons_zero, List.set_cons_succ]
          refine goes_take (t := [(14, [0, 1, 2, 3, 4, 5, 6, 7, 8, 9, 10, 11, 12, 13])]) (es := [7, 11]) (zs := [14]) 9 (some 51) ?_ (by kernel_rfl) rfl rfl (by kernel_rfl) (fun _ _ _ h => h) (by kernel_rfl) ?_ hw (fun hw2 => ?_)
          rotate_left
          · intro wS hS; clear hS; go_simp <;> with_reducible rfl
          clear hw; have hw := hw2; clear hw2
          try simp only [Act.put, List.setIfInBounds_toArray, List.set_cons_zero, List.set_cons_succ]
          refine goes_take (t := [(14, [0, 1, 2, 3, 4, 5, 6, 7, 8, 9, 10, 11, 12, 13])]) (es := [7, 11]) (zs := [14]) 10 (some 52) ?_ (by kernel_rfl) rfl rfl (by kernel_rfl) (fun _ _ _ h => h) (by kernel_rfl) ?_ hw (fun hw2 => ?_)
          rotate_left
          · intro wS hS; clear hS; go_simp <;> with_reducible rfl
          clear hw; have hw := hw2; clear hw2
          try simp only [Act.put, List.setIfInBounds_toArray, List.set_cons_zero, List.set_cons_succ]
          refine goes_take (t := [(14, [0, 1, 2, 3, 4, 5, 6, 7, 8, 9, 10, 11, 12, 13])]) (es := [7, 11]) (zs := [14]) 11 (some 53) ?_ (by kernel_rfl) rfl rfl (by kernel_rfl) (fun _ _ _ h => h) (by kernel_rfl) ?_ hw (fun hw2 => ?_)
          rotate_left
          · intro wS hS; have hE := hS.2 rfl; clear hS; (try dsimp only at hE); go_simp <;> with_reducible rfl
          clear hw; have hw := hw2; clear hw2
          try simp only [Act.put, List.setIfInBounds_toArray, List.set_cons_zero, List.set_cons_succ]
          refine goes_call 12 (some 54) 60 [.tmp 49, .tmp 53] #[28, 28] rfl rfl (by kernel_rfl) (by kernel_rfl) rfl (enters_of Tryd.func60 (by kernel_rfl) rfl) (HDI.out) (by kernel_rfl) ?_
          rintro e wq ⟨rfl, hb⟩
          have hq1 : Below ((wr.setCell ⟨p, i * 2, none⟩ (.int .i64 x.x)).setCell ⟨p, i * 2 + 1, none⟩ (.int .i64 x.y)).drew.heap.size ((wr.setCell ⟨p, i * 2, none⟩ (.int .i64 x.x)).setCell ⟨p, i * 2 + 1, none⟩ (.int .i64 x.y)).drew wq := (Below.refl ((wr.setCell ⟨p, i * 2, none⟩ (.int .i64 x.x)).setCell ⟨p, i * 2 + 1, none⟩ (.int .i64 x.y)).drew.heap.size ((wr.setCell ⟨p, i * 2, none⟩ (.int .i64 x.x)).setCell ⟨p, i * 2 + 1, none⟩ (.int .i64 x.y)).drew).drew.trans (hb.mono (Nat.le_refl _)); clear hb
          refine ⟨_, rfl, ⟨trivial, fun _ => ⟨(HZ.out _ hq1).1, (HZ.out _ hq1).2.1, (HZ.out _ hq1).2.2.1, (HZ.out _ hq1).2.2.2⟩⟩, fun hw2 => ?_⟩
          clear hw; have hw := hw2; clear hw2
          try simp only [Act.put, List.setIfInBounds_toArray, List.set_cons_zero, List.set_cons_succ]
          refine goes_take (t := [(14, [0, 1, 2, 3, 4, 5, 6, 7, 8, 9, 10, 11, 12, 13])]) (es := [7, 11]) (zs := [14]) 13 (some 55) ?_ (by kernel_rfl) rfl rfl (by kernel_rfl) (fun _ _ _ h => h) (by kernel_rfl) ?_ hw (fun hw2 => ?_)
          rotate_left
          · intro wS hS; clear hS; go_simp <;> with_reducible rfl
          clear hw; have hw := hw2; clear hw2
          try simp only [Act.put, List.setIfInBounds_toArray, List.set_cons_zero, List.set_cons_succ]
          refine goes_late 14 rfl (by kernel_rfl) (by kernel_rfl) (by kernel_rfl) (fun _ => trivial) (fun K hK => ?_)
          have y0 := (NQ.out.below hq1 NQ.out.lt).cell (i := j) (v := .int .i64 0) (by have h := ic8_at (n := m) (f := (fun j => if j + 1 < i then dr8 (Q j) (Q (j + 1)) else 0)) (k := j) HJM.out; rwa [if_neg (by have := HJ.out; omega)] at h); have y1 := (NQ.out.below hq1 NQ.out.lt).frozen j
          go_simp
          refine hK.out _ _ ?_
          clear hK K
          try simp only [Act.put]
          refine Goes.done (by kernel_rfl) ?_ _
          clear y0 y1 hw
          have M0 := Iw8.store (k := j) (NQ.out.below hq1 NQ.out.lt) (dr8 y x) HJM.out
          have M1 := (NP.out.below hq1 NP.out.lt).far (p := ⟨q, j, none⟩) HNE.out (.int .i64 (dr8 y x))
          have M2 := (NB.out.trans (hq1.mono NB.out.size)).setCell (p := ⟨q, j, none⟩) (by have := HPQ.out.2; have := HS0.out; show ((w.alloc (.cells #[.int .i64 P, .int .i64 N, .slice (some ⟨b, o, none⟩) ds.length c] 26)).alloc (.cells #[.slice none 0 0, .slice none 0 0, .bool false] 48)).heap.size ≤ q; omega) (.int .i64 (dr8 y x))
          have M0 := Lib.hid M0; have M1 := Lib.hid M1; have M2 := Lib.hid M2; clear hq1
          go_wp2_with fail
          go_roundw
          case rel =>
            refine ⟨i + 1, by go_num, HI.out, M1.out, ?_, M2.out⟩
            have h := M0.out
            rw [ic8_congr (h := (fun j => if j + 1 < i + 1 then dr8 (Q j) (Q (j + 1)) else 0)) (fun t _ => fs_step HJ.out HX.out HY.out t)] at h
            exact h
          case measure => have := HI.out; simp [intOf]; omega
      case neg =>
        obtain rfl : i = n := by omega
        have s1 : ¬ (i : Int) < (i : Int) := by omega
        have HP2 : Hid (Blk wr p 28 (pc8 i Q).toArray) := Lib.hid (by have h := HP.out; rwa [pc8_congr (h := Q) (fun j hj => if_pos hj)] at h)
        have HQ2 : Hid (Blk wr q 3 (ic8 m (fun j => dr8 (Q j) (Q (j + 1)))).toArray) := Lib.hid (by have h := HQ.out; rwa [ic8_congr (h := fun j => dr8 (Q j) (Q (j + 1))) (fun j hj => if_pos (by have := HNN.out; omega))] at h)
        have e1 : IntKind.i64.wrap ((i : Int) - 1) = (m : Int) := by have := HNN.out; rw [show (m : Int) = (i : Int) - 1 by omega]; exact IntWalk.i64_in _ (by omega)
        have HLQ : Hid (∀ cl : Bool, cl = (decide (4 ≤ i) && nr8 (Q 0) (Q m)) → ∀ W, Blk W p 28 (pc8 i Q).toArray → Blk W q 3 (ic8 m (fun j => dr8 (Q j) (Q (j + 1)))).toArray → Fz8 W w.heap.size (.agg #[.slice (some ⟨p, 0, none⟩) i i, .slice (some ⟨q, 0, none⟩) m m, .bool cl]) (lk8 ds L)) := Lib.hid (fun cl hcl W h1 h2 => by
          have hln : (L.map (pt8 ds)).length = i := by rw [List.length_map, ← HN.out]
          have hlm : (stp8 (L.map (pt8 ds))).length = m := by rw [stp8_length, hln]; have := HNN.out; omega
          have hnn := HNN.out
          have hpq := HPQ.out
          refine ⟨p, q, ?_, by omega, ?_, ?_⟩
          · show _ = Value.agg #[.slice _ (L.map (pt8 ds)).length (L.map (pt8 ds)).length, .slice _ (stp8 (L.map (pt8 ds))).length (stp8 (L.map (pt8 ds))).length, .bool (cls8 (L.map (pt8 ds)))]
            rw [hln, hlm, hcl]
            unfold cls8
            rw [hln, List.getD_eq_getElem?_getD, List.getD_eq_getElem?_getD, List.getElem?_eq_getElem (by omega : 0 < (L.map (pt8 ds)).length), List.getElem?_eq_getElem (by omega : i - 1 < (L.map (pt8 ds)).length), Option.getD_some, Option.getD_some, ← HQL.out 0 (by rw [← HN.out]; omega), ← HQL.out (i - 1) (by rw [← HN.out]; omega), show i - 1 = m by omega]
          · show PB8 W p (L.map (pt8 ds))
            unfold PB8
            rw [hln, pc8_congr (h := Q) (fun j hj => by rw [List.getD_eq_getElem?_getD, List.getElem?_eq_getElem (by rw [hln]; exact hj), Option.getD_some, ← HQL.out j (by rw [← HN.out]; exact hj)])]
            exact h1
          · show IB8 W q (stp8 (L.map (pt8 ds)))
            unfold IB8
            rw [hlm, ic8_congr (h := fun j => dr8 (Q j) (Q (j + 1))) (fun j hj => by
              have h3 := stp8_at (L.map (pt8 ds)) j (by omega)
              rw [List.getD_eq_getElem?_getD, h3, Option.getD_some, ← HQL.out j (by rw [← HN.out]; omega), ← HQL.out (j + 1) (by rw [← HN.out]; omega)])]
            exact h2)
        clear HP HQ HCE hlt hi
        go_wp2_with fail
        by_cases h4 : 4 ≤ i
        case pos =>
          have h4b : (4 : Int) ≤ (i : Int) := by omega
          have HNR := Lib.hid (fun W => near8_any (Q 0) (Q m) W (HQO.out 0 (by omega)) (HQO.out m (by have := HNN.out; omega)))
          have HHC : Hid (nr8 (Q 0) (Q m) = (decide (4 ≤ i) && nr8 (Q 0) (Q m))) := Lib.hid (by rw [decide_eq_true h4, Bool.true_and])
          have HC0 : Hid (∀ W, Below wr.heap.size wr W → (W.cell? ⟨p, 0, none⟩ = some (.int .i64 (Q 0).x) ∧ W.cell? ⟨p, 1, none⟩ = some (.int .i64 (Q 0).y)) ∧ W.cell? ⟨p, m * 2, none⟩ = some (.int .i64 (Q m).x) ∧ W.cell? ⟨p, m * 2 + 1, none⟩ = some (.int .i64 (Q m).y)) := Lib.hid (fun W hW => by
            have hb := HP2.out.below hW HP2.out.lt
            have := HNN.out
            have c0 := hb.cell (i := 0 * 2) (pc8_x (k := 0) (by omega)); have c1 := hb.cell (i := 0 * 2 + 1) (pc8_y (k := 0) (by omega))
            exact ⟨⟨by simpa using c0, by simpa using c1⟩, hb.cell (i := m * 2) (pc8_x (by omega)), hb.cell (i := m * 2 + 1) (pc8_y (by omega))⟩)
          have p1 : (0 : Int) ≤ (m : Int) := by omega
          have p2 : (m : Int) < (i : Int) := by have := HNN.out; omega
          have p3 : (0 : Int) < (i : Int) := by omega
          have p4 : 0 < i := by omega
          obtain ⟨qa, hqa⟩ : ∃ x, x = Q 0 := ⟨_, rfl⟩
          obtain ⟨qb, hqb⟩ : ∃ x, x = Q m := ⟨_, rfl⟩
          rw [← hqa, ← hqb] at HNR HHC HC0 HLQ
          generalize nr8 qa qb = cl at *
          clear hqa hqb
          refine wp_region_grow (S := (fun w' => w'.cell? ⟨p, 0, none⟩ = some (.int .i64 qa.x) ∧ w'.cell? ⟨p, 1, none⟩ = some (.int .i64 qa.y) ∧ w'.cell? ⟨p, m * 2, none⟩ = some (.int .i64 qb.x) ∧ w'.cell? ⟨p, m * 2 + 1, none⟩ = some (.int .i64 qb.y))) ((fun w' => Below wr.heap.size wr w')) (by kernel_rfl) (⟨fun w2 h2 => ⟨(HC0.out _ h2).1.1, (HC0.out _ h2).1.2, (HC0.out _ h2).2.1, (HC0.out _ h2).2.2⟩, fun w2 w3 h2 hb2 => h2.trans (hb2.mono h2.size)⟩) ((Below.refl _ _).drew) (fun hCalm => ?_)
          refine grow_take 0 (some 57) ?_ rfl rfl (by kernel_rfl) (fun _ _ _ h => h) (by kernel_rfl) hCalm ?_ ?_
          rotate_left
          · intro wS hS; (try dsimp only at hS); go_simp <;> with_reducible rfl
          try simp only [Act.put, List.setIfInBounds_toArray, List.set_cons_zero, List.set_cons_succ]
          refine grow_take 1 (some 58) ?_ rfl rfl (by kernel_rfl) (fun _ _ _ h => h) (by kernel_rfl) hCalm ?_ ?_
          rotate_left
          · intro wS hS; (try dsimp only at hS); go_simp <;> with_reducible rfl
          try simp only [Act.put, List.setIfInBounds_toArray, List.set_cons_zero, List.set_cons_succ]
          refine grow_take 2 (some 59) (.bool true) rfl rfl (by kernel_rfl) (fun _ _ _ h => h) (by kernel_rfl) hCalm ?_ ?_
          · intro wS hS; (try dsimp only at hS); go_simp
            all_goals omega
          try simp only [Act.put, List.setIfInBounds_toArray, List.set_cons_zero, List.set_cons_succ]
          refine grow_take 3 (some 60) ?_ rfl rfl (by kernel_rfl) (fun _ _ _ h => h) (by kernel_rfl) hCalm ?_ ?_
          rotate_left
          · intro wS hS; (try dsimp only at hS); go_simp <;> with_reducible rfl
          try simp only [Act.put, List.setIfInBounds_toArray, List.set_cons_zero, List.set_cons_succ]
          refine grow_take 4 (some 61) ?_ rfl rfl (by kernel_rfl) (fun _ _ _ h => h) (by kernel_rfl) hCalm ?_ ?_
          rotate_left
          · intro wS hS; (try dsimp only at hS); go_simp <;> with_reducible rfl
          try simp only [Act.put, List.setIfInBounds_toArray, List.set_cons_zero, List.set_cons_succ]
          refine grow_take 5 (some 62) ?_ rfl rfl (by kernel_rfl) (fun _ _ _ h => h) (by kernel_rfl) hCalm ?_ ?_
          rotate_left
          · intro wS hS; (try dsimp only at hS); go_simp <;> with_reducible rfl
          try simp only [Act.put, List.setIfInBounds_toArray, List.set_cons_zero, List.set_cons_succ]
          refine grow_take 6 (some 63) ?_ rfl rfl (by kernel_rfl) (fun _ _ _ h => h) (by kernel_rfl) hCalm ?_ ?_
          rotate_left
          · intro wS hS; (try dsimp only at hS); go_simp <;> with_reducible rfl
          try simp only [Act.put, List.setIfInBounds_toArray, List.set_cons_zero, List.set_cons_succ]
          refine grow_take 7 (some 64) ?_ rfl rfl (by kernel_rfl) (fun _ _ _ h => h) (by kernel_rfl) hCalm ?_ ?_
          rotate_left
          · intro wS hS; (try dsimp only at hS); go_simp <;> with_reducible rfl
          try simp only [Act.put, List.setIfInBounds_toArray, List.set_cons_zero, List.set_cons_succ]
          refine grow_take 8 (some 65) ?_ rfl rfl (by kernel_rfl) (fun _ _ _ h => h) (by kernel_rfl) hCalm ?_ ?_
          rotate_left
          · intro wS hS; (try dsimp only at hS); go_simp <;> with_reducible rfl
          try simp only [Act.put, List.setIfInBounds_toArray, List.set_cons_zero, List.set_cons_succ]
          refine grow_take 9 (some 66) ?_ rfl rfl (by kernel_rfl) (fun _ _ _ h => h) (by kernel_rfl) hCalm ?_ ?_
          rotate_left
          · intro wS hS; (try dsimp only at hS); go_simp <;> with_reducible rfl
          try simp only [Act.put, List.setIfInBounds_toArray, List.set_cons_zero, List.set_cons_succ]
          refine grow_take 10 (some 67) (.int .i64 (m : Int)) rfl rfl (by kernel_rfl) (fun _ _ _ h => h) (by kernel_rfl) hCalm ?_ ?_
          · intro wS hS; (try dsimp only at hS); go_simp
            all_goals (rw [e1])
          try simp only [Act.put, List.setIfInBounds_toArray, List.set_cons_zero, List.set_cons_succ]
          refine grow_take 11 (some 68) ?_ rfl rfl (by kernel_rfl) (fun _ _ _ h => h) (by kernel_rfl) hCalm ?_ ?_
          rotate_left
          · intro wS hS; (try dsimp only at hS); go_simp <;> with_reducible rfl
          try simp only [Act.put, List.setIfInBounds_toArray, List.set_cons_zero, List.set_cons_succ]
          refine grow_take 12 (some 69) ?_ rfl rfl (by kernel_rfl) (fun _ _ _ h => h) (by kernel_rfl) hCalm ?_ ?_
          rotate_left
          · intro wS hS; (try dsimp only at hS); go_simp <;> with_reducible rfl
          try simp only [Act.put, List.setIfInBounds_toArray, List.set_cons_zero, List.set_cons_succ]
          refine grow_call 13 (some 70) (.bool cl) 88 [.tmp 63, .tmp 69] #[28, 28] rfl rfl (by kernel_rfl) (fun _ _ _ h => h) (by kernel_rfl) hCalm rfl (enters_of Tryd.func88 (by kernel_rfl) rfl) (fun wz9 _ => HNR.out wz9) (by kernel_rfl) ?_
          try simp only [Act.put, List.setIfInBounds_toArray, List.set_cons_zero, List.set_cons_succ]
          refine grow_take 14 (some 71) ?_ rfl rfl (by kernel_rfl) (fun _ _ _ h => h) (by kernel_rfl) hCalm ?_ ?_
          rotate_left
          · intro wS hS; (try dsimp only at hS); go_simp <;> with_reducible rfl
          try simp only [Act.put, List.setIfInBounds_toArray, List.set_cons_zero, List.set_cons_succ]
          refine grow_take 15 (some 9) ?_ rfl rfl (by kernel_rfl) (fun _ _ _ h => h) (by kernel_rfl) hCalm ?_ ?_
          rotate_left
          · intro wS hS; (try dsimp only at hS); go_simp <;> with_reducible rfl
          try simp only [Act.put, List.setIfInBounds_toArray, List.set_cons_zero, List.set_cons_succ]
          refine grow_done (by kernel_rfl) (fun wA hA => ?_) _
          have HP3 := Lib.hid (HP2.out.below hA HP2.out.lt); have HQ3 := Lib.hid (HQ2.out.below hA HQ2.out.lt); have HZ3 := Lib.hid ((Z_0.out.below HB.out Z_0.out.lt).below hA (Z_0.out.below HB.out Z_0.out.lt).lt); have HB3 := Lib.hid (HBW.out.trans (hA.mono HBW.out.size))
          have r0 := HZ3.out.cell (i := 0) (v := .slice none 0 0) rfl; have r1 := HZ3.out.cell (i := 1) (v := .slice none 0 0) rfl; have r2 := HZ3.out.cell (i := 2) (v := .bool false) rfl; have f0 := HZ3.out.frozen 0; have f1 := HZ3.out.frozen 1; have f2 := HZ3.out.frozen 2
          clear hA hCalm
          go_wp2_with fail
          clear r0 r1 r2 f0 f1 f2
          have HFZ := Lib.hid (((HZ3.out.set 0 (.slice (some ⟨p, 0, none⟩) i i)).set 1 (.slice (some ⟨q, 0, none⟩) m m)).set 2 (.bool cl))
          have rZ0 := HFZ.out.cell (i := 0) (v := .slice (some ⟨p, 0, none⟩) i i) rfl
          have rZ1 := HFZ.out.cell (i := 1) (v := .slice (some ⟨q, 0, none⟩) m m) rfl
          have rZ2 := HFZ.out.cell (i := 2) (v := .bool cl) rfl
          exact bodyPost_ret (v := .agg #[.slice (some ⟨p, 0, none⟩) i i, .slice (some ⟨q, 0, none⟩) m m, .bool cl]) (by simp [results, Tryd.results55, go_sem, rZ0, rZ1, rZ2]) rfl ⟨⟨_, rfl, HLQ.out _ (HHC.out) _ (((HP3.out.far (p := ⟨w.heap.size + 1, 0, none⟩) (by have := HPQ.out; show p ≠ w.heap.size + 1; omega) _).far (p := ⟨w.heap.size + 1, 1, none⟩) (by have := HPQ.out; show p ≠ w.heap.size + 1; omega) _).far (p := ⟨w.heap.size + 1, 2, none⟩) (by have := HPQ.out; show p ≠ w.heap.size + 1; omega) _) (((HQ3.out.far (p := ⟨w.heap.size + 1, 0, none⟩) (by have := HPQ.out; show q ≠ w.heap.size + 1; omega) _).far (p := ⟨w.heap.size + 1, 1, none⟩) (by have := HPQ.out; show q ≠ w.heap.size + 1; omega) _).far (p := ⟨w.heap.size + 1, 2, none⟩) (by have := HPQ.out; show q ≠ w.heap.size + 1; omega) _)⟩, (((HB3.out.setCell (p := ⟨(w.heap.size + 1), 0, none⟩) (by show w.heap.size ≤ (w.heap.size + 1); omega) (.slice (some ⟨p, 0, none⟩) i i)).setCell (p := ⟨(w.heap.size + 1), 1, none⟩) (by show w.heap.size ≤ (w.heap.size + 1); omega) (.slice (some ⟨q, 0, none⟩) m m)).setCell (p := ⟨(w.heap.size + 1), 2, none⟩) (by show w.heap.size ≤ (w.heap.size + 1); omega) (.bool cl))⟩
        case neg =>
          have h4b : ¬ (4 : Int) ≤ (i : Int) := by omega
          have HHC : Hid (false = (decide (4 ≤ i) && nr8 (Q 0) (Q m))) := Lib.hid (by rw [decide_eq_false h4, Bool.false_and])
          refine wp_region_grow (S := (fun w' => True)) ((fun w' => Below wr.heap.size wr w')) (by kernel_rfl) (⟨fun w2 h2 => trivial, fun w2 w3 h2 hb2 => h2.trans (hb2.mono h2.size)⟩) ((Below.refl _ _).drew) (fun hCalm => ?_)
          refine grow_take 0 (some 57) ?_ rfl rfl (by kernel_rfl) (fun _ _ _ h => h) (by kernel_rfl) hCalm ?_ ?_
          rotate_left
          · intro wS hS; (try dsimp only at hS); go_simp <;> with_reducible rfl
          try simp only [Act.put, List.setIfInBounds_toArray, List.set_cons_zero, List.set_cons_succ]
          refine grow_take 1 (some 58) ?_ rfl rfl (by kernel_rfl) (fun _ _ _ h => h) (by kernel_rfl) hCalm ?_ ?_
          rotate_left
          · intro wS hS; (try dsimp only at hS); go_simp <;> with_reducible rfl
          try simp only [Act.put, List.setIfInBounds_toArray, List.set_cons_zero, List.set_cons_succ]
          refine grow_take 2 (some 59) (.bool false) rfl rfl (by kernel_rfl) (fun _ _ _ h => h) (by kernel_rfl) hCalm ?_ ?_
          · intro wS hS; (try dsimp only at hS); go_simp
            all_goals omega
          try simp only [Act.put, List.setIfInBounds_toArray, List.set_cons_zero, List.set_cons_succ]
          refine grow_take 3 (some 60) ?_ rfl rfl (by kernel_rfl) (fun _ _ _ h => h) (by kernel_rfl) hCalm ?_ ?_
          rotate_left
          · intro wS hS; (try dsimp only at hS); go_simp <;> with_reducible rfl
          try simp only [Act.put, List.setIfInBounds_toArray, List.set_cons_zero, List.set_cons_succ]
          refine grow_skip 4 (some 61) rfl rfl (by kernel_rfl) (fun _ _ _ h => h) (by kernel_rfl) hCalm ?_
          try simp only [Act.put, List.setIfInBounds_toArray, List.set_cons_zero, List.set_cons_succ]
          refine grow_skip 5 (some 62) rfl rfl (by kernel_rfl) (fun _ _ _ h => h) (by kernel_rfl) hCalm ?_
          try simp only [Act.put, List.setIfInBounds_toArray, List.set_cons_zero, List.set_cons_succ]
          refine grow_skip 6 (some 63) rfl rfl (by kernel_rfl) (fun _ _ _ h => h) (by kernel_rfl) hCalm ?_
          try simp only [Act.put, List.setIfInBounds_toArray, List.set_cons_zero, List.set_cons_succ]
          refine grow_skip 7 (some 64) rfl rfl (by kernel_rfl) (fun _ _ _ h => h) (by kernel_rfl) hCalm ?_
          try simp only [Act.put, List.setIfInBounds_toArray, List.set_cons_zero, List.set_cons_succ]
          refine grow_skip 8 (some 65) rfl rfl (by kernel_rfl) (fun _ _ _ h => h) (by kernel_rfl) hCalm ?_
          try simp only [Act.put, List.setIfInBounds_toArray, List.set_cons_zero, List.set_cons_succ]
          refine grow_skip 9 (some 66) rfl rfl (by kernel_rfl) (fun _ _ _ h => h) (by kernel_rfl) hCalm ?_
          try simp only [Act.put, List.setIfInBounds_toArray, List.set_cons_zero, List.set_cons_succ]
          refine grow_skip 10 (some 67) rfl rfl (by kernel_rfl) (fun _ _ _ h => h) (by kernel_rfl) hCalm ?_
          try simp only [Act.put, List.setIfInBounds_toArray, List.set_cons_zero, List.set_cons_succ]
          refine grow_skip 11 (some 68) rfl rfl (by kernel_rfl) (fun _ _ _ h => h) (by kernel_rfl) hCalm ?_
          try simp only [Act.put, List.setIfInBounds_toArray, List.set_cons_zero, List.set_cons_succ]
          refine grow_skip 12 (some 69) rfl rfl (by kernel_rfl) (fun _ _ _ h => h) (by kernel_rfl) hCalm ?_
          try simp only [Act.put, List.setIfInBounds_toArray, List.set_cons_zero, List.set_cons_succ]
          refine grow_skip 13 (some 70) rfl rfl (by kernel_rfl) (fun _ _ _ h => h) (by kernel_rfl) hCalm ?_
          try simp only [Act.put, List.setIfInBounds_toArray, List.set_cons_zero, List.set_cons_succ]
          refine grow_take 14 (some 71) ?_ rfl rfl (by kernel_rfl) (fun _ _ _ h => h) (by kernel_rfl) hCalm ?_ ?_
          rotate_left
          · intro wS hS; (try dsimp only at hS); go_simp <;> with_reducible rfl
          try simp only [Act.put, List.setIfInBounds_toArray, List.set_cons_zero, List.set_cons_succ]
          refine grow_take 15 (some 9) ?_ rfl rfl (by kernel_rfl) (fun _ _ _ h => h) (by kernel_rfl) hCalm ?_ ?_
          rotate_left
          · intro wS hS; (try dsimp only at hS); go_simp <;> with_reducible rfl
          try simp only [Act.put, List.setIfInBounds_toArray, List.set_cons_zero, List.set_cons_succ]
          refine grow_done (by kernel_rfl) (fun wA hA => ?_) _
          have HP3 := Lib.hid (HP2.out.below hA HP2.out.lt); have HQ3 := Lib.hid (HQ2.out.below hA HQ2.out.lt); have HZ3 := Lib.hid ((Z_0.out.below HB.out Z_0.out.lt).below hA (Z_0.out.below HB.out Z_0.out.lt).lt); have HB3 := Lib.hid (HBW.out.trans (hA.mono HBW.out.size))
          have r0 := HZ3.out.cell (i := 0) (v := .slice none 0 0) rfl; have r1 := HZ3.out.cell (i := 1) (v := .slice none 0 0) rfl; have r2 := HZ3.out.cell (i := 2) (v := .bool false) rfl; have f0 := HZ3.out.frozen 0; have f1 := HZ3.out.frozen 1; have f2 := HZ3.out.frozen 2
          clear hA hCalm
          go_wp2_with fail
          clear r0 r1 r2 f0 f1 f2
          have HFZ := Lib.hid (((HZ3.out.set 0 (.slice (some ⟨p, 0, none⟩) i i)).set 1 (.slice (some ⟨q, 0, none⟩) m m)).set 2 (.bool false))
          have rZ0 := HFZ.out.cell (i := 0) (v := .slice (some ⟨p, 0, none⟩) i i) rfl
          have rZ1 := HFZ.out.cell (i := 1) (v := .slice (some ⟨q, 0, none⟩) m m) rfl
          have rZ2 := HFZ.out.cell (i := 2) (v := .bool false) rfl
          exact bodyPost_ret (v := .agg #[.slice (some ⟨p, 0, none⟩) i i, .slice (some ⟨q, 0, none⟩) m m, .bool false]) (by simp [results, Tryd.results55, go_sem, rZ0, rZ1, rZ2]) rfl ⟨⟨_, rfl, HLQ.out _ (HHC.out) _ (((HP3.out.far (p := ⟨w.heap.size + 1, 0, none⟩) (by have := HPQ.out; show p ≠ w.heap.size + 1; omega) _).far (p := ⟨w.heap.size + 1, 1, none⟩) (by have := HPQ.out; show p ≠ w.heap.size + 1; omega) _).far (p := ⟨w.heap.size + 1, 2, none⟩) (by have := HPQ.out; show p ≠ w.heap.size + 1; omega) _) (((HQ3.out.far (p := ⟨w.heap.size + 1, 0, none⟩) (by have := HPQ.out; show q ≠ w.heap.size + 1; omega) _).far (p := ⟨w.heap.size + 1, 1, none⟩) (by have := HPQ.out; show q ≠ w.heap.size + 1; omega) _).far (p := ⟨w.heap.size + 1, 2, none⟩) (by have := HPQ.out; show q ≠ w.heap.size + 1; omega) _)⟩, (((HB3.out.setCell (p := ⟨(w.heap.size + 1), 0, none⟩) (by show w.heap.size ≤ (w.heap.size + 1); omega) (.slice (some ⟨p, 0, none⟩) i i)).setCell (p := ⟨(w.heap.size + 1), 1, none⟩) (by show w.heap.size ≤ (w.heap.size + 1); omega) (.slice (some ⟨q, 0, none⟩) m m)).setCell (p := ⟨(w.heap.size + 1), 2, none⟩) (by show w.heap.size ≤ (w.heap.size + 1); omega) (.bool false))⟩
end Go.Proofs.YtmjcjaecaigahaaDoor
