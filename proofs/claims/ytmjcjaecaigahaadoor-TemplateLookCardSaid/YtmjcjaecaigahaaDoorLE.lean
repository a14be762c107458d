/- Dots and strokes in memory; what is valid. No conditions. | The contracts of small functions on places and numbers: Place, At, size, square, pick. Conditions: ints. | The contracts of square and Near. Condition of square: places on the board. | Dots of the call's own: appending one. No conditions. -/
import Derived.BigQuiet
import Derived.Deep.CutRange
import Derived.Shelf.Abstract
import Derived.Laws.AppendOwn
import Derived.Test.YtmjcjaecaigahaaDoorLA
import Derived.Test.YtmjcjaecaigahaaDoorLC
namespace Go.Proofs.YtmjcjaecaigahaaDoor
open Go.RowKit Go.Lib

/-- A dot. -/
structure Dt where
  x : Int
  y : Int
  t : Int
  p : Int
deriving DecidableEq
/-- A dot that is right by itself. -/
def Dt.ok (d : Dt) : Prop := (0 ≤ d.x ∧ d.x ≤ 4095 ∧ 0 ≤ d.y ∧ d.y ≤ 4095) ∧ (0 ≤ d.t ∧ d.t ≤ 1000000) ∧ (0 ≤ d.p ∧ d.p ≤ 100)
instance (d : Dt) : Decidable d.ok := by unfold Dt.ok; infer_instance
/-- Ints. -/
def Dt.int (d : Dt) : Prop := (-9223372036854775808 ≤ d.x ∧ d.x ≤ 9223372036854775807) ∧ (-9223372036854775808 ≤ d.y ∧ d.y ≤ 9223372036854775807) ∧ (-9223372036854775808 ≤ d.t ∧ d.t ≤ 9223372036854775807) ∧ (-9223372036854775808 ≤ d.p ∧ d.p ≤ 9223372036854775807)
/-- Dot i is right, and not earlier than the one before. -/
def OkAt (ds : List Dt) (i : Nat) : Prop := ∀ d, ds[i]? = some d → d.ok ∧ ∀ e, ds[i - 1]? = some e → e.t ≤ d.t
/-- A valid stroke. -/
def Vd (P N : Int) (ds : List Dt) : Prop := (0 ≤ P ∧ P ≤ 39) ∧ (1 ≤ N ∧ N ≤ 999) ∧ (1 ≤ ds.length ∧ ds.length ≤ 200) ∧ ∀ i, i < ds.length → OkAt ds i
noncomputable instance (P N : Int) (ds : List Dt) : Decidable (Vd P N ds) := Classical.propDecidable _
noncomputable instance (ds : List Dt) (i : Nat) : Decidable (OkAt ds i) := Classical.propDecidable _
/-- The slice's cells are those of the dots. -/
def Dz (w : World) (A : Option Addr) (ds : List Dt) : Prop :=
  0 < ds.length → ∃ b o, A = some ⟨b, o, none⟩ ∧ b < w.heap.size ∧ ∀ i (h : i < ds.length), w.cell? ⟨b, o + i * 4, none⟩ = some (.int .i64 ds[i].x) ∧ w.cell? ⟨b, o + i * 4 + 1, none⟩ = some (.int .i64 ds[i].y) ∧
    w.cell? ⟨b, o + i * 4 + 2, none⟩ = some (.int .i64 ds[i].t) ∧ w.cell? ⟨b, o + i * 4 + 3, none⟩ = some (.int .i64 ds[i].p)
section
variable {w w' : World} {A : Option Addr} {ds : List Dt}
theorem Dz.below {B : Nat} (h : Dz w A ds) (hb : Below B w w') (hB : w.heap.size ≤ B) : Dz w' A ds := fun hn => by
  obtain ⟨b, o, e, hl, hc⟩ := h hn
  refine ⟨b, o, e, Nat.lt_of_lt_of_le hl hb.size, fun i hi => ?_⟩
  have hl2 : b < B := Nat.lt_of_lt_of_le hl hB
  obtain ⟨h1, h2, h3, h4⟩ := hc i hi
  exact ⟨(hb.cell (p := ⟨b, _, none⟩) hl2).trans h1, (hb.cell (p := ⟨b, _, none⟩) hl2).trans h2, (hb.cell (p := ⟨b, _, none⟩) hl2).trans h3, (hb.cell (p := ⟨b, _, none⟩) hl2).trans h4⟩
end
/-- What has not come up yields nothing: laid ahead of a region whose guards hang on what is skipped. -/
theorem un_none : yielded.match_1 (motive := fun _ => Option Bool) (some undef) (fun b => some b) (fun _ => none) = none := rfl
end Go.Proofs.YtmjcjaecaigahaaDoor
namespace Go.Proofs.YtmjcjaecaigahaaDoor
open Go.RowKit Go.Lib


end Go.Proofs.YtmjcjaecaigahaaDoor
namespace Go.Proofs.YtmjcjaecaigahaaDoor
open Go.RowKit Go.Lib Go.Shelf

/-- The square of a distance. -/
def sqd (ax ay bx by_ : Int) : Int := (ax - bx) * (ax - bx) + (ay - by_) * (ay - by_)
/-- On the board, as a fact. -/
def OnP (x y : Int) : Prop := 0 ≤ x ∧ x ≤ 4095 ∧ 0 ≤ y ∧ y ≤ 4095
instance (x y : Int) : Decidable (OnP x y) := by unfold OnP; infer_instance
/-- A place is near two others. -/
def NearP (ax ay bx by_ px py z : Int) : Prop := OnP ax ay ∧ OnP bx by_ ∧ OnP px py ∧ (0 ≤ z ∧ z ≤ 1000) ∧
  (sqd ax ay px py ≤ z * z ∨ sqd bx by_ px py ≤ z * z ∨ (¬ (sqd ax ay bx by_ + sqd ax ay px py < sqd bx by_ px py ∨ sqd ax ay bx by_ + sqd bx by_ px py < sqd ax ay px py ∨ sqd ax ay bx by_ = 0) ∧
    ((bx - ax) * (py - ay) - (by_ - ay) * (px - ax)) * ((bx - ax) * (py - ay) - (by_ - ay) * (px - ax)) ≤ z * z * sqd ax ay bx by_))
instance (ax ay bx by_ px py z : Int) : Decidable (NearP ax ay bx by_ px py z) := by unfold NearP; infer_instance
theorem mul_le_of {a b n m : Int} (ha : -n ≤ a ∧ a ≤ n) (hb : -m ≤ b ∧ b ≤ m) (hn : 0 ≤ n) (hm : 0 ≤ m) : -(n * m) ≤ a * b ∧ a * b ≤ n * m := by
  have h1 : (a * b).natAbs ≤ (n * m).natAbs := by
    rw [Int.natAbs_mul, Int.natAbs_mul]
    exact Nat.mul_le_mul (by omega) (by omega)
  have h2 : 0 ≤ n * m := Int.mul_nonneg hn hm
  omega
theorem self_mul (a : Int) : 0 ≤ a * a := by
  rcases Int.le_total 0 a with h | h
  · exact Int.mul_nonneg h h
  · exact Int.mul_nonneg_of_nonpos_of_nonpos h h
theorem sqd_le {ax ay bx by_ : Int} (ha : OnP ax ay) (hb : OnP bx by_) : 0 ≤ sqd ax ay bx by_ ∧ sqd ax ay bx by_ ≤ 33538050 := by
  unfold OnP at ha hb
  have h1 := mul_le_of (a := ax - bx) (b := ax - bx) (n := 4095) (m := 4095) (by omega) (by omega) (by omega) (by omega)
  have h2 := mul_le_of (a := ay - by_) (b := ay - by_) (n := 4095) (m := 4095) (by omega) (by omega) (by omega) (by omega)
  have h3 : 0 ≤ (ax - bx) * (ax - bx) := self_mul _
  have h4 : 0 ≤ (ay - by_) * (ay - by_) := self_mul _
  unfold sqd
  omega
end Go.Proofs.YtmjcjaecaigahaaDoor
namespace Go.Proofs.YtmjcjaecaigahaaDoor
open Go.RowKit Go.Lib

/-- A dot's cells. -/
def dcs (d : Dt) : List Value := [.int .i64 d.x, .int .i64 d.y, .int .i64 d.t, .int .i64 d.p]
def flat (ds : List Dt) : List Value := ds.flatMap dcs
theorem flat_snoc (ds : List Dt) (d : Dt) : flat (ds ++ [d]) = flat ds ++ dcs d := by simp [flat]
theorem flat_length (ds : List Dt) : (flat ds).length = ds.length * 4 := by
  induction ds with
  | nil => rfl
  | cons d r ih => simp only [flat, List.flatMap_cons, List.length_append, List.length_cons] at ih ⊢; rw [ih]; simp [dcs]; omega
theorem flat_at : ∀ (ds : List Dt) (i k : Nat) (h : i < ds.length), k < 4 → (flat ds)[i * 4 + k]? = (dcs ds[i])[k]?
  | d :: r, 0, k, _, hk => by
    show (dcs d ++ flat r)[0 * 4 + k]? = _
    rw [Nat.zero_mul, Nat.zero_add, List.getElem?_append_left (by simpa [dcs] using hk)]; rfl
  | d :: r, i + 1, k, h, hk => by
    show (dcs d ++ flat r)[(i + 1) * 4 + k]? = _
    rw [List.getElem?_append_right (by simp [dcs]; omega), show (i + 1) * 4 + k - (dcs d).length = i * 4 + k from by simp [dcs]; omega, flat_at r i k (by simpa using h) hk]; rfl
theorem info_dot : (Tryd.prog.info? 69).map (fun i => (i.zero, i.size, i.bytes)) = some (some (.agg #[.int .i64 0, .int .i64 0, .int .i64 0, .int .i64 0]), 4, 32) := by kernel_rfl
/-- What the call owns reads as dots. -/
theorem Dz.of_own {W : World} {B n : Nat} {v : Value} {ds : List Dt} (h : W.ownsRow B 69 4 v n (flat ds)) : n = ds.length ∧ ∃ A c, v = .slice A ds.length c ∧ Dz W A ds := by
  have hn : n = ds.length := by have := h.1; rw [flat_length] at this; omega
  subst hn
  refine ⟨rfl, ?_⟩
  rcases h.2 with ⟨rfl, h0⟩ | ⟨g, cap, cur, rfl, hB, hg, hc1, hc2, hs, ht⟩
  · exact ⟨none, 0, by rw [h0], fun hh => absurd hh (by omega)⟩
  · refine ⟨_, _, rfl, fun _ => ⟨g, 0, rfl, (Array.getElem?_eq_some_iff.1 hg).1, fun i hi => ?_⟩⟩
    have key : ∀ k v, k < 4 → (dcs ds[i])[k]? = some v → W.cell? ⟨g, 0 + i * 4 + k, none⟩ = some v := fun k v hk hv => by
      have h1 := flat_at ds i k hi hk
      rw [hv, ← ht, List.getElem?_take_of_lt (by omega)] at h1
      have h2 : cur[0 + i * 4 + k]? = some v := by rw [Nat.zero_add]; simpa using h1
      exact Blk.cell (show Blk W g 69 cur from hg) h2
    exact ⟨key 0 _ (by omega) rfl, key 1 _ (by omega) rfl, key 2 _ (by omega) rfl, key 3 _ (by omega) rfl⟩
theorem own_pos {W : World} {B e s n : Nat} {v : Value} {xs : List Value} (h : W.ownsRow B e s v (n + 1) xs) : ∃ g c, v = .slice (some ⟨g, 0, none⟩) (n + 1) c ∧ B ≤ g := by
  rcases h.2 with ⟨_, h0⟩ | ⟨g, cap, cur, h1, h2, _⟩
  · omega
  · exact ⟨g, cap, h1, h2⟩
theorem own_far {W : World} {B e s n : Nat} {v : Value} {xs : List Value} (h : W.ownsRow B e s v n xs) {p : Addr} (hp : v.ownBlock ≠ some p.block) (u : Value) : (W.setCell p u).ownsRow B e s v n xs := by
  refine ⟨h.1, ?_⟩
  rcases h.2 with h0 | ⟨g, cap, cur, rfl, h1, h2, h3⟩
  · exact Or.inl h0
  · exact Or.inr ⟨g, cap, cur, rfl, h1, (Below.heap_setCell W p u g (fun e => hp (by rw [← e]; rfl))).trans h2, h3⟩
theorem own_base_le {W : World} {B B2 e s n : Nat} {v : Value} {xs : List Value} (h : W.ownsRow B e s v n xs) (hb : B2 ≤ B) : W.ownsRow B2 e s v n xs := by
  refine ⟨h.1, ?_⟩
  rcases h.2 with h0 | ⟨g, cap, cur, rfl, h1, h3⟩
  · exact Or.inl h0
  · exact Or.inr ⟨g, cap, cur, rfl, by omega, h3⟩
theorem own_ne {W : World} {B e s n k : Nat} {v : Value} {xs : List Value} (h : W.ownsRow B e s v n xs) (hk : k < B) : v.ownBlock ≠ some k := by
  rcases h.2 with ⟨rfl, _⟩ | ⟨g, cap, cur, rfl, h1, _⟩
  · simp [Value.ownBlock]
  · simp only [Value.ownBlock, ne_eq, Option.some.injEq]; omega
theorem own_below {W W2 : World} {B e s n : Nat} {v : Value} {xs : List Value} (h : W.ownsRow B e s v n xs) (hb : Below W.heap.size W W2) : W2.ownsRow B e s v n xs := by
  refine ⟨h.1, ?_⟩
  rcases h.2 with h0 | ⟨g, cap, cur, rfl, h1, h2, h3⟩
  · exact Or.inl h0
  · exact Or.inr ⟨g, cap, cur, rfl, h1, (hb.block g (Array.getElem?_eq_some_iff.1 h2).1).trans h2, h3⟩
theorem own_base {w : World} {base e size n : Nat} {v : Value} {xs : List Value} (h : w.ownsRow base e size v n xs) (k : Nat) (hk : v.ownBlock = some k) : base ≤ k := (h.lt k hk).1
theorem own_none (W : World) (B : Nat) : W.ownsRow B 69 4 (.slice none 0 0) 0 (flat []) := ⟨rfl, Or.inl ⟨rfl, rfl⟩⟩
theorem wpList_append_dot {w : World} {ops : Array Oper} {rest : List Oper} {o : Oper} {a : Act} {Q : Exit → Act → World → Prop} (hgd : o.guard = none) (s x : Operand)
    (ho : o.op = .call { callee := .builtin .append, args := #[s, x], argTypes := #[24, 24] }) (base : Nat) (v : Value) (n : Nat) (ds : List Dt) (hs : a.eval s = v) (hown : w.ownsRow base 69 4 v n (flat ds))
    (g : Nat) (d : Dt) (hx : a.eval x = .slice (some ⟨g, 0, none⟩) 1 1) (hg : Blk w g 69 (dcs d).toArray) (hn : n ≤ 1000000) (hbase : base ≤ w.heap.size)
    (h : ∀ v' w', w'.ownsRow base 69 4 v' (n + 1) (flat (ds ++ [d])) → w.grownBy w' v.ownBlock → wpList Tryd.prog ops Q rest (a.put o.dst v') w') : wpList Tryd.prog ops Q (o :: rest) a w := by
  obtain ⟨i, hi, hz, hsz, hb⟩ := info_of info_dot
  refine wpList_append_own w hgd s x 24 ho base 69 i _ 4 32 Tryd.underlying24 hi hz hsz hb rfl (by decide) v n _ hs hown ⟨g, 0, none⟩ 1 1 (dcs d) hx rfl (fun j u hj => ?_) (fun u hu => ?_) (by unfold maxLen; omega) (by omega) hbase fun v' w' h1 h2 _ => h v' w' (by rw [flat_snoc]; exact h1) h2
  · have e : (⟨g, 0, none⟩ : Addr).add j = ⟨g, j, none⟩ := by unfold Addr.add; split <;> simp_all
    rw [e]; exact hg.cell (by simpa using hj)
  · simp only [dcs, List.mem_cons, List.not_mem_nil, or_false] at hu
    rcases hu with rfl | rfl | rfl | rfl <;> rfl
end Go.Proofs.YtmjcjaecaigahaaDoor
