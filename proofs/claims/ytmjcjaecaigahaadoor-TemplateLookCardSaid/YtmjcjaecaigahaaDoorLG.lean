/- The contract of the reference's Valid. No conditions. | The contracts of the reference's functions on strokes: Code, Way, Within, between, Same. Conditions: the slices read. | The contracts of the reference's between and Within. Conditions: the slices read; indices of dots. | The array of jumps: its cells; the least lists found backward. No conditions. -/
import Derived.Deep.CutRange
import Derived.Shelf.Abstract
import Derived.Deep.MidRow
import Derived.Test.YtmjcjaecaigahaaDoorLE
import Derived.Test.YtmjcjaecaigahaaDoorLC
import Derived.Test.YtmjcjaecaigahaaDoorLF
namespace Go.Proofs.YtmjcjaecaigahaaDoor
open Go.RowKit Go.Lib Go.Shelf
theorem okAt_iff {ds : List Dt} {i : Nat} (h : i < ds.length) : OkAt ds i ↔ ds[i].ok ∧ (0 < i → (ds[i - 1]'(by omega)).t ≤ ds[i].t) := by
  unfold OkAt
  constructor
  · intro h1
    obtain ⟨a, b⟩ := h1 ds[i] (List.getElem?_eq_getElem h)
    exact ⟨a, fun _ => b _ (List.getElem?_eq_getElem (by omega))⟩
  · rintro ⟨a, b⟩ d hd
    rw [List.getElem?_eq_getElem h, Option.some.injEq] at hd
    subst hd
    refine ⟨a, fun e he => ?_⟩
    rw [List.getElem?_eq_getElem (by omega), Option.some.injEq] at he
    subst he
    by_cases h0 : 0 < i
    · exact b h0
    · obtain rfl : i = 0 := by omega
      exact Int.le_refl _
end Go.Proofs.YtmjcjaecaigahaaDoor
namespace Go.Proofs.YtmjcjaecaigahaaDoor
open Go.RowKit Go.Lib Go.Shelf

theorem Vd.mem {P N : Int} {ds : List Dt} (h : Vd P N ds) : ∀ d ∈ ds, d.ok := fun d hd => by
  obtain ⟨i, hi, rfl⟩ := List.getElem_of_mem hd
  exact (h.2.2.2 i hi _ (List.getElem?_eq_getElem hi)).1
/-- The cells of dot i. -/
theorem Dz.at {w : World} {b o : Nat} {ds : List Dt} (h : Dz w (some ⟨b, o, none⟩) ds) : ∀ W, Below w.heap.size w W → ∀ i (hi : i < ds.length), W.cell? ⟨b, o + i * 4, none⟩ = some (.int .i64 ds[i].x) ∧ W.cell? ⟨b, o + i * 4 + 1, none⟩ = some (.int .i64 ds[i].y) ∧
    W.cell? ⟨b, o + i * 4 + 2, none⟩ = some (.int .i64 ds[i].t) ∧ W.cell? ⟨b, o + i * 4 + 3, none⟩ = some (.int .i64 ds[i].p) := fun W hb i hi => by
  obtain ⟨b2, o2, he, _, hc⟩ := (h.below hb (Nat.le_refl _)) (by omega)
  obtain ⟨rfl, rfl, -⟩ : b = b2 ∧ o = o2 ∧ True := by simpa using he
  exact hc i hi
theorem Dz.some {w : World} {A : Option Addr} {ds : List Dt} (h : Dz w A ds) (hn : 0 < ds.length) : ∃ b o, A = some ⟨b, o, none⟩ := by
  obtain ⟨b, o, e, _⟩ := h hn
  exact ⟨b, o, e⟩
end Go.Proofs.YtmjcjaecaigahaaDoor
namespace Go.Proofs.YtmjcjaecaigahaaDoor
open Go.RowKit Go.Lib Go.Shelf

/-- Dot n is near dots i and k. -/
def NearAt (ds : List Dt) (z : Int) (i k n : Nat) : Prop := ∀ d e f, ds[i]? = some d → ds[k]? = some e → ds[n]? = some f → NearP d.x d.y e.x e.y f.x f.y z
/-- All dots between are near. -/
def BetwP (ds : List Dt) (z : Int) (i k : Nat) : Prop := ∀ n, i < n → n < k → NearAt ds z i k n
noncomputable instance (ds : List Dt) (z : Int) (i k : Nat) : Decidable (BetwP ds z i k) := Classical.propDecidable _
/-- A place is near the ends of the piece from dot i. -/
def NearSeg (ds : List Dt) (x y z : Int) (i : Nat) : Prop := ∃ d e, ds[i]? = some d ∧ ds[min (i + 1) (ds.length - 1)]? = some e ∧ NearP d.x d.y e.x e.y x y z
def WithinP (P N : Int) (ds : List Dt) (x y z : Int) : Prop := Vd P N ds ∧ ∃ i, i < ds.length ∧ NearSeg ds x y z i
noncomputable instance (P N : Int) (ds : List Dt) (x y z : Int) : Decidable (WithinP P N ds x y z) := Classical.propDecidable _
end Go.Proofs.YtmjcjaecaigahaaDoor
namespace Go.Proofs.YtmjcjaecaigahaaDoor
open Go.RowKit Go.Lib

/-- The cells of 200 jumps. -/
def jcF (T C : Nat → Int) (m : Nat) : Value := .int .i64 (if m % 2 = 0 then T (m / 2) else C (m / 2))
def jc (T C : Nat → Int) : List Value := (List.range 400).map (jcF T C)
def upd (f : Nat → Int) (i : Nat) (v : Int) : Nat → Int := fun j => if j = i then v else f j
theorem upd_same (f : Nat → Int) (i : Nat) (v : Int) : upd f i v i = v := by simp [upd]
theorem upd_ne {f : Nat → Int} {i j : Nat} {v : Int} (h : j ≠ i) : upd f i v j = f j := by simp [upd, h]
theorem jc_length (T C : Nat → Int) : (jc T C).length = 400 := by simp [jc]
theorem jc_to {T C : Nat → Int} {i : Nat} (h : i < 200) : (jc T C).toArray[i * 2]? = some (.int .i64 (T i)) := by
  rw [List.getElem?_toArray]
  unfold jc
  rw [List.getElem?_map, List.getElem?_range (by omega)]
  simp only [Option.map_some, jcF, show i * 2 % 2 = 0 from by omega, show i * 2 / 2 = i from by omega, if_pos]
theorem jc_cnt {T C : Nat → Int} {i : Nat} (h : i < 200) : (jc T C).toArray[i * 2 + 1]? = some (.int .i64 (C i)) := by
  rw [List.getElem?_toArray]
  unfold jc
  rw [List.getElem?_map, List.getElem?_range (by omega)]
  simp only [Option.map_some, jcF, show (i * 2 + 1) % 2 = 1 from by omega, show (i * 2 + 1) / 2 = i from by omega]
  simp
theorem jc_setTo (T C : Nat → Int) (i : Nat) (v : Int) : (jc T C).toArray.setIfInBounds (i * 2) (.int .i64 v) = (jc (upd T i v) C).toArray := by
  rw [List.setIfInBounds_toArray]
  congr 1
  apply List.ext_getElem?
  intro m
  rw [List.getElem?_set]
  unfold jc
  by_cases h : m < 400
  · rw [List.getElem?_map, List.getElem?_map, List.getElem?_range h]
    simp only [List.length_map, List.length_range, Option.map_some]
    by_cases hm : i * 2 = m
    · subst hm
      simp [jcF, upd, h]
    · rw [if_neg hm]
      simp only [jcF, upd]
      by_cases h2 : m % 2 = 0
      · rw [if_pos h2, if_pos h2, if_neg (by omega)]
      · rw [if_neg h2, if_neg h2]
  · rw [List.getElem?_eq_none (by simp; omega), List.getElem?_eq_none (by simp; omega)]
    simp only [List.length_map, List.length_range]
    split
    · rw [if_neg (by omega)]
    · rfl
theorem jc_setCnt (T C : Nat → Int) (i : Nat) (v : Int) : (jc T C).toArray.setIfInBounds (i * 2 + 1) (.int .i64 v) = (jc T (upd C i v)).toArray := by
  rw [List.setIfInBounds_toArray]
  congr 1
  apply List.ext_getElem?
  intro m
  rw [List.getElem?_set]
  unfold jc
  by_cases h : m < 400
  · rw [List.getElem?_map, List.getElem?_map, List.getElem?_range h]
    simp only [List.length_map, List.length_range, Option.map_some]
    by_cases hm : i * 2 + 1 = m
    · subst hm
      have h5 : (i * 2 + 1) % 2 = 1 := by omega
      have h6 : (i * 2 + 1) / 2 = i := by omega
      simp [jcF, upd, h, h5, h6]
    · rw [if_neg hm]
      simp only [jcF, upd]
      by_cases h2 : m % 2 = 0
      · rw [if_pos h2, if_pos h2]
      · rw [if_neg h2, if_neg h2, if_neg (by omega)]
  · rw [List.getElem?_eq_none (by simp; omega), List.getElem?_eq_none (by simp; omega)]
    simp only [List.length_map, List.length_range]
    split
    · rw [if_neg (by omega)]
    · rfl
theorem jc_one (T C : Nat → Int) : (jc T C).toArray.all (·.oneCell') = true := by
  refine all_oneCell_toArray fun v hv => ?_
  unfold jc at hv
  obtain ⟨m, _, rfl⟩ := List.mem_map.1 hv
  rfl
theorem zero_jumps : Tryd.zeroCells126 = (jc (fun _ => 0) (fun _ => 0)).toArray := by kernel_rfl
theorem below_cellsS {B g : Nat} {w0 : World} (hg : B ≤ g) : ∀ (vs : List Value) (o : Nat) (w : World), Below B w0 w → Below B w0 (w.setCells g o vs)
  | [], _, _, h => h
  | v :: r, o, w, h => by
    rw [World.setCells]
    exact below_cellsS hg r (o + 1) _ (h.setCell (p := ⟨g, o, none⟩) hg v)
theorem there_of_blk {w : World} {g : Nat} {t : TypeId} {cs : Array Value} (h : Blk w g t cs) : w.there g 0 cs.size := fun j hj => by
  have h1 := h.cell (i := 0 + j) (v := cs[j]) (by rw [Nat.zero_add]; exact Array.getElem?_eq_getElem hj)
  exact ⟨by rw [h1]; rfl, h.frozen _⟩
theorem range_of_blk {w : World} {g : Nat} {t : TypeId} {cs : List Value} (h : Blk w g t cs.toArray) : w.rangeAt g 0 cs := fun j v hv => h.cell (i := 0 + j) (by rw [Nat.zero_add, List.getElem?_toArray]; exact hv)
/-- The list that jumps lead along. -/
inductive Pth (T : Nat → Int) (n : Nat) : Nat → List Nat → Prop
  | base : Pth T n n [n]
  | step {i k : Nat} {l : List Nat} : i < k → T i = (k : Int) → Pth T n k l → Pth T n i (i :: l)
theorem Pth.upd {T : Nat → Int} {n i : Nat} {v : Int} {k : Nat} {l : List Nat} (h : Pth T n k l) (hi : i < k) : Pth (upd T i v) n k l := by
  induction h with
  | base => exact .base
  | @step a b l h1 h2 _ ih => exact .step h1 (by rw [upd_ne (by omega)]; exact h2) (ih (by omega))
theorem Pth.next {T : Nat → Int} {n : Nat} : ∀ {k : Nat} {l : List Nat}, Pth T n k l → l[0]? = some k ∧ (∀ i a b : Nat, l[i]? = some a → l[i + 1]? = some b → T a = (b : Int)) ∧ (∀ a ∈ l, a ≤ n) := by
  intro k l h
  induction h with
  | base => exact ⟨rfl, fun i a b h1 h2 => by simp at h2, fun a ha => by simp at ha; omega⟩
  | @step i k l h1 h2 hp ih =>
    refine ⟨rfl, fun j a b h3 h4 => ?_, fun a ha => ?_⟩
    · cases j with
      | zero =>
        simp only [List.getElem?_cons_zero, Option.some.injEq] at h3
        simp only [Nat.zero_add, List.getElem?_cons_succ] at h4
        rw [ih.1, Option.some.injEq] at h4
        rw [← h3, ← h4]; exact h2
      | succ j =>
        simp only [List.getElem?_cons_succ] at h3 h4
        exact ih.2.1 j a b h3 h4
    · rcases List.mem_cons.1 ha with rfl | ha
      · have := ih.2.2 k (List.mem_of_getElem? ih.1)
        omega
      · exact ih.2.2 a ha
/-- The least list from k on. -/
def LeastY (B : Nat → Nat → Prop) (n k : Nat) (l : List Nat) : Prop := Yw B n k l ∧ ∀ m, Yw B n k m → Le l m
/-- What is known of the jumps from index i on. -/
def Known (B : Nat → Nat → Prop) (n : Nat) (T C : Nat → Int) (i : Nat) : Prop := ∀ k, i ≤ k → k ≤ n → ∃ l, LeastY B n k l ∧ C k = (l.length : Int) ∧ Pth T n k l
theorem Known.last {B : Nat → Nat → Prop} {n : Nat} {T C : Nat → Int} (h : C n = 1) : Known B n T C n := fun k h1 h2 => by
  obtain rfl : k = n := by omega
  refine ⟨[k], ⟨.base, fun m hm => ?_⟩, h, .base⟩
  have hle : ∀ j m, Yw B k j m → j ≤ k := fun j m h => by
    induction h with
    | base => omega
    | step _ h _ ih => omega
  cases hm with
  | base => exact Le.refl _
  | step h1 h2 _ => have := hle _ _ h1; omega
/-- The best next index among those below m. -/
def BestN (B : Nat → Nat → Prop) (C : Nat → Int) (i m k : Nat) : Prop := (i < k ∧ k < m ∧ B i k) ∧ ∀ j, i < j → j < m → B i j → C k ≤ C j ∧ (C j = C k → k ≤ j)
theorem BestN.first {B : Nat → Nat → Prop} {C : Nat → Int} {i : Nat} (h : B i (i + 1)) : BestN B C i (i + 2) (i + 1) := ⟨⟨by omega, by omega, h⟩, fun j h1 h2 _ => by
  obtain rfl : j = i + 1 := by omega
  exact ⟨Int.le_refl _, fun _ => Nat.le_refl _⟩⟩
theorem BestN.keep {B : Nat → Nat → Prop} {C : Nat → Int} {i m k : Nat} (h : BestN B C i m k) (h2 : ¬ (C m < C k ∧ B i m)) : BestN B C i (m + 1) k := ⟨⟨h.1.1, by have := h.1.2.1; omega, h.1.2.2⟩, fun j h3 h4 h5 => by
  by_cases hj : j = m
  · subst hj
    have h6 : ¬ C j < C k := fun h7 => h2 ⟨h7, h5⟩
    exact ⟨by omega, fun _ => by have := h.1.2.1; omega⟩
  · exact h.2 j h3 (by omega) h5⟩
theorem BestN.turn {B : Nat → Nat → Prop} {C : Nat → Int} {i m k : Nat} (h : BestN B C i m k) (hi : i < m) (h2 : C m < C k ∧ B i m) : BestN B C i (m + 1) m := ⟨⟨hi, by omega, h2.2⟩, fun j h3 h4 h5 => by
  by_cases hj : j = m
  · subst hj; exact ⟨Int.le_refl _, fun _ => Nat.le_refl _⟩
  · have h6 := (h.2 j h3 (by omega) h5).1
    exact ⟨by omega, fun h7 => by omega⟩⟩
theorem Known.step {B : Nat → Nat → Prop} {n : Nat} {T C : Nat → Int} {i k : Nat} (h : Known B n T C (i + 1)) (hi : i < n) (hk : BestN B C i (n + 1) k) : Known B n (upd T i k) (upd C i (1 + C k)) i := by
  have hb : ∀ j, ∃ l, i < j → j ≤ n → LeastY B n j l ∧ C j = (l.length : Int) ∧ Pth T n j l := fun j => by
    by_cases hj : i < j ∧ j ≤ n
    · obtain ⟨l, hl⟩ := h j (by omega) hj.2
      exact ⟨l, fun _ _ => hl⟩
    · exact ⟨[], fun h1 h2 => absurd ⟨h1, h2⟩ hj⟩
  obtain ⟨best, hbest⟩ := Classical.skolem.1 hb
  intro j h1 h2
  by_cases hj : j = i
  · subst hj
    obtain ⟨⟨k1, k2, k3⟩, k4⟩ := hk
    have hkb := hbest k k1 (by omega)
    refine ⟨j :: best k, yw_step hi (fun m h3 h4 => (hbest m h3 h4).1) ⟨k1, by omega, k3⟩ (fun m h3 h4 h5 => ?_), ?_, ?_⟩
    · have h6 := k4 m h3 (by omega) h5
      have h7 := (hbest m h3 h4).2.1
      have h8 := hkb.2.1
      exact ⟨by omega, fun h9 => h6.2 (by omega)⟩
    · rw [upd_same, hkb.2.1]; simp; omega
    · exact .step k1 (upd_same _ _ _) (hkb.2.2.upd k1)
  · obtain ⟨l, h3, h4, h5⟩ := h j (by omega) h2
    exact ⟨l, h3, by rw [upd_ne hj]; exact h4, h5.upd (by omega)⟩
end Go.Proofs.YtmjcjaecaigahaaDoor
