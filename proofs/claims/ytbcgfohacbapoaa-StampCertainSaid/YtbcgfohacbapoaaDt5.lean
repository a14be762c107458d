
/- Dots and strokes in memory; what is valid. No conditions. -/
import Derived.Test.YtbcgfohacbapoaaMem
namespace Go.Proofs.Ytbcgfohacbapoaa
open Go.RowKit Go.Lib

/-- A dot. -/
structure Dt where
  x : Int
  y : Int
  t : Int
  p : Int
deriving DecidableEq
/-- On the board. -/
def OnB (x y : Int) : Bool := decide (0 ≤ x ∧ x ≤ 4095 ∧ 0 ≤ y ∧ y ≤ 4095)
/-- A dot that is right by itself. -/
def Dt.ok (d : Dt) : Prop := (0 ≤ d.x ∧ d.x ≤ 4095 ∧ 0 ≤ d.y ∧ d.y ≤ 4095) ∧ (0 ≤ d.t ∧ d.t ≤ 1000000) ∧ (0 ≤ d.p ∧ d.p ≤ 100)
instance (d : Dt) : Decidable d.ok := by unfold Dt.ok; infer_instance
/-- Ints. -/
def Dt.int (d : Dt) : Prop := (-9223372036854775808 ≤ d.x ∧ d.x ≤ 9223372036854775807) ∧ (-9223372036854775808 ≤ d.y ∧ d.y ≤ 9223372036854775807) ∧ (-9223372036854775808 ≤ d.t ∧ d.t ≤ 9223372036854775807) ∧ (-9223372036854775808 ≤ d.p ∧ d.p ≤ 9223372036854775807)
/-- Dot i is right, and not earlier than the one before. -/
def OkAt (ds : List Dt) (i : Nat) : Prop := ∀ d, ds[i]? = some d → d.ok ∧ ∀ e, ds[i - 1]? = some e → e.t ≤ d.t
/-- A valid stroke. -/
def Vd (P N : Int) (ds : List Dt) : Prop := (0 ≤ P ∧ P ≤ 39) ∧ (1 ≤ N ∧ N ≤ 999) ∧ (1 ≤ ds.length ∧ ds.length ≤ 200) ∧ ∀ i, i < ds.length → OkAt ds i
noncomputable instance (P N : Int) (ds : List Dt) : Decidable (Vd P N ds) := Classical.propDecidable _
noncomputable instance (ds : List Dt) (i : Nat) : Decidable (OkAt ds i) := Classical.propDecidable _
/-- The slice's cells are those of the dots. -/
def Dz (w : World) (A : Option Addr) (ds : List Dt) : Prop :=
  0 < ds.length → ∃ b o, A = some ⟨b, o, none⟩ ∧ b < w.heap.size ∧ ∀ i (h : i < ds.length), w.cell? ⟨b, o + i * 4, none⟩ = some (.int .i64 ds[i].x) ∧ w.cell? ⟨b, o + i * 4 + 1, none⟩ = some (.int .i64 ds[i].y) ∧
    w.cell? ⟨b, o + i * 4 + 2, none⟩ = some (.int .i64 ds[i].t) ∧ w.cell? ⟨b, o + i * 4 + 3, none⟩ = some (.int .i64 ds[i].p)
section
variable {w w' : World} {A : Option Addr} {ds : List Dt}
theorem Dz.below {B : Nat} (h : Dz w A ds) (hb : Below B w w') (hB : w.heap.size ≤ B) : Dz w' A ds := fun hn => by
  obtain ⟨b, o, e, hl, hc⟩ := h hn
  refine ⟨b, o, e, Nat.lt_of_lt_of_le hl hb.size, fun i hi => ?_⟩
  have hl2 : b < B := Nat.lt_of_lt_of_le hl hB
  obtain ⟨h1, h2, h3, h4⟩ := hc i hi
  exact ⟨(hb.cell (p := ⟨b, _, none⟩) hl2).trans h1, (hb.cell (p := ⟨b, _, none⟩) hl2).trans h2, (hb.cell (p := ⟨b, _, none⟩) hl2).trans h3, (hb.cell (p := ⟨b, _, none⟩) hl2).trans h4⟩
end
/-- What has not come up yields nothing: laid ahead of a region whose guards hang on what is skipped. -/
theorem un_none : yielded.match_1 (motive := fun _ => Option Bool) (some undef) (fun b => some b) (fun _ => none) = none := rfl
end Go.Proofs.Ytbcgfohacbapoaa
