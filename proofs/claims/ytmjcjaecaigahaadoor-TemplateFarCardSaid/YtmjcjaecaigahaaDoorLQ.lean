/- The example of the chapter: the stroke, and what is so of it. No conditions. | The statements' check of the chapter's examples. No conditions. | The contracts of the statements' pick and turned. Conditions: ints; bounds. | The contracts of pick (the reference's and the statements') and of the reference's Made. Conditions: ints. | What the laws of strokes need: made strokes, results of a call named. Conditions: the slices read. -/
import Derived.Shelf.Abstract
import Derived.Deep.CutRange
import Derived.Deep.CutBlock
import Derived.Test.YtmjcjaecaigahaaDoorLM
import Derived.Test.YtmjcjaecaigahaaDoorLN
import Derived.Test.YtmjcjaecaigahaaDoorLO
import Derived.Test.YtmjcjaecaigahaaDoorLP
import Derived.Test.YtmjcjaecaigahaaDoorLL
import Derived.Test.YtmjcjaecaigahaaDoorLE
import Derived.Test.YtmjcjaecaigahaaDoorLC
namespace Go.Proofs.YtmjcjaecaigahaaDoor
open Go.RowKit Go.Lib Go.Shelf

theorem wy_inv {B : Nat → Nat → Prop} {k : Nat} {l : List Nat} (h : Wy B k l) : (k = 0 ∧ l = [0]) ∨ ∃ i r, i < k ∧ Wy B i r ∧ B i k ∧ l = r ++ [k] := by
  cases h with
  | base => exact .inl ⟨rfl, rfl⟩
  | step h1 h2 h3 => exact .inr ⟨_, _, h2, h1, h3, rfl⟩
theorem wy0 {B : Nat → Nat → Prop} {l : List Nat} (h : Wy B 0 l) : l = [0] := by
  rcases wy_inv h with ⟨_, h⟩ | ⟨i, r, h1, _⟩
  · exact h
  · omega
theorem wy1 {B : Nat → Nat → Prop} {l : List Nat} (h : Wy B 1 l) : l = [0, 1] ∧ B 0 1 := by
  rcases wy_inv h with ⟨h, _⟩ | ⟨i, r, h1, h2, h3, rfl⟩
  · omega
  · obtain rfl : i = 0 := by omega
    rw [wy0 h2]; exact ⟨rfl, h3⟩
theorem wy2 {B : Nat → Nat → Prop} {l : List Nat} (h : Wy B 2 l) : (l = [0, 2] ∧ B 0 2) ∨ (l = [0, 1, 2] ∧ B 0 1 ∧ B 1 2) := by
  rcases wy_inv h with ⟨h, _⟩ | ⟨i, r, h1, h2, h3, rfl⟩
  · omega
  · have h : i = 0 ∨ i = 1 := by omega
    rcases h with rfl | rfl
    · rw [wy0 h2]; exact .inl ⟨rfl, h3⟩
    · rw [(wy1 h2).1]; exact .inr ⟨rfl, (wy1 h2).2, h3⟩
theorem wy3 {B : Nat → Nat → Prop} {l : List Nat} (h : Wy B 3 l) : (l = [0, 3] ∧ B 0 3) ∨ (l = [0, 1, 3] ∧ B 0 1 ∧ B 1 3) ∨ (l = [0, 2, 3] ∧ B 0 2 ∧ B 2 3) ∨ (l = [0, 1, 2, 3] ∧ B 0 1 ∧ B 1 2 ∧ B 2 3) := by
  rcases wy_inv h with ⟨h, _⟩ | ⟨i, r, h1, h2, h3, rfl⟩
  · omega
  · have h : i = 0 ∨ i = 1 ∨ i = 2 := by omega
    rcases h with rfl | rfl | rfl
    · rw [wy0 h2]; exact .inl ⟨rfl, h3⟩
    · rw [(wy1 h2).1]; exact .inr (.inl ⟨rfl, (wy1 h2).2, h3⟩)
    · rcases wy2 h2 with ⟨rfl, h4⟩ | ⟨rfl, h4, h5⟩
      · exact .inr (.inr (.inl ⟨rfl, h4, h3⟩))
      · exact .inr (.inr (.inr ⟨rfl, h4, h5, h3⟩))
theorem wy4 {B : Nat → Nat → Prop} {l : List Nat} (h : Wy B 4 l) : (l = [0, 4] ∧ B 0 4) ∨ (l = [0, 1, 4] ∧ B 0 1 ∧ B 1 4) ∨ (l = [0, 2, 4] ∧ B 0 2 ∧ B 2 4) ∨ (l = [0, 1, 2, 4] ∧ B 0 1 ∧ B 1 2 ∧ B 2 4) ∨
    (l = [0, 3, 4] ∧ B 0 3) ∨ (l = [0, 1, 3, 4] ∧ B 1 3) ∨ (l = [0, 2, 3, 4] ∧ B 0 2) ∨ l = [0, 1, 2, 3, 4] := by
  rcases wy_inv h with ⟨h, _⟩ | ⟨i, r, h1, h2, h3, rfl⟩
  · omega
  · have h : i = 0 ∨ i = 1 ∨ i = 2 ∨ i = 3 := by omega
    rcases h with rfl | rfl | rfl | rfl
    · rw [wy0 h2]; exact .inl ⟨rfl, h3⟩
    · rw [(wy1 h2).1]; exact .inr (.inl ⟨rfl, (wy1 h2).2, h3⟩)
    · rcases wy2 h2 with ⟨rfl, h4⟩ | ⟨rfl, h4, h5⟩
      · exact .inr (.inr (.inl ⟨rfl, h4, h3⟩))
      · exact .inr (.inr (.inr (.inl ⟨rfl, h4, h5, h3⟩)))
    · rcases wy3 h2 with ⟨rfl, h4⟩ | ⟨rfl, h4, h5⟩ | ⟨rfl, h4, h5⟩ | ⟨rfl, h4⟩
      · exact .inr (.inr (.inr (.inr (.inl ⟨rfl, h4⟩))))
      · exact .inr (.inr (.inr (.inr (.inr (.inl ⟨rfl, h5⟩)))))
      · exact .inr (.inr (.inr (.inr (.inr (.inr (.inl ⟨rfl, h4⟩))))))
      · exact .inr (.inr (.inr (.inr (.inr (.inr (.inr rfl))))))
end Go.Proofs.YtmjcjaecaigahaaDoor
namespace Go.Proofs.YtmjcjaecaigahaaDoor
open Go.RowKit Go.Lib Go.Shelf

end Go.Proofs.YtmjcjaecaigahaaDoor
namespace Go.Proofs.YtmjcjaecaigahaaDoor
open Go.RowKit Go.Lib Go.Shelf

end Go.Proofs.YtmjcjaecaigahaaDoor
namespace Go.Proofs.YtmjcjaecaigahaaDoor
open Go.RowKit Go.Lib Go.Shelf

/-- Triples of ints in memory. -/
def Tz (w : World) (A : Option Addr) (n : Nat) : Prop := 0 < n → ∃ b o, A = some ⟨b, o, none⟩ ∧ b < w.heap.size ∧ ∀ i, i < n → ∃ u0 u1 u2 : Int, (-9223372036854775808 ≤ u0 ∧ u0 ≤ 9223372036854775807) ∧ (-9223372036854775808 ≤ u1 ∧ u1 ≤ 9223372036854775807) ∧ (-9223372036854775808 ≤ u2 ∧ u2 ≤ 9223372036854775807) ∧
  w.cell? ⟨b, o + i * 3, none⟩ = some (.int .i64 u0) ∧ w.cell? ⟨b, o + i * 3 + 1, none⟩ = some (.int .i64 u1) ∧ w.cell? ⟨b, o + i * 3 + 2, none⟩ = some (.int .i64 u2)
end Go.Proofs.YtmjcjaecaigahaaDoor
namespace Go.Proofs.YtmjcjaecaigahaaDoor
open Go.RowKit Go.Lib Go.Shelf

theorem Tz.below {w w' : World} {A : Option Addr} {n B : Nat} (h : Tz w A n) (hb : Below B w w') (hB : w.heap.size ≤ B) : Tz w' A n := fun hn => by
  obtain ⟨b, o, e, hl, hc⟩ := h hn
  have hk : ∀ i, w'.cell? ⟨b, i, none⟩ = w.cell? ⟨b, i, none⟩ := fun i => hb.cell (p := ⟨b, _, none⟩) (Nat.lt_of_lt_of_le hl hB)
  refine ⟨b, o, e, Nat.lt_of_lt_of_le hl hb.size, fun i hi => ?_⟩
  obtain ⟨u0, u1, u2, h0, h1, h2, h3, h4, h5⟩ := hc i hi
  exact ⟨u0, u1, u2, h0, h1, h2, (hk _).trans h3, (hk _).trans h4, (hk _).trans h5⟩
theorem box_on {P N : Int} {ds : List Dt} {x y ww hh : Int} (hv : Vd P N ds) (hb : IsBox ds x y ww hh) : (0 ≤ x ∧ x ≤ 4095) ∧ (0 ≤ y ∧ y ≤ 4095) ∧ (0 ≤ ww ∧ ww ≤ 4095) ∧ (0 ≤ hh ∧ hh ≤ 4095) := by
  obtain ⟨h0, ⟨d1, m1, e1⟩, ⟨d2, m2, e2⟩, ⟨d3, m3, e3⟩, ⟨d4, m4, e4⟩⟩ := hb
  have a1 := (hv.mem d1 m1).1; have a2 := (hv.mem d2 m2).1; have a3 := (hv.mem d3 m3).1; have a4 := (hv.mem d4 m4).1
  have := h0 d1 m1; have := h0 d2 m2; have := h0 d3 m3; have := h0 d4 m4
  omega
/-- Thin of a valid stroke with a right tolerance. -/
theorem pthin_yes (P N : Int) (ds : List Dt) (A : Option Addr) (c : Nat) (z : Int) (w : World) (hA : Dz w A ds) (hz : ds.length ≤ 9000000000000000000) (hc : ds.length ≤ c) (hv : Vd P N ds) (ht : 0 ≤ z ∧ z ≤ 1000) :
    Calls Tryd.prog 54 #[.agg #[.int .i64 P, .int .i64 N, .slice A ds.length c], .int .i64 z] w fun e w' => ∃ (L : List Nat) (B : Option Addr) (k : Nat), e = .returned (.tuple #[.slice B L.length k, .int .i64 0]) ∧ IsThin (BetwP ds z) (ds.length - 1) L ∧ Iz w' B (L.map Int.ofNat) ∧ Below w.heap.size w w' :=
  (pthin_any P N ds A c z w hA hz hc).mono fun e w' h => by
    obtain ⟨h1 | h1, hb⟩ := h
    · obtain ⟨_, L, B, k, rfl, h2, h3, _⟩ := h1
      exact ⟨L, B, k, rfl, h2, h3, hb⟩
    · exact absurd ⟨hv, ht⟩ h1.1
end Go.Proofs.YtmjcjaecaigahaaDoor
