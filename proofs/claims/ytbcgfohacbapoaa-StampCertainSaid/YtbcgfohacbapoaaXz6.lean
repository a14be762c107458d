
/- Rows of m ints in memory. No conditions. -/
import Derived.Test.YtbcgfohacbapoaaMem
namespace Go.Proofs.Ytbcgfohacbapoaa
open Go.RowKit Go.Lib

/-- n rows of m ints in memory. -/
def Xz (m : Nat) (w : World) (A : Option Addr) (n : Nat) : Prop := 0 < n → ∃ b o, A = some ⟨b, o, none⟩ ∧ b < w.heap.size ∧ ∀ i, i < n → ∀ j, j < m → ∃ u : Int, (-9223372036854775808 ≤ u ∧ u ≤ 9223372036854775807) ∧ w.cell? ⟨b, o + i * m + j, none⟩ = some (.int .i64 u)
theorem Xz.below {m : Nat} {w w' : World} {A : Option Addr} {n B : Nat} (h : Xz m w A n) (hb : Below B w w') (hB : w.heap.size ≤ B) : Xz m w' A n := fun hn => by
  obtain ⟨b, o, e, hl, hc⟩ := h hn
  refine ⟨b, o, e, Nat.lt_of_lt_of_le hl hb.size, fun i hi j hj => ?_⟩
  obtain ⟨u, h1, h2⟩ := hc i hi j hj
  exact ⟨u, h1, (hb.cell (p := ⟨b, _, none⟩) (Nat.lt_of_lt_of_le hl hB)).trans h2⟩
/-- Row i, in all worlds that follow. -/
theorem Xz.row2 {w : World} {A : Option Addr} {n : Nat} (h : Xz 2 w A n) {i : Nat} (hi : i < n) : ∃ (b o : Nat) (u0 u1 : Int), A = some ⟨b, o, none⟩ ∧ (-9223372036854775808 ≤ u0 ∧ u0 ≤ 9223372036854775807) ∧ (-9223372036854775808 ≤ u1 ∧ u1 ≤ 9223372036854775807) ∧
    ∀ W, Below w.heap.size w W → W.cell? ⟨b, o + i * 2, none⟩ = some (.int .i64 u0) ∧ W.cell? ⟨b, o + i * 2 + 1, none⟩ = some (.int .i64 u1) := by
  obtain ⟨b, o, e, hl, hc⟩ := h (by omega)
  obtain ⟨u0, r0, c0⟩ := hc i hi 0 (by omega)
  obtain ⟨u1, r1, c1⟩ := hc i hi 1 (by omega)
  exact ⟨b, o, u0, u1, e, r0, r1, fun W hb => ⟨(hb.cell (p := ⟨b, _, none⟩) hl).trans c0, (hb.cell (p := ⟨b, _, none⟩) hl).trans c1⟩⟩
theorem Xz.row3 {w : World} {A : Option Addr} {n : Nat} (h : Xz 3 w A n) {i : Nat} (hi : i < n) : ∃ (b o : Nat) (u0 u1 u2 : Int), A = some ⟨b, o, none⟩ ∧ (-9223372036854775808 ≤ u0 ∧ u0 ≤ 9223372036854775807) ∧ (-9223372036854775808 ≤ u1 ∧ u1 ≤ 9223372036854775807) ∧ (-9223372036854775808 ≤ u2 ∧ u2 ≤ 9223372036854775807) ∧
    ∀ W, Below w.heap.size w W → W.cell? ⟨b, o + i * 3, none⟩ = some (.int .i64 u0) ∧ W.cell? ⟨b, o + i * 3 + 1, none⟩ = some (.int .i64 u1) ∧ W.cell? ⟨b, o + i * 3 + 2, none⟩ = some (.int .i64 u2) := by
  obtain ⟨b, o, e, hl, hc⟩ := h (by omega)
  obtain ⟨u0, r0, c0⟩ := hc i hi 0 (by omega)
  obtain ⟨u1, r1, c1⟩ := hc i hi 1 (by omega)
  obtain ⟨u2, r2, c2⟩ := hc i hi 2 (by omega)
  exact ⟨b, o, u0, u1, u2, e, r0, r1, r2, fun W hb => ⟨(hb.cell (p := ⟨b, _, none⟩) hl).trans c0, (hb.cell (p := ⟨b, _, none⟩) hl).trans c1, (hb.cell (p := ⟨b, _, none⟩) hl).trans c2⟩⟩
end Go.Proofs.Ytbcgfohacbapoaa
