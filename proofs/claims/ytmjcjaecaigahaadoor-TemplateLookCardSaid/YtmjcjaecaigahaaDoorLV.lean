/- From a statement's contract to its row: how the tables are read out of the row's condition, the state in which a run begins, and how a slice of ints is opened. -/
import Derived.Test.YtmjcjaecaigahaaDoorTie
import Derived.Test.YtmjcjaecaigahaaDoorCards
import Derived.LaidMore
import Derived.OpenShut
import Derived.Stop.Joined
import Derived.SizedLaws
import Derived.SevenTiedAt
import Derived.KernelRfl
import Derived.Test.YtmjcjaecaigahaaDoorLB
import Derived.Test.YtmjcjaecaigahaaDoorLU
namespace Go.Proofs.YtmjcjaecaigahaaDoor
open Go.ChangeShapes Go.WideShapes Go.ChangeAt Go.WideMaps Go.WideElems Go.RowKit

theorem add8 (b o i : Nat) : (⟨b, o, none⟩ : Addr).add i = ⟨b, o + i, none⟩ := by unfold Addr.add; split <;> simp_all
theorem cells8 {w : World} {base : Nat} {a : Addr} {n : Nat} {cs : List Value} (h : w.cells? base a n = some cs) : cs.length = n ∧ ∀ i, i < n → w.cell? (a.add i) = cs[i]? := by
  unfold World.cells? at h
  split at h
  · exact ⟨by simpa using mapM_some_length h, fun i hi => mapM_some_get h i i (by simp [hi])⟩
  · cases h
section
variable {H : Type} {enc : TypeId × Value → H} {P : Program} {w : World} {base : Nat} {spare : Nat → Bool} {held : Bool} {fuel : Nat} {t e : TypeId} {cs : List Value} {ps : List MemPlace}
theorem lit8 {z : Int} (ht : P.underlying t = some (.int .i64)) (h : DataW.trod enc P w base spare held fuel t cs = some (.lit (.int .i64 z), ps)) : cs = [.int .i64 z] := by
  obtain ⟨n, rfl, hx, _⟩ := DataW.trod_int ht h
  simp only [Prod.mk.injEq, DataW.lit.injEq, Lit.int.injEq, true_and] at hx
  rw [hx.1]
theorem arr8 {n : Nat} {ds : List (DataW H)} (ht : P.underlying t = some (.array n e)) (h : DataW.trod enc P w base spare held fuel t cs = some (.agg ds, ps)) {i : Nat} {d : DataW H} (hi : ds[i]? = some d) :
    ∃ m q, DataW.trod enc P w base spare held m e ((cs.drop (i * P.cellsOf e)).take (P.cellsOf e)) = some (d, q) := by
  obtain ⟨xs, m, rfl, hx, hl, hxl, hall⟩ := DataW.trod_array ht h
  have h1 : ds = xs.map (·.1) := by simpa using congrArg Prod.fst hx
  rw [h1, List.getElem?_map] at hi
  obtain ⟨y, hy, rfl⟩ := Option.map_eq_some_iff.1 hi
  have hin : i < n := by rw [← hxl]; exact (List.getElem?_eq_some_iff.1 hy).1
  exact ⟨m, y.2, by rw [hall i hin, hy]⟩
theorem iarr8 {n : Nat} {ds : List (DataW H)} (ht : P.underlying t = some (.array n e)) (he : P.underlying e = some (.int .i64)) (hc : P.cellsOf e = 1) (h : DataW.trod enc P w base spare held fuel t cs = some (.agg ds, ps)) {i : Nat} {z : Int} (hi : ds[i]? = some (.lit (.int .i64 z))) : cs[i]? = some (.int .i64 z) := by
  obtain ⟨m, q, h1⟩ := arr8 ht h hi
  rw [hc, Nat.mul_one] at h1
  have h2 := congrArg (·[0]?) (lit8 he h1)
  simpa [List.getElem?_take, List.getElem?_drop] using h2
theorem slc8 {ds : List (DataW H)} (ht : P.underlying t = some (.slice e)) (hs : ∀ b, spare b = true) (h : DataW.trod enc P w base spare held fuel t cs = some (.slice ds [], ps)) :
    ∃ a, cs = [.slice (some a) ds.length ds.length] ∧ ∀ i d, ds[i]? = some d → ∃ m q cs', w.cells? base (a.add (i * P.cellsOf e)) (P.cellsOf e) = some cs' ∧ DataW.trod enc P w base spare held m e cs' = some (d, q) := by
  rcases DataW.trod_slice ht h with ⟨_, hx⟩ | ⟨a, len, cap, elems, rest, n, rfl, rfl, hx, _, hlc, _, hel, hall, hsp, _⟩
  · simp at hx
  · simp only [Prod.mk.injEq, DataW.slice.injEq] at hx
    obtain ⟨⟨h1, h2⟩, -⟩ := hx
    have h3 := (hsp (hs _)).1
    have h4 : rest = [] := by simpa using h2.symm
    rw [h4] at h3
    simp only [List.length_nil] at h3
    have hl : ds.length = len := by rw [h1, List.length_map]; exact hel
    obtain rfl : cap = len := by omega
    rw [hl]
    refine ⟨a, rfl, fun i d hi => ?_⟩
    rw [h1, List.getElem?_map] at hi
    obtain ⟨y, hy, rfl⟩ := Option.map_eq_some_iff.1 hi
    have hin : i < elems.length := (List.getElem?_eq_some_iff.1 hy).1
    have h5 := hall i (by omega)
    rw [hy] at h5
    obtain ⟨cs', h6, h7⟩ := Option.bind_eq_some_iff.1 h5
    exact ⟨n, y.2, cs', h6, h7⟩
theorem at8 {a : Addr} {i : Nat} {cs' : List Value} (h : w.cells? base (a.add (i * 1)) 1 = some cs') : ∃ v, cs' = [v] ∧ w.cell? ((a.add (i * 1)).add 0) = some v := by
  obtain ⟨hl, hc⟩ := cells8 h
  match cs', hl with
  | [v], _ => exact ⟨v, rfl, by simpa using hc 0 (by omega)⟩
theorem spot8 {a : Addr} {v : Value} (h : w.cell? ((a.add (0 * 1)).add 0) = some v) : ∃ b o, a = ⟨b, o, none⟩ ∧ b < w.heap.size := by
  obtain ⟨b, o, s⟩ := a
  have hs1 : s = none := by
    have := World.cell?_spot h
    unfold Addr.add at this
    split at this <;> (try split at this) <;> simp_all
  subst hs1
  refine ⟨b, o, rfl, ?_⟩
  rw [add8, add8] at h
  exact World.block_lt_of_cell? w _ h
/-- The datum of a slice of ints. -/
def dI8 (zs : List Int) : DataW H := .slice (zs.map fun z => .lit (.int .i64 z)) []
theorem islc8 {zs : List Int} (ht : P.underlying t = some (.slice e)) (he : P.underlying e = some (.int .i64)) (hc : P.cellsOf e = 1) (hs : ∀ b, spare b = true) (h : DataW.trod enc P w base spare held fuel t cs = some (dI8 zs, ps)) :
    ∃ A, cs = [.slice A zs.length zs.length] ∧ Iz w A zs := by
  obtain ⟨a, hcs, hall⟩ := slc8 ht hs h
  rw [List.length_map] at hcs
  rw [hc] at hall
  have hat : ∀ i (hi : i < zs.length), w.cell? ((a.add (i * 1)).add 0) = some (.int .i64 zs[i]) := fun i hi => by
    obtain ⟨m, q, cs', h1, h2⟩ := hall i (.lit (.int .i64 zs[i])) (by rw [List.getElem?_map, List.getElem?_eq_getElem hi]; rfl)
    obtain ⟨v, rfl, h3⟩ := at8 h1
    have h4 := lit8 he h2
    simp only [List.cons.injEq, and_true] at h4
    rw [h3, h4]
  refine ⟨some a, hcs, fun hn => ?_⟩
  obtain ⟨b, o, rfl, hb⟩ := spot8 (hat 0 hn)
  refine ⟨b, o, rfl, hb, fun i hi => ?_⟩
  have h5 := hat i hi
  rw [add8, add8, Nat.mul_one, Nat.add_zero] at h5
  exact h5
def dL8 (l : List (List Int)) : DataW H := .slice (l.map dI8) []
theorem lslc8 {f : TypeId} {l : List (List Int)} (ht : P.underlying t = some (.slice e)) (he : P.underlying e = some (.slice f)) (hf : P.underlying f = some (.int .i64)) (hc : P.cellsOf e = 1) (hc2 : P.cellsOf f = 1) (hs : ∀ b, spare b = true) (h : DataW.trod enc P w base spare held fuel t cs = some (dL8 l, ps)) :
    ∃ A, cs = [.slice A l.length l.length] ∧ LLz8 w A l := by
  obtain ⟨a, hcs, hall⟩ := slc8 ht hs h
  rw [List.length_map] at hcs
  rw [hc] at hall
  have hat : ∀ i (hi : i < l.length), ∃ A2 d, w.cell? ((a.add (i * 1)).add 0) = some (.slice A2 l[i].length d) ∧ Iz w A2 l[i] := fun i hi => by
    obtain ⟨m, q, cs', h1, h2⟩ := hall i (dI8 l[i]) (by rw [List.getElem?_map, List.getElem?_eq_getElem hi]; rfl)
    obtain ⟨v, rfl, h3⟩ := at8 h1
    obtain ⟨A2, h4, h5⟩ := islc8 he hf hc2 hs h2
    simp only [List.cons.injEq, and_true] at h4
    exact ⟨A2, _, by rw [h3, h4], h5⟩
  refine ⟨some a, hcs, fun hn => ?_⟩
  obtain ⟨A2, d, h0, _⟩ := hat 0 hn
  obtain ⟨b, o, rfl, hb⟩ := spot8 h0
  refine ⟨b, o, rfl, hb, fun i hi => ?_⟩
  obtain ⟨A2, d, h5, h6⟩ := hat i hi
  rw [add8, add8, Nat.mul_one, Nat.add_zero] at h5
  exact ⟨A2, d, h5, h6⟩
end

theorem gLet8 : Tryd.prog.globalNamed "slatewall/template.letters" = some 0 := by kernel_rfl
theorem gRng8 : Tryd.prog.globalNamed "slatewall/template.rings" = some 2 := by kernel_rfl
theorem gCmp8 : Tryd.prog.globalNamed "slatewall/template.compass" = some 1 := by kernel_rfl
theorem tLet8 : (Tryd.prog.globals[0]?).map (·.type) = some 100 := by kernel_rfl
theorem tRng8 : (Tryd.prog.globals[2]?).map (·.type) = some 130 := by kernel_rfl
theorem tCmp8 : (Tryd.prog.globals[1]?).map (·.type) = some 119 := by kernel_rfl
/-- The three listed variables with their content. -/
abbrev laidL : List (String × DataW Unit) := [("slatewall/template.letters", Rows.laid_slatewall_template_letters), ("slatewall/template.rings", Rows.laid_slatewall_template_rings), ("slatewall/template.compass", Rows.laid_slatewall_template_compass)]
theorem dLet8 : (Rows.laid_slatewall_template_letters : DataW Unit) = .agg ((List.range 8).map fun i => .agg [.lit (.string (wd8 i).data.toList), dL8 (st8 i)]) := by kernel_rfl
theorem dRng8 : (Rows.laid_slatewall_template_rings : DataW Unit) = .agg ((List.range 2).map fun i => .agg ((List.range 4).map fun j => .lit (.int .i64 (rgs8.getD (i * 4 + j) 0)))) := by kernel_rfl
theorem dCmp8 : (Rows.laid_slatewall_template_compass : DataW Unit) = .agg ((List.range 3).map fun i => .agg ((List.range 3).map fun j => .lit (.int .i64 (cps8.getD (i * 3 + j) 0)))) := by kernel_rfl
theorem lt_of_cell8 {W : World} {g i : Nat} {v : Value} (h : W.cell? ⟨g, i, none⟩ = some v) : g < W.heap.size := by
  rcases Nat.lt_or_ge g W.heap.size with hlt | hge
  · exact hlt
  · simp [World.cell?, Array.getElem?_eq_none hge] at h
theorem cell_drop8 {cs : Array Value} {k m j : Nat} {v : Value} (h : ((cs.toList.drop k).take m)[j]? = some v) : cs[k + j]? = some v := by
  rw [List.getElem?_take] at h
  split at h
  · rw [List.getElem?_drop] at h; simpa using h
  · cases h
/-- What the condition gives the walks: the tables. -/
theorem tab_of_laid8 {W : World} (h : laidMetH Tryd.prog laidL W) : Tb8 W := by
  rw [MakeChecks.laidMetH_plain _ _ _ (by kernel_rfl)] at h
  obtain ⟨ps, ⟨g1, t1, cs1, f1, p1, q1, hg1, ht1, hv1, hd1, ⟨g2, t2, cs2, f2, p2, q2, hg2, ht2, hv2, hd2, ⟨g3, t3, cs3, f3, p3, q3, hg3, ht3, hv3, hd3, _, _⟩, _⟩, _⟩, _⟩ := h
  obtain rfl := Option.some.inj (tLet8.symm.trans (by rw [Option.some.inj (gLet8.symm.trans hg1)]; exact ht1))
  obtain rfl := Option.some.inj (tRng8.symm.trans (by rw [Option.some.inj (gRng8.symm.trans hg2)]; exact ht2))
  obtain rfl := Option.some.inj (tCmp8.symm.trans (by rw [Option.some.inj (gCmp8.symm.trans hg3)]; exact ht3))
  rw [dLet8] at hd1; rw [dRng8] at hd2; rw [dCmp8] at hd3
  have hL := fun i => World.var?_cell gLet8 hv1 i
  have hR := fun i => World.var?_cell gRng8 hv2 i
  have hC := fun i => World.var?_cell gCmp8 hv3 i
  have hc3 : ∀ i j, i < 3 → j < 3 → cs3[i * 3 + j]? = some (.int .i64 (cps8.getD (i * 3 + j) 0)) := fun i j hi hj => by
    obtain ⟨m, q, h1⟩ := arr8 Tryd.underlying119 hd3 (i := i) (by rw [List.getElem?_map, List.getElem?_range hi]; rfl)
    rw [show Tryd.prog.cellsOf 105 = 3 by kernel_rfl] at h1
    exact cell_drop8 (iarr8 Tryd.underlying105 Tryd.underlying3 (by kernel_rfl) h1 (i := j) (by rw [List.getElem?_map, List.getElem?_range hj]; rfl))
  have hc2 : ∀ i j, i < 2 → j < 4 → cs2[i * 4 + j]? = some (.int .i64 (rgs8.getD (i * 4 + j) 0)) := fun i j hi hj => by
    obtain ⟨m, q, h1⟩ := arr8 Tryd.underlying130 hd2 (i := i) (by rw [List.getElem?_map, List.getElem?_range hi]; rfl)
    rw [show Tryd.prog.cellsOf 122 = 4 by kernel_rfl] at h1
    exact cell_drop8 (iarr8 Tryd.underlying122 Tryd.underlying3 (by kernel_rfl) h1 (i := j) (by rw [List.getElem?_map, List.getElem?_range hj]; rfl))
  have hc1 : ∀ i, i < 8 → cs1[i * 2]? = some (.string (wd8 i)) ∧ ∃ A, cs1[i * 2 + 1]? = some (.slice A (st8 i).length (st8 i).length) ∧ LLz8 W A (st8 i) := fun i hi => by
    obtain ⟨m, q, h1⟩ := arr8 Tryd.underlying100 hd1 (i := i) (by rw [List.getElem?_map, List.getElem?_range hi]; rfl)
    rw [show Tryd.prog.cellsOf 99 = 2 by kernel_rfl] at h1
    obtain ⟨y0, y1, n, hx, _, h2, h3⟩ := trod_struct2 Tryd.underlying99 h1
    simp only [Prod.mk.injEq, DataW.agg.injEq, List.cons.injEq, and_true] at hx
    obtain ⟨⟨e0, e1⟩, -⟩ := hx
    obtain ⟨z0, z0p⟩ := y0; obtain ⟨z1, z1p⟩ := y1
    simp only at e0 e1; subst e0; subst e1
    obtain ⟨s, hs, hsx, _⟩ := DataW.trod_string Tryd.underlying9 h2
    simp only [Prod.mk.injEq, DataW.lit.injEq, Lit.string.injEq] at hsx
    have hse : s = wd8 i := by
      have h9 := hsx.1
      rcases s with ⟨⟨sl⟩⟩
      simp only [wd8] at h9 ⊢
      rw [← h9]
    obtain ⟨A, hA, hLL⟩ := lslc8 Tryd.underlying78 Tryd.underlying23 Tryd.underlying3 (by kernel_rfl) (by kernel_rfl) (fun _ => rfl) h3
    rw [hse] at hs
    refine ⟨?_, A, ?_, hLL⟩
    · have h5 := congrArg (·[0]?) hs
      rw [show Tryd.prog.cellsOf 9 = 1 by kernel_rfl] at h5
      have h6 := List.getElem?_take_of_lt (show 0 < 1 by omega) (l := (((cs1.toList.drop (i * 2)).take 2).drop 0))
      simp only [List.drop_zero] at h5 h6
      rw [h6] at h5
      simpa using h5
    · have h5 := congrArg (·[0]?) hA
      rw [show Tryd.prog.cellsOf 78 = 1 by kernel_rfl] at h5
      simp only at h5
      rw [List.getElem?_take_of_lt (by omega), List.getElem?_drop] at h5
      simpa using h5
  unfold Tb8 Cp8 Rg8 Lt8
  refine ⟨⟨?_, ?_⟩, ⟨?_, ?_⟩, ?_, ?_⟩
  · exact lt_of_cell8 ((hC 0).trans (hc3 0 0 (by omega) (by omega)))
  · intro i hi
    have h2 := hc3 (i / 3) (i % 3) (by omega) (by omega)
    rw [show i / 3 * 3 + i % 3 = i by omega] at h2
    exact (hC i).trans h2
  · exact lt_of_cell8 ((hR 0).trans (hc2 0 0 (by omega) (by omega)))
  · intro i hi
    have h2 := hc2 (i / 4) (i % 4) (by omega) (by omega)
    rw [show i / 4 * 4 + i % 4 = i by omega] at h2
    exact (hR i).trans h2
  · exact lt_of_cell8 ((hL 0).trans (hc1 0 (by omega)).1)
  · have key : ∀ i, ∃ A, i < 8 → cs1[i * 2 + 1]? = some (.slice A (st8 i).length (st8 i).length) ∧ LLz8 W A (st8 i) := fun i => by
      by_cases hi : i < 8
      · obtain ⟨A, hA⟩ := (hc1 i hi).2
        exact ⟨A, fun _ => hA⟩
      · exact ⟨none, fun h => absurd h hi⟩
    refine ⟨fun i => (key i).choose, fun i => (st8 i).length, fun i hi => ?_⟩
    have h1 := (key i).choose_spec hi
    exact ⟨⟨(hL _).trans (hc1 i hi).1, (hL _).trans h1.1⟩, h1.2⟩
/-- The heap in which a run begins meets the condition. -/
theorem door_met8 (os : Os) (args : Array Value) : laidMetH Tryd.prog laidL ((World.doorLaid Tryd.prog 400 os).forCall (fun _ _ => 0) ⟨#[], args, []⟩).memory :=
  laidMetH_of_parts3 (fuel := 8) (laidMet_of_run' 8 (by kernel_rfl) (by kernel_rfl)) (by kernel_rfl) (by kernel_rfl)
end Go.Proofs.YtmjcjaecaigahaaDoor
