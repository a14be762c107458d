/- From a statement's contract to its row, where no variable is laid: that what came in reads afterwards as before; how arguments are opened. No conditions. | How an argument is opened that is an array of ints. No conditions. | Rows of m ints in memory. No conditions. | How an argument is opened that is a slice of arrays of ints. No conditions. | How an argument is opened that is an array of arrays of ints. No conditions. -/
import Derived.ProofKit
import Derived.OpenShut
import Derived.Stop.Joined
import Derived.Carry
import Derived.ChangeMaps5
import Derived.SizedLaws
import Derived.SliceStrings
import Derived.Deep.Slices
import Derived.Test.YtpjbihfkedbenaaGreatGA
namespace Go.Proofs.YtpjbihfkedbenaaGreat
open Go.ChangeShapes Go.WideShapes Go.ChangeAt Go.WideMaps Go.WideElems Go.RowKit
theorem own : ownKnob Tryz.prog.godebug = none := by kernel_rfl
theorem laidOut : laidOutB Tryz.prog = true := by kernel_rfl
theorem wf_int {n : Int} (h : (Lit.int .i64 n).wf = true) : -9223372036854775808 <= n /\ n <= 9223372036854775807 := by
 have h1 : IntKind.i64.min = -9223372036854775808 := rfl
 have h2 : IntKind.i64.max = 9223372036854775807 := rfl
 simp only [Lit.wf, Bool.and_eq_true, decide_eq_true_eq] at h
 omega
theorem trodAll_below {H : Type} {P : Program} (hl : laidOutB P = true) {enc : TypeId × Value -> H} {W W' : World} (hb : Below W.heap.size W W') : ∀ (ts : List TypeId) (vs : List Value) (ds : List (DataW H)) (p : List MemPlace),
   (ts.all fun t => P.readableRec t && decide (t < P.types.size)) = true -> (∀ x ∈ p, x.block < W.heap.size) →
   DataW.TrodAll enc P W 0 (fun _ => true) true ts vs ds p -> DataW.TrodAll enc P W' 0 (fun b => decide (b < W.heap.size)) true ts vs ds p
 | [], [], [], _, _, _, h => h
 | t :: ts, v :: vs, d :: ds, p, ht, hp, h => by
   obtain ⟨p1, q, h1, h2, rfl⟩ := h
   rw [List.all_cons, Bool.and_eq_true, Bool.and_eq_true, decide_eq_true_eq] at ht
   exact ⟨p1, q, Below.trod hl ht.1.1 ht.1.2 h1 hb (fun x hx => hp x (List.mem_append_left _ hx)), trodAll_below hl hb ts vs ds q ht.2 (fun x hx => hp x (List.mem_append_right _ hx)) h2, rfl⟩
 | [], [], _ :: _, _, _, _, h => h.elim
 | [], _ :: _, _, _, _, _, h => h.elim
 | _ :: _, [], _, _, _, _, h => h.elim
 | _ :: _, _ :: _, [], _, _, _, h => h.elim
theorem law_post {H : Type} {enc : TypeId × Value -> H} {f : Func} {s : ChangeSpec} {W W' : World} {args : Array Value} {ds gs : List (DataW H)} {before : List MemPlace}
   (hvars : s.vars = []) (hres : f.resultTypes = #[4]) (hts : (f.params.toList.all fun t => Tryz.prog.readableRec t && decide (t < Tryz.prog.types.size)) = true)
   (hs : s.fn H (ds ++ []) = { results := [.lit (.bool true)], args := ds })
   (hW : DataW.Whole enc Tryz.prog f.params.toList s.vars false W args.toList ds gs before) (hb : Below W.heap.size W W') :
   s.post enc Tryz.prog f false true false false W args (.bool true) W' := by
 have hW' := hW
 rw [hvars] at hW
 obtain ⟨p, q, hA, hV, rfl, _, _⟩ := hW
 obtain ⟨rfl, rfl⟩ := trodVars_none hV
 refine ⟨ds, [], p ++ [], [], p, [], hW', ?_, ?_, ?_, hb.frame _, fun h => by cases h⟩
 · rw [hs, hres]; exact trodAll_mk1 (shut_bool Tryz.underlying4 true)
 · rw [hs]
   refine trodAll_below laidOut hb _ _ _ _ hts (fun x hx => ?_) hA
   have := hW'.lt x (List.mem_append_left _ hx)
   exact this
 · rw [hs, hvars]; rfl
section
variable {H : Type} {enc : TypeId × Value -> H} {P : Program} {w : World} {base : Nat} {spare : Nat -> Bool} {held : Bool}
def intIn : Value -> Int
 | .int _ z => z
 | _ => 0
theorem open_ints {r : Reach} {b0 n : Nat} {t e : TypeId} {v : Value} {d : DataW H} {ps : List MemPlace} (ht : P.underlying t = some (.array n e)) (he : P.underlying e = some (.int .i64)) (hc : P.cellsOf e = 1) (hct : P.cellsOf t = n)
   (hval : Value.okWide P w r b0 t v) (hd : DataW.Trod enc P w base spare held t v d ps) :
   ∃ zs : List Int, zs.length = n /\ v = .agg (zs.map iv).toArray /\ d = .agg (zs.map fun z => .lit (.int .i64 z)) /\ ps = [] /\ ∀ z ∈ zs, -9223372036854775808 <= z /\ z <= 9223372036854775807 := by
 simp only [Value.okWide, ht] at hval
 obtain ⟨cs, rfl, hcs, -⟩ := hval
 obtain ⟨fuel, hf⟩ := hd
 obtain ⟨xs, m, rfl, hx, hl, hxl, hall⟩ := DataW.trod_array ht hf
 rw [hc] at hall
 have hl2 : cs.toList.length = n := by rw [<- hct]; exact hl
 have hl3 : cs.size = n := by simpa using hl2
 have hat : ∀ i (h : i < n), ∃ z, cs.toList[i]'(by omega) = .int .i64 z /\ xs[i]'(by omega) = (.lit (.int .i64 z), []) /\ (Lit.int .i64 z).wf = true := fun i h => by
   have h1 := hall i h
   rw [List.getElem?_eq_getElem (by omega)] at h1
   obtain ⟨z, h2, h3, h4⟩ := DataW.trod_int he h1
   refine ⟨z, ?_, h3, h4⟩
   have h5 : cs.toList[i]? = some (.int .i64 z) := by
     have := congrArg (·[0]?) h2
     simpa [List.getElem?_take, List.getElem?_drop, Value.cells] using this
   rw [List.getElem?_eq_getElem (by omega)] at h5
   exact Option.some.inj h5
 refine ⟨cs.toList.map intIn, by simpa using hl3, ?_, ?_, ?_, ?_⟩
 · congr 1
   apply Array.ext
   · simp
   · intro i h1 h2
     obtain ⟨z, h3, -, -⟩ := hat i (by omega)
     have h4 : cs[i] = .int .i64 z := by simpa using h3
     simp [h4, intIn, iv]
 · have e1 := congrArg Prod.fst hx
   simp only at e1
   rw [e1]
   congr 1
   apply List.ext_getElem
   · simp [hxl, hl3]
   · intro i h1 h2
     obtain ⟨z, h3, h4, -⟩ := hat i (by simpa [hxl] using h1)
     have h5 : cs[i]'(by have : i < xs.length := by simpa using h1
                         omega) = .int .i64 z := by simpa using h3
     simp [h4, h5, intIn]
 · have e2 := congrArg Prod.snd hx
   simp only at e2
   rw [e2, List.flatMap_eq_nil_iff]
   intro x hx2
   obtain ⟨i, hi, rfl⟩ := List.getElem_of_mem hx2
   obtain ⟨z, -, h4, -⟩ := hat i (by omega)
   rw [h4]
 · intro z hz
   obtain ⟨v, hv, rfl⟩ := List.mem_map.1 hz
   obtain ⟨i, hi, rfl⟩ := List.getElem_of_mem hv
   obtain ⟨z, h3, -, h5⟩ := hat i (by omega)
   rw [h3]
   exact wf_int h5
end
theorem two_of : ∀ {zs : List Int}, zs.length = 2 -> ∃ a b, zs = [a, b]
 | [a, b], _ => ⟨a, b, rfl⟩
end Go.Proofs.YtpjbihfkedbenaaGreat
namespace Go.Proofs.YtpjbihfkedbenaaGreat
open Go.RowKit Go.Lib
def Xz (m : Nat) (w : World) (A : Option Addr) (n : Nat) : Prop := 0 < n -> ∃ b o, A = some ⟨b, o, none⟩ /\ b < w.heap.size /\ ∀ i, i < n -> ∀ j, j < m -> ∃ u : Int, (-9223372036854775808 <= u /\ u <= 9223372036854775807) /\ w.cell? ⟨b, o + i * m + j, none⟩ = some (.int .i64 u)
theorem Xz.below {m : Nat} {w w' : World} {A : Option Addr} {n B : Nat} (h : Xz m w A n) (hb : Below B w w') (hB : w.heap.size <= B) : Xz m w' A n := fun hn => by
 obtain ⟨b, o, e, hl, hc⟩ := h hn
 refine ⟨b, o, e, Nat.lt_of_lt_of_le hl hb.size, fun i hi j hj => ?_⟩
 obtain ⟨u, h1, h2⟩ := hc i hi j hj
 exact ⟨u, h1, (hb.cell (p := ⟨b, _, none⟩) (Nat.lt_of_lt_of_le hl hB)).trans h2⟩
theorem Xz.row2 {w : World} {A : Option Addr} {n : Nat} (h : Xz 2 w A n) {i : Nat} (hi : i < n) : ∃ (b o : Nat) (u0 u1 : Int), A = some ⟨b, o, none⟩ /\ (-9223372036854775808 <= u0 /\ u0 <= 9223372036854775807) /\ (-9223372036854775808 <= u1 /\ u1 <= 9223372036854775807) ∧
   ∀ W, Below w.heap.size w W -> W.cell? ⟨b, o + i * 2, none⟩ = some (.int .i64 u0) /\ W.cell? ⟨b, o + i * 2 + 1, none⟩ = some (.int .i64 u1) := by
 obtain ⟨b, o, e, hl, hc⟩ := h (by omega)
 obtain ⟨u0, r0, c0⟩ := hc i hi 0 (by omega)
 obtain ⟨u1, r1, c1⟩ := hc i hi 1 (by omega)
 exact ⟨b, o, u0, u1, e, r0, r1, fun W hb => ⟨(hb.cell (p := ⟨b, _, none⟩) hl).trans c0, (hb.cell (p := ⟨b, _, none⟩) hl).trans c1⟩⟩
end Go.Proofs.YtpjbihfkedbenaaGreat
namespace Go.Proofs.YtpjbihfkedbenaaGreat
open Go.ChangeShapes Go.WideShapes Go.ChangeAt Go.WideMaps Go.WideElems Go.RowKit
theorem add_plain (b o i : Nat) : (⟨b, o, none⟩ : Addr).add i = ⟨b, o + i, none⟩ := by unfold Addr.add; split <;> simp_all
theorem cells_at {w : World} {base : Nat} {a : Addr} {n : Nat} {cs : List Value} (h : w.cells? base a n = some cs) : cs.length = n /\ ∀ i, i < n -> w.cell? (a.add i) = cs[i]? := by
 unfold World.cells? at h
 split at h
 · refine ⟨by simpa using mapM_some_length h, fun i hi => ?_⟩
   have := mapM_some_get h i i (by simp [hi])
   exact this
 · cases h
section
variable {H : Type} {enc : TypeId × Value -> H} {P : Program} {W : World} {bs : Nat} {sp : Nat -> Bool} {held : Bool}
theorem ints_cells {t e : TypeId} {n m : Nat} {cs : List Value} {x : DataW H × List MemPlace} (ht : P.underlying t = some (.array m e)) (he : P.underlying e = some (.int .i64)) (hc : P.cellsOf e = 1) (h : DataW.trod enc P W bs sp held n t cs = some x) :
   ∀ j, j < m -> ∃ z : Int, cs[j]? = some (.int .i64 z) /\ -9223372036854775808 <= z /\ z <= 9223372036854775807 := fun j hj => by
 obtain ⟨xs, k, -, -, -, hxl, hall⟩ := DataW.trod_array ht h
 have h1 := hall j hj
 rw [hc, List.getElem?_eq_getElem (by omega)] at h1
 obtain ⟨z, h2, -, h4⟩ := DataW.trod_int he h1
 refine ⟨z, ?_, wf_int h4⟩
 have := congrArg (·[0]?) h2
 simpa [List.getElem?_take, List.getElem?_drop] using this
theorem open_rows {b0 : Nat} {r : Reach} {t e f : TypeId} {v : Value} {d : DataW H} {p : List MemPlace}
   {m0 : Nat} (hm0 : 0 < m0) (ht : P.underlying t = some (.slice e)) (he : P.underlying e = some (.array m0 f)) (hf : P.underlying f = some (.int .i64)) (hc : P.cellsOf f = 1) (hce : P.cellsOf e = m0) (hval : Value.okWide P W r b0 t v) (hd : DataW.Trod enc P W bs sp held t v d p) :
   ∃ (A : Option Addr) (n c : Nat), v = .slice A n c /\ Xz m0 W A n /\ n <= 9223372036854775807 := by
 obtain ⟨a0, len, cap, rfl⟩ := okWide_slice ht hval
 obtain ⟨fuel, hf2⟩ := hd
 rcases Go.Deep.open_slice ht hf2 with ⟨hcs, hx⟩ | ⟨a, len', cap', m, n, D, Pl, hcs, _, hl, hm, hmm, hx, hel⟩
 · simp [Value.cells] at hcs
   obtain ⟨rfl, rfl, rfl⟩ := hcs
   exact ⟨none, 0, 0, rfl, fun h => absurd h (by omega), by omega⟩
 · simp [Value.cells] at hcs
   obtain ⟨rfl, rfl, rfl⟩ := hcs
   have hmax : len <= 9223372036854775807 := by unfold maxLen at hm; omega
   have hlm : len <= m := by rw [hmm]; split <;> omega
   have hat : ∀ i, i < len -> ∀ j, j < m0 -> ∃ z : Int, W.cell? ((a.add (i * m0)).add j) = some (.int .i64 z) /\ -9223372036854775808 <= z /\ z <= 9223372036854775807 := fun i hi j hj => by
     obtain ⟨cs', h1, h2⟩ := hel i (by omega)
     rw [hce] at h1
     obtain ⟨z, h3, h4⟩ := ints_cells he hf hc h2 j hj
     exact ⟨z, ((cells_at h1).2 j hj).trans h3, h4⟩
   refine ⟨some a, len, cap, rfl, fun hn => ?_, hmax⟩
   obtain ⟨b, o, s⟩ := a
   obtain ⟨z0, hc0, -⟩ := hat 0 (by omega) 0 hm0
   have hs1 : s = none := by
     cases s with
     | none => rfl
     | some k => exact absurd (World.cell?_spot hc0) (by simp [Addr.add])
   subst hs1
   have l1 : b < W.heap.size := by have := World.block_lt_of_cell? W _ hc0; rw [add_plain, add_plain] at this; exact this
   refine ⟨b, o, rfl, l1, fun i hi j hj => ?_⟩
   obtain ⟨u0, c0, r0⟩ := hat i hi j hj
   rw [add_plain, add_plain] at c0
   exact ⟨u0, r0, c0⟩
end
section
variable {H : Type} {enc : TypeId × Value -> H} {P : Program} {w : World} {base : Nat} {spare : Nat -> Bool} {held : Bool}
theorem open_arrs {r : Reach} {b0 n m0 : Nat} {t e f : TypeId} {v : Value} {d : DataW H} {ps : List MemPlace} (hm0 : 0 < m0) (ht : P.underlying t = some (.array n e)) (he : P.underlying e = some (.array m0 f)) (hf : P.underlying f = some (.int .i64)) (hc : P.cellsOf f = 1) (hce : P.cellsOf e = m0) (hct : P.cellsOf t = n * m0)
   (hval : Value.okWide P w r b0 t v) (hd : DataW.Trod enc P w base spare held t v d ps) :
   ∃ zs : List Int, zs.length = n * m0 /\ v = .agg (zs.map iv).toArray /\ ∀ z ∈ zs, -9223372036854775808 <= z /\ z <= 9223372036854775807 := by
 simp only [Value.okWide, ht] at hval
 obtain ⟨cs, rfl, hcs, -⟩ := hval
 obtain ⟨fuel, hf2⟩ := hd
 obtain ⟨xs, m, rfl, hx, hl, hxl, hall⟩ := DataW.trod_array ht hf2
 rw [hce] at hall
 have hl2 : cs.toList.length = n * m0 := by rw [<- hct]; exact hl
 have hl3 : cs.size = n * m0 := by simpa using hl2
 have hat : ∀ q (h : q < n * m0), ∃ z : Int, cs.toList[q]'(by omega) = .int .i64 z /\ -9223372036854775808 <= z /\ z <= 9223372036854775807 := fun q h => by
   have hi : q / m0 < n := (Nat.div_lt_iff_lt_mul hm0).2 h
   have hj : q % m0 < m0 := Nat.mod_lt _ hm0
   have hdm : q / m0 * m0 + q % m0 = q := by rw [Nat.mul_comm]; exact Nat.div_add_mod q m0
   have h1 := hall (q / m0) hi
   rw [List.getElem?_eq_getElem (by omega)] at h1
   obtain ⟨z, h2, h3⟩ := ints_cells he hf hc h1 (q % m0) hj
   refine ⟨z, ?_, h3⟩
   rw [List.getElem?_take_of_lt hj, List.getElem?_drop, hdm] at h2
   have h5 : cs.toList[q]? = some (.int .i64 z) := h2
   rw [List.getElem?_eq_getElem (by omega)] at h5
   exact Option.some.inj h5
 refine ⟨cs.toList.map intIn, by simpa using hl3, ?_, ?_⟩
 · congr 1
   apply Array.ext
   · simp
   · intro i h1 h2
     obtain ⟨z, h3, -⟩ := hat i (by omega)
     have h4 : cs[i] = .int .i64 z := by simpa using h3
     simp [h4, intIn, iv]
 · intro z hz
   obtain ⟨v, hv, rfl⟩ := List.mem_map.1 hz
   obtain ⟨i, hi, rfl⟩ := List.getElem_of_mem hv
   obtain ⟨z, h3, h5⟩ := hat i (by omega)
   rw [h3]
   exact h5
end
theorem twelve_of : ∀ {zs : List Int}, zs.length = 3 * 4 -> ∃ a b c d e f g h i j k l, zs = [a, b, c, d, e, f, g, h, i, j, k, l]
 | [a, b, c, d, e, f, g, h, i, j, k, l], _ => ⟨a, b, c, d, e, f, g, h, i, j, k, l, rfl⟩
end Go.Proofs.YtpjbihfkedbenaaGreat
