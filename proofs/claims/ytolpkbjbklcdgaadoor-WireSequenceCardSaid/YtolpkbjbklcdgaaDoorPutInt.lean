/- The contract of PutInt: for every integer the bytes of its encoding, or the error; nothing that lay in memory has changed. No conditions. -/
import Derived.Test.YtolpkbjbklcdgaaDoorGroups
import Derived.Laws.IdiomStrings
import Derived.Laws.BytesArg
namespace Go.Proofs.YtolpkbjbklcdgaaDoor
open Go.RowKit Go.Shelf Go.Lib

attribute [local go_sem] Oper.semAt_some

/-- A byte as a value. -/
def bv (b : UInt8) : Value := .int .u8 b.toNat

/-- string(b) of a row of the call's own. -/
theorem run_string_own {P : Program} {w : World} {base e : Nat} {v : Value} {l : List UInt8} (src dst : TypeId) (hs : P.underlying src = some (.slice e)) (he : P.underlying e = some (.int .u8)) (hd : P.underlying dst = some .string)
    (h : w.ownsRow base e 1 v l.length (l.map bv)) : (convert src dst v).run P w = .ok (.string ⟨l.toArray⟩) w := by
  rcases h.2 with ⟨rfl, h0⟩ | ⟨g, cap, cur, rfl, _⟩
  · rw [run_convert_bytes_nil w src e hs he 0 0 dst hd]
    have : l = [] := List.eq_nil_of_length_eq_zero h0
    subst this; rfl
  · refine run_convert_bytes_back w src dst e ⟨g, 0, none⟩ cap l hs he hd fun j hj => ?_
    have := h.cellAt j (by omega)
    have e1 : (⟨g, 0, none⟩ : Addr).add j = ⟨g, j, none⟩ := by unfold Addr.add; split <;> simp_all
    rw [e1, this]
    simp [bv, hj]

theorem info_u8 : (Tryd.prog.info? 5).map (fun i => (i.zero, i.size, i.bytes)) = some (some (.int .u8 0), 1, 1) := by kernel_rfl

/-- The new array. -/
def nine : Array Value := Array.replicate 9 (.int .u8 0)
/-- What PutInt returns. -/
def putS (n : Int) : ByteArray := if okI n then ⟨(enc n).toArray⟩ else ⟨#[]⟩
def putE (n : Int) : Int := if okI n then 0 else 10

set_option maxRecDepth 100000 in
set_option maxHeartbeats 2000000 in
theorem putint_ok (n : Int) (w : World) (h1 : -4611686018427387903 ≤ n) (h2 : n ≤ 4611686018427387903) :
    Calls Tryd.prog 12 #[.int .i64 n] w fun e w' => e = .returned (.tuple #[.string ⟨(enc n).toArray⟩, .int .i64 0]) ∧ Below w.heap.size w w' := by
  refine (callsIn_wide (n := 5)).1 ?_
  obtain ⟨i0, hi, hz0, hz1, hz2⟩ := info_parts info_u8
  have hro : Fence.wide.round = none := rfl
  have hzl := zigzag_le ⟨h1, h2⟩
  refine callsIn_of_wp_marks Tryd.func12 rfl trivial ?_ hro
  simp only [Tryd.ntmps12, List.size_toArray, List.length_cons, List.length_nil, Nat.reduceAdd, Nat.reduceSub, Array.replicate_succ, Array.replicate_zero, List.push_toArray, List.append_toArray, List.nil_append, List.cons_append]
  have hmk : ∀ w, (Instr.makeSlice 38 (.int .i64 0) (.int .i64 9)).run Tryd.prog w = .ok (.slice (some ⟨w.heap.size, 0, none⟩) 0 9) (w.alloc (.cells nine 5)) := fun _ => by kernel_rfl
  gi_wp2_with (first
    | (refine ⟨trivial, ?_⟩; gi_at_call 24; refine (callsIn_wide.2 (fold_any n _ h1 h2)).mono ?_; rintro e w' ⟨rfl, rfl⟩)
    | (refine ⟨trivial, ?_⟩; gi_at_call 23; refine (groups_in Fence.wide 4 trivial hro (zigzag n) _).mono ?_; rintro e w' ⟨rfl, rfl⟩))
  have bC := Boxed.new (w.alloc (.cells nine 5)) 38 (.slice (some ⟨w.heap.size, 0, none⟩) 0 9)
  rw [World.size_alloc] at bC
  have bZ := Boxed.new ((w.alloc (.cells nine 5)).alloc (.cells #[.slice (some ⟨w.heap.size, 0, none⟩) 0 9] 38)) 48 (.int .u64 (zigzag n))
  rw [World.size_alloc, World.size_alloc] at bZ
  have hB0 : Below w.heap.size w (((w.alloc (.cells nine 5)).alloc (.cells #[.slice (some ⟨w.heap.size, 0, none⟩) 0 9] 38)).alloc (.cells #[.int .u64 (zigzag n)] 48)) :=
    (((Below.refl _ w).alloc (Nat.le_refl _) _).alloc (by simp) _).alloc (by simp; omega) _
  have hrow0 : ((w.alloc (.cells nine 5)).alloc (.cells #[.slice (some ⟨w.heap.size, 0, none⟩) 0 9] 38)).ownsRow w.heap.size 5 1 (.slice (some ⟨w.heap.size, 0, none⟩) 0 9) 0 [] :=
    ⟨rfl, .inr ⟨w.heap.size, 9, nine, rfl, Nat.le_refl _, by rw [Below.heap_alloc _ _ _ (by simp)]; exact World.alloc_heap_new w _, by omega, by unfold maxLen; omega, rfl, rfl⟩⟩
  refine wpIn_rangeFunc_ownG hro (by omega) (gf := 30) (lb := #[.pointer (some ⟨w.heap.size + 1 + 1, 0, none⟩)]) rfl trivial (enters_of Tryd.func30 (by kernel_rfl) rfl)
    (groups_stops Fence.wide 4 trivial hro (by omega) (w.heap.size + 1 + 1) w.heap.size (zigzag n) (by omega) _ (by simp) bZ.cell) belowK_t (belowK_b (by simp; omega)) (Below.refl _ _) (fun _ => rfl)
    (fun pre W => (∃ v, Boxed W (w.heap.size + 1) 38 v ∧ W.ownsRow w.heap.size 5 1 v pre.length ((pre.map byteOf).map bv) ∧ True) ∧ Below w.heap.size w W)
    (fun _ _ _ => False)
    (OwnFrom.and (Own.from (holdsRow_own w.heap.size (w.heap.size + 1) 38 5 1 (fun pre : List (UInt8 × Bool) => pre.length) (fun pre : List (UInt8 × Bool) => (pre.map byteOf).map bv) (fun _ _ => True)) _) (ownFrom_below (Nat.le_refl _) (by simp; omega)))
    (fun _ _ _ _ _ hs _ _ => hs)
    ⟨⟨_, bC.alloc _, hrow0.alloc _, trivial⟩, hB0⟩
    (fun x => { tmps := #[.int .i64 n, undef, .string ⟨#[]⟩, .int .i64 0, .pointer (some ⟨w.heap.size + 1, 0, none⟩), .int .u8 x.1.toNat, .bool x.2, .int .i64 n, .bool (decide (n < -4611686018427387903)), .bool (decide (n < -4611686018427387903)), .int .i64 n, .bool (decide (4611686018427387903 < n)), .bool (decide (n < -4611686018427387903) || decide (4611686018427387903 < n)), .slice (some ⟨w.heap.size, 0, none⟩) 0 9, .int .i64 n, .int .u64 (zigzag n), .func (.func 30) #[] #[.pointer (some ⟨w.heap.size + 1 + 1, 0, none⟩)], .int .u8 x.1.toNat, .bool x.2, undef, undef, undef, undef, undef, undef, undef, undef, undef, undef], defers := [] }) ?assign ?body ?done ?stop
  case assign =>
    intro l x W K hK
    gi_wp2
    exact hK
  case body =>
    rintro l pre ⟨g, last⟩ W ⟨⟨v, hv, hrow, -⟩, hB⟩ hlt
    have hc := hv.cell
    have hb9 : (gl (zigzag n)).length ≤ 9 := by rw [gl_length]; exact enc_length ⟨h1, h2⟩
    have hpl : pre.length < 9 := by omega
    cases last
    · have eb : byteOf (g, false) = g + 128 := rfl
      have en : ((g + 128 : UInt8).toNat : Int) = ((g.toNat : Int) + 128) % 256 := by rw [UInt8.toNat_add]; show (((g.toNat + 128) % 256 : Nat) : Int) = _; omega
      have EN := Lib.hid en; clear en
      gi_wp2_with (gi_at_builtin; refine wpListIn_append_own _ rfl _ _ 38 rfl w.heap.size 5 i0 (.int .u8 0) 1 1 Tryd.underlying38 hi hz0 hz1 hz2 rfl (by decide) _ _ _ rfl (hrow.alloc _) ⟨W.heap.size, 0, none⟩ 1 1 [.int .u8 (((g.toNat : Int) + 128) % 256)] rfl rfl (cell_one_new _ _ _) (by simp [Value.oneCell']) (by unfold maxLen; omega) (by omega) (by have := hB.size; simp; omega) ?_; intro v' w1 hown' hgrow _; obtain ⟨g', cap', rfl⟩ := ownsRow_succ hown'; obtain ⟨hv1, hv2, hr2, hk2, hb2⟩ := hv.appended (by decide) hrow hB.size (by omega) hown' hgrow; have hc1 := hv1.cell; have hf1 := hv1.frozen)
      exact ⟨hk2.from _, hb2, ⟨_, hv2, by simpa [eb, bv, EN.out] using hr2, trivial⟩, hB.trans hb2⟩
    · have eb : byteOf (g, true) = g := rfl
      gi_wp2_with (gi_at_builtin; refine wpListIn_append_own _ rfl _ _ 38 rfl w.heap.size 5 i0 (.int .u8 0) 1 1 Tryd.underlying38 hi hz0 hz1 hz2 rfl (by decide) _ _ _ rfl (hrow.alloc _) ⟨W.heap.size, 0, none⟩ 1 1 [.int .u8 g.toNat] rfl rfl (cell_one_new _ _ _) (by simp [Value.oneCell']) (by unfold maxLen; omega) (by omega) (by have := hB.size; simp; omega) ?_; intro v' w1 hown' hgrow _; obtain ⟨g', cap', rfl⟩ := ownsRow_succ hown'; obtain ⟨hv1, hv2, hr2, hk2, hb2⟩ := hv.appended (by decide) hrow hB.size (by omega) hown' hgrow; have hc1 := hv1.cell; have hf1 := hv1.frozen)
      exact ⟨hk2.from _, hb2, ⟨_, hv2, by simpa [eb, bv] using hr2, trivial⟩, hB.trans hb2⟩
  case done =>
    rintro D ys W hD rfl ⟨⟨v, hv, hrow, -⟩, hB⟩ hK
    have hc := hv.cell
    rw [gl_uvarint, gl_length] at hrow
    have hcv := run_string_own (P := Tryd.prog) 38 9 Tryd.underlying38 Tryd.underlying5 Tryd.underlying9 hrow
    gi_wp2
    refine ⟨by simp, .inl ⟨_, _, rfl, run_takeDeferred hK, ?_⟩⟩
    exact ⟨_, results_tmp2 rfl _ _ _, rfl, hB.trans (belowK_b (w := w) (Nat.le_refl _) W D _ _ (by simp at hD; omega) hK rfl rfl)⟩
  case stop =>
    rintro D c pre W _ _ h _
    exact h.elim

theorem putint_lo (n : Int) (w : World) (_h : n < -4611686018427387903) (_h2 : ¬ 4611686018427387903 < n) :
    Calls Tryd.prog 12 #[.int .i64 n] w fun e w' => e = .returned (.tuple #[.string ⟨#[]⟩, .int .i64 10]) ∧ Below w.heap.size w w' := by
  refine (callsIn_wide (n := 5)).1 ?_
  refine callsIn_of_wp_marks Tryd.func12 rfl trivial ?_ rfl
  simp only [Tryd.ntmps12, List.size_toArray, List.length_cons, List.length_nil, Nat.reduceAdd, Nat.reduceSub, Array.replicate_succ, Array.replicate_zero, List.push_toArray, List.append_toArray, List.nil_append, List.cons_append]
  gi_wp2
  exact ⟨_, results_tmp2 rfl _ _ _, rfl, Below.refl _ _⟩
theorem putint_hi (n : Int) (w : World) (_h : ¬ n < -4611686018427387903) (_h2 : 4611686018427387903 < n) :
    Calls Tryd.prog 12 #[.int .i64 n] w fun e w' => e = .returned (.tuple #[.string ⟨#[]⟩, .int .i64 10]) ∧ Below w.heap.size w w' := by
  refine (callsIn_wide (n := 5)).1 ?_
  refine callsIn_of_wp_marks Tryd.func12 rfl trivial ?_ rfl
  simp only [Tryd.ntmps12, List.size_toArray, List.length_cons, List.length_nil, Nat.reduceAdd, Nat.reduceSub, Array.replicate_succ, Array.replicate_zero, List.push_toArray, List.append_toArray, List.nil_append, List.cons_append]
  gi_wp2
  exact ⟨_, results_tmp2 rfl _ _ _, rfl, Below.refl _ _⟩

/-- PutInt, for every integer. -/
theorem putint_any (n : Int) (w : World) :
    Calls Tryd.prog 12 #[.int .i64 n] w fun e w' => e = .returned (.tuple #[.string (putS n), .int .i64 (putE n)]) ∧ Below w.heap.size w w' := by
  unfold putS putE
  by_cases h : okI n
  · rw [if_pos h, if_pos h]; exact putint_ok n w h.1 h.2
  · rw [if_neg h, if_neg h]
    unfold okI at h
    by_cases h2 : n < -4611686018427387903
    · exact putint_lo n w h2 (by omega)
    · exact putint_hi n w h2 (by omega)
end Go.Proofs.YtolpkbjbklcdgaaDoor
