
/- redrawn, for both of its element types: what change makes of each element. Conditions: the slices read; what change does. -/
import Derived.Test.YtamogfcedkjmcaaPv5
import Derived.Test.YtamogfcedkjmcaaGrw5
import Derived.Test.YtamogfcedkjmcaaMv5
import Derived.Test.YtamogfcedkjmcaaIn5
namespace Go.Proofs.Ytamogfcedkjmcaa
open Go.RowKit Go.Lib Go.Shelf

/-- A stroke of such dots has been returned, or none. -/
def OutT (ok : Prop) (P N : Int) (es : List Dt) (w : World) (e : Ending) (w' : World) : Prop :=
  ((ok ∧ ∃ A c, e = .returned (.tuple #[.agg #[.int .i64 P, .int .i64 N, .slice A es.length c], .int .i64 0]) ∧ Dz w' A es ∧ (∀ b o, A = some ⟨b, o, none⟩ → w.heap.size ≤ b) ∧ es.length ≤ c) ∨
   (¬ ok ∧ e = .returned (.tuple #[.agg #[.int .i64 0, .int .i64 0, .slice none 0 0], .int .i64 50]))) ∧ Below w.heap.size w w'
theorem OutS.out {ok : Prop} {P N : Int} {es : List Dt} {w w' : World} {e : Ending} (h : OutS ok P N es w e w') : OutT ok P N es w e w' := by
  obtain ⟨h1, hb⟩ := h
  refine ⟨?_, hb⟩
  rcases h1 with ⟨h2, v, rfl, ho⟩ | h2
  · obtain ⟨_, A, c, rfl, hd⟩ := Dz.of_own ho
    have hcp : es.length ≤ c := by
      rcases ho.2 with ⟨_, h0⟩ | ⟨g, cap, cur, he, _, _, hc, _⟩
      · omega
      · cases he; exact hc
    exact .inl ⟨h2, A, c, rfl, hd, fun b o he => (by subst he; exact own_base ho b rfl), hcp⟩
  · exact .inr h2
theorem dz_far {W : World} {A : Option Addr} {es : List Dt} (h : Dz W A es) {p : Addr} (hp : ∀ b o, A = some ⟨b, o, none⟩ → b ≠ p.block) (u : Value) : Dz (W.setCell p u) A es := fun hn => by
  obtain ⟨b, o, he, hl, hc⟩ := h hn
  refine ⟨b, o, he, by simpa [World.setCell] using hl, fun i hi => ?_⟩
  obtain ⟨k0, k1, k2, k3⟩ := hc i hi
  have hk := Below.heap_setCell W p u b (hp b o he)
  exact ⟨(World.cell?_of_block (a := ⟨b, _, none⟩) hk).trans k0, (World.cell?_of_block (a := ⟨b, _, none⟩) hk).trans k1, (World.cell?_of_block (a := ⟨b, _, none⟩) hk).trans k2, (World.cell?_of_block (a := ⟨b, _, none⟩) hk).trans k3⟩
theorem OutT.iff {ok ok2 : Prop} {P N : Int} {es : List Dt} {w w' : World} {e : Ending} (h : OutT ok P N es w e w') (hi : ok ↔ ok2) : OutT ok2 P N es w e w' := by
  obtain ⟨h1, hb⟩ := h
  refine ⟨?_, hb⟩
  rcases h1 with ⟨h2, h3⟩ | ⟨h2, h3⟩
  · exact .inl ⟨hi.1 h2, h3⟩
  · exact .inr ⟨fun h => h2 (hi.2 h), h3⟩
def dz0 : Dt := ⟨0, 0, 0, 0⟩
/-- The new dots, i of them made. -/
def curD {α : Type} (f : α → Dt) (L : List α) (i : Nat) : List Dt := (L.take i).map f ++ List.replicate (L.length - i) dz0
theorem curD_length {α : Type} (f : α → Dt) {L : List α} {i : Nat} (h : i ≤ L.length) : (curD f L i).length = L.length := by
  unfold curD; rw [List.length_append, List.length_map, List.length_take, List.length_replicate]; omega
theorem curD_zero {α : Type} (f : α → Dt) (L : List α) : curD f L 0 = List.replicate L.length dz0 := by simp [curD]
theorem curD_all {α : Type} (f : α → Dt) (L : List α) : curD f L L.length = L.map f := by simp [curD]
theorem curD_at {α : Type} (f : α → Dt) {L : List α} {i : Nat} (h : i < L.length) : (curD f L i)[i]? = some dz0 := by
  unfold curD
  rw [List.getElem?_append_right (by rw [List.length_map, List.length_take]; omega), List.length_map, List.length_take, show i - min i L.length = 0 from by omega, List.getElem?_replicate, if_pos (by omega)]
theorem curD_succ {α : Type} (f : α → Dt) {L : List α} {i : Nat} (h : i < L.length) : (curD f L i).set i (f L[i]) = curD f L (i + 1) := by
  unfold curD
  rw [List.set_append_right _ _ (by rw [List.length_map, List.length_take]; omega), List.length_map, List.length_take, show i - min i L.length = 0 from by omega, show L.length - i = (L.length - (i + 1)) + 1 from by omega, List.replicate_succ, List.set_cons_zero, List.take_succ_eq_append_getElem h, List.map_append, List.append_assoc]
  rfl
theorem flat_set : ∀ (l : List Dt) (i : Nat) (_ : i < l.length) (d : Dt), ((((flat l).set (i * 4) (.int .i64 d.x)).set (i * 4 + 1) (.int .i64 d.y)).set (i * 4 + 2) (.int .i64 d.t)).set (i * 4 + 3) (.int .i64 d.p) = flat (l.set i d)
  | e :: r, 0, _, d => by simp [flat, dcs]
  | e :: r, i + 1, h, d => by
    have ih := flat_set r i (by simpa using h) d
    have e0 : flat (e :: r) = .int .i64 e.x :: .int .i64 e.y :: .int .i64 e.t :: .int .i64 e.p :: flat r := rfl
    have e1 : flat ((e :: r).set (i + 1) d) = .int .i64 e.x :: .int .i64 e.y :: .int .i64 e.t :: .int .i64 e.p :: flat (r.set i d) := rfl
    rw [e0, e1, ← ih]
    rw [show (i + 1) * 4 = i * 4 + 1 + 1 + 1 + 1 from by omega]
    simp only [List.set_cons_succ, show i * 4 + 1 + 1 + 1 + 1 + 1 = (i * 4 + 1) + 1 + 1 + 1 + 1 from by omega, show i * 4 + 1 + 1 + 1 + 1 + 2 = (i * 4 + 2) + 1 + 1 + 1 + 1 from by omega, show i * 4 + 1 + 1 + 1 + 1 + 3 = (i * 4 + 3) + 1 + 1 + 1 + 1 from by omega]
theorem flat_setA (l : List Dt) (i : Nat) (h : i < l.length) (d : Dt) : ((((flat l).toArray.setIfInBounds (i * 4) (.int .i64 d.x)).setIfInBounds (i * 4 + 1) (.int .i64 d.y)).setIfInBounds (i * 4 + 2) (.int .i64 d.t)).setIfInBounds (i * 4 + 3) (.int .i64 d.p) = (flat (l.set i d)).toArray := by
  simp only [List.setIfInBounds_toArray]
  rw [flat_set l i h d]
theorem dz_of_blk {W : World} {g : Nat} {ds : List Dt} (h : Blk W g 24 (flat ds).toArray) : Dz W (some ⟨g, 0, none⟩) ds := fun _ => ⟨g, 0, rfl, h.lt, fun i hi => by
  have key : ∀ k v, k < 4 → (dcs ds[i])[k]? = some v → W.cell? ⟨g, 0 + i * 4 + k, none⟩ = some v := fun k v hk hv => by
    refine h.cell (i := 0 + i * 4 + k) ?_
    rw [List.getElem?_toArray, Nat.zero_add, flat_at ds i k hi hk, hv]
  exact ⟨key 0 _ (by omega) rfl, key 1 _ (by omega) rfl, key 2 _ (by omega) rfl, key 3 _ (by omega) rfl⟩⟩
theorem flat_rep (n : Nat) : flat (List.replicate n dz0) = List.replicate (n * 4) (.int .i64 0) := by
  induction n with
  | zero => rfl
  | succ n ih =>
    rw [List.replicate_succ, show (n + 1) * 4 = n * 4 + 1 + 1 + 1 + 1 from by omega]
    simp only [List.replicate_succ]
    rw [← ih]; rfl
theorem flat_zero (n : Nat) : madeCells (Value.agg #[.int .i64 0, .int .i64 0, .int .i64 0, .int .i64 0]).cells (n * 4) = (flat (List.replicate n dz0)).toArray := by
  rw [flat_rep]
  apply Array.ext
  · simp [madeCells]
  · intro j h1 h2
    have h3 : j % 4 = 0 ∨ j % 4 = 1 ∨ j % 4 = 2 ∨ j % 4 = 3 := by omega
    rcases h3 with h3 | h3 | h3 | h3 <;> simp [madeCells, Value.cells, h3]
/-- make of dots. -/
theorem run_make_dots (n : Nat) (hn : n ≤ 100000) (w : World) :
    (Instr.makeSlice 25 (.int .i64 (n : Nat)) (.int .i64 (n : Nat))).run Try.prog w = .ok (.slice (some ⟨w.heap.size, 0, none⟩) n n) (w.alloc (.cells (flat (List.replicate n dz0)).toArray 24)) := by
  obtain ⟨i, hi, hz, hs, hb⟩ := info_of info_dot
  have h := run_make (P := Try.prog) w 25 24 i (.agg #[.int .i64 0, .int .i64 0, .int .i64 0, .int .i64 0]) Try.underlying25 hi hz .i64 .i64 n n (by omega) (by omega) (by rw [hb]; omega) (by omega)
  rw [hs] at h
  simp only [Int.toNat_natCast] at h
  rw [flat_zero] at h
  exact h
theorem flat_z {l : List Dt} {i : Nat} (h : i < l.length) (h0 : l[i]? = some dz0) : (flat l).toArray[i * 4]? = some (.int .i64 0) ∧ (flat l).toArray[i * 4 + 1]? = some (.int .i64 0) ∧ (flat l).toArray[i * 4 + 2]? = some (.int .i64 0) ∧ (flat l).toArray[i * 4 + 3]? = some (.int .i64 0) := by
  rw [List.getElem?_eq_getElem h, Option.some.injEq] at h0
  have key : ∀ k v, k < 4 → (dcs dz0)[k]? = some v → (flat l).toArray[i * 4 + k]? = some v := fun k v hk hv => by
    rw [List.getElem?_toArray, flat_at l i k h hk, h0, hv]
  exact ⟨key 0 _ (by omega) rfl, key 1 _ (by omega) rfl, key 2 _ (by omega) rfl, key 3 _ (by omega) rfl⟩
theorem dz_other {w w' : World} {g : Nat} {es : List Dt} (h : Dz w (some ⟨g, 0, none⟩) es) (hs : w.heap.size ≤ w'.heap.size) (hk : w'.heap[g]? = w.heap[g]?) : Dz w' (some ⟨g, 0, none⟩) es := fun hn => by
  obtain ⟨b, o, he, hl, hc⟩ := h hn
  obtain ⟨rfl, rfl, -⟩ : g = b ∧ 0 = o ∧ True := by simpa using he
  refine ⟨g, 0, rfl, by omega, fun i hi => ?_⟩
  obtain ⟨k0, k1, k2, k3⟩ := hc i hi
  exact ⟨(World.cell?_of_block (a := ⟨g, _, none⟩) hk).trans k0, (World.cell?_of_block (a := ⟨g, _, none⟩) hk).trans k1, (World.cell?_of_block (a := ⟨g, _, none⟩) hk).trans k2, (World.cell?_of_block (a := ⟨g, _, none⟩) hk).trans k3⟩
set_option maxRecDepth 100000 in
set_option maxHeartbeats 8000000 in
theorem predrawnD_no (P N : Int) (ds : List Dt) (A : Option Addr) (c : Nat) (L : List Dt) (A2 : Option Addr) (c2 : Nat) (F : FuncId) (cs : List Value) (f : Dt → Dt) (w : World) (hA : Dz w A ds) (hz : ds.length ≤ 9000000000000000000) (_hL : Dz w A2 L) (hv : ¬ Vd P N ds) :
    Calls Try.prog 56 #[.agg #[.int .i64 P, .int .i64 N, .slice A ds.length c], .slice A2 L.length c2, .func (.func F) #[] cs.toArray] w (OutT (Vd P N ds ∧ Vd P N (L.map f)) P N (L.map f) w) := by
  have HV := Lib.hid (fun W (hb : Below w.heap.size w W) => pvalid_not P N ds A c W (hA.below hb (Nat.le_refl _)) hz hv)
  have HNO : Hid (¬ (Vd P N ds ∧ Vd P N (L.map f))) := Lib.hid (fun h => hv h.1)
  clear hA hz hv
  have S_0 : Hid (Blk ((w.alloc (.cells #[.int .i64 P, .int .i64 N, .slice A ds.length c] 27)).alloc (.cells #[.int .i64 0, .int .i64 0, .slice none 0 0] 27)) w.heap.size 27 #[.int .i64 P, .int .i64 N, .slice A ds.length c]) := allocs_blk [(#[.int .i64 P, .int .i64 N, .slice A ds.length c], 27), (#[.int .i64 0, .int .i64 0, .slice none 0 0], 27)] w 0 _ rfl
  have U_0 : Hid (Blk ((w.alloc (.cells #[.int .i64 P, .int .i64 N, .slice A ds.length c] 27)).alloc (.cells #[.int .i64 0, .int .i64 0, .slice none 0 0] 27)) (w.heap.size + 1) 27 #[.int .i64 0, .int .i64 0, .slice none 0 0]) := allocs_blk [(#[.int .i64 P, .int .i64 N, .slice A ds.length c], 27), (#[.int .i64 0, .int .i64 0, .slice none 0 0], 27)] w 1 _ rfl
  have HB_0 : Hid (Below w.heap.size w ((w.alloc (.cells #[.int .i64 P, .int .i64 N, .slice A ds.length c] 27)).alloc (.cells #[.int .i64 0, .int .i64 0, .slice none 0 0] 27))) := allocs_below [(#[.int .i64 P, .int .i64 N, .slice A ds.length c], 27), (#[.int .i64 0, .int .i64 0, .slice none 0 0], 27)] w (Below.refl w.heap.size w) (Nat.le_refl _)
  go_enter Try.func56, Try.ntmps56
  have yy0 := S_0.out.cell (i := 0) (v := .int .i64 P) rfl; have yy1 := S_0.out.cell (i := 1) (v := .int .i64 N) rfl; have yy2 := S_0.out.cell (i := 2) (v := .slice A ds.length c) rfl
  go_wp2_with fail
  refine (HV.out _ HB_0.out).mono ?_
  rintro e v0 ⟨rfl, hb⟩
  clear yy0 yy1 yy2
  have S_1 : Hid (Blk v0 w.heap.size 27 #[.int .i64 P, .int .i64 N, .slice A ds.length c]) := Lib.hid (S_0.out.below hb S_0.out.lt)
  have U_1 : Hid (Blk v0 (w.heap.size + 1) 27 #[.int .i64 0, .int .i64 0, .slice none 0 0]) := Lib.hid (U_0.out.below hb U_0.out.lt)
  have HB_1 : Hid (Below w.heap.size w v0) := Lib.hid (HB_0.out.trans (hb.mono HB_0.out.size))
  clear hb S_0 U_0 HB_0
  have yy0 := U_1.out.cell (i := 0) (v := .int .i64 0) rfl; have yy1 := U_1.out.cell (i := 1) (v := .int .i64 0) rfl; have yy2 := U_1.out.cell (i := 2) (v := .slice none 0 0) rfl
  have f0 := U_1.out.frozen 0; have f1 := U_1.out.frozen 1; have f2 := U_1.out.frozen 2
  go_wp2_with fail
  clear yy0 yy1 yy2
  have HFU := Lib.hid (((U_1.out.set 0 (.int .i64 0)).set 1 (.int .i64 0)).set 2 (.slice none 0 0))
  have rU0 := HFU.out.cell (i := 0) (v := .int .i64 0) rfl
  have rU1 := HFU.out.cell (i := 1) (v := .int .i64 0) rfl
  have rU2 := HFU.out.cell (i := 2) (v := .slice none 0 0) rfl
  exact bodyPost_ret (v := .tuple #[.agg #[.int .i64 0, .int .i64 0, .slice none 0 0], .int .i64 50]) (by simp [results, Try.results56, go_sem, rU0, rU1, rU2]) rfl ⟨.inr ⟨HNO.out, rfl⟩, (((HB_1.out.setCell (p := ⟨(w.heap.size + 1), 0, none⟩) (by show w.heap.size ≤ (w.heap.size + 1); omega) (.int .i64 0)).setCell (p := ⟨(w.heap.size + 1), 1, none⟩) (by show w.heap.size ≤ (w.heap.size + 1); omega) (.int .i64 0)).setCell (p := ⟨(w.heap.size + 1), 2, none⟩) (by show w.heap.size ≤ (w.heap.size + 1); omega) (.slice none 0 0))⟩
set_option maxRecDepth 100000 in
set_option maxHeartbeats 8000000 in
theorem predrawnD_go (P N : Int) (ds : List Dt) (A : Option Addr) (c : Nat) (L : List Dt) (A2 : Option Addr) (c2 : Nat) (F : FuncId) (cs : List Value) (f : Dt → Dt) (w : World) (hA : Dz w A ds) (hz : ds.length ≤ 9000000000000000000) (hL : Dz w A2 L) (hv : Vd P N ds) (hn : L.length ≤ 200) (hcf : ∀ args w, (callFunc F args).run Try.prog w = .ok (.enter F args) w)
    (hF : ∀ W, Below w.heap.size w W → ∀ d ∈ L, Calls Try.prog F (.agg #[.int .i64 d.x, .int .i64 d.y, .int .i64 d.t, .int .i64 d.p] :: cs).toArray W fun e W' => e = .returned (.agg #[.int .i64 (f d).x, .int .i64 (f d).y, .int .i64 (f d).t, .int .i64 (f d).p]) ∧ Below W.heap.size W W') :
    Calls Try.prog 56 #[.agg #[.int .i64 P, .int .i64 N, .slice A ds.length c], .slice A2 L.length c2, .func (.func F) #[] cs.toArray] w (OutT (Vd P N ds ∧ Vd P N (L.map f)) P N (L.map f) w) := by
  have HV := Lib.hid (fun W (hb : Below w.heap.size w W) => pvalid_yes P N ds A c W (hA.below hb (Nat.le_refl _)) hz hv)
  have HF := Lib.hid hF; have HCF := Lib.hid hcf; have HN := Lib.hid hn; have HVD := Lib.hid hv
  have HLL := Lib.hid (fun W (hb : Below w.heap.size w W) => hL.below hb (Nat.le_refl _))
  have hmk := fun w => run_make_dots L.length (by omega) w
  clear hA hz hv hL hF hcf
  have S_0 : Hid (Blk ((w.alloc (.cells #[.int .i64 P, .int .i64 N, .slice A ds.length c] 27)).alloc (.cells #[.int .i64 0, .int .i64 0, .slice none 0 0] 27)) w.heap.size 27 #[.int .i64 P, .int .i64 N, .slice A ds.length c]) := allocs_blk [(#[.int .i64 P, .int .i64 N, .slice A ds.length c], 27), (#[.int .i64 0, .int .i64 0, .slice none 0 0], 27)] w 0 _ rfl
  have U_0 : Hid (Blk ((w.alloc (.cells #[.int .i64 P, .int .i64 N, .slice A ds.length c] 27)).alloc (.cells #[.int .i64 0, .int .i64 0, .slice none 0 0] 27)) (w.heap.size + 1) 27 #[.int .i64 0, .int .i64 0, .slice none 0 0]) := allocs_blk [(#[.int .i64 P, .int .i64 N, .slice A ds.length c], 27), (#[.int .i64 0, .int .i64 0, .slice none 0 0], 27)] w 1 _ rfl
  have HB_0 : Hid (Below w.heap.size w ((w.alloc (.cells #[.int .i64 P, .int .i64 N, .slice A ds.length c] 27)).alloc (.cells #[.int .i64 0, .int .i64 0, .slice none 0 0] 27))) := allocs_below [(#[.int .i64 P, .int .i64 N, .slice A ds.length c], 27), (#[.int .i64 0, .int .i64 0, .slice none 0 0], 27)] w (Below.refl w.heap.size w) (Nat.le_refl _)
  go_enter Try.func56, Try.ntmps56
  have yy0 := S_0.out.cell (i := 0) (v := .int .i64 P) rfl; have yy1 := S_0.out.cell (i := 1) (v := .int .i64 N) rfl; have yy2 := S_0.out.cell (i := 2) (v := .slice A ds.length c) rfl
  go_wp2_with fail
  refine (HV.out _ HB_0.out).mono ?_
  rintro e v0 ⟨rfl, hb⟩
  clear yy0 yy1 yy2
  have S_1 : Hid (Blk v0 w.heap.size 27 #[.int .i64 P, .int .i64 N, .slice A ds.length c]) := Lib.hid (S_0.out.below hb S_0.out.lt)
  have U_1 : Hid (Blk v0 (w.heap.size + 1) 27 #[.int .i64 0, .int .i64 0, .slice none 0 0]) := Lib.hid (U_0.out.below hb U_0.out.lt)
  have HB_1 : Hid (Below w.heap.size w v0) := Lib.hid (HB_0.out.trans (hb.mono HB_0.out.size))
  clear hb S_0 U_0 HB_0
  have LW : Hid (w.heap.size + 1 < v0.heap.size) := Lib.hid U_1.out.lt
  have SA := Lib.hid (S_1.out.alloc (.cells (flat (List.replicate L.length dz0)).toArray 24))
  have s2 := SA.out.cell (i := 2) (v := .slice A ds.length c) rfl; have sf := SA.out.frozen 2
  have s2b := S_1.out.cell (i := 2) (v := .slice A ds.length c) rfl; have sfb := S_1.out.frozen 2
  go_wp2_with fail
  clear s2 sf s2b sfb hmk
  have RS : Hid (Blk ((v0.alloc (.cells (flat (List.replicate L.length dz0)).toArray 24)).setCell ⟨w.heap.size, 2, none⟩ (.slice (some ⟨v0.heap.size, 0, none⟩) L.length L.length)) w.heap.size 27 #[.int .i64 P, .int .i64 N, .slice (some ⟨v0.heap.size, 0, none⟩) L.length L.length]) := Lib.hid (SA.out.set 2 _)
  have RU : Hid (Blk ((v0.alloc (.cells (flat (List.replicate L.length dz0)).toArray 24)).setCell ⟨w.heap.size, 2, none⟩ (.slice (some ⟨v0.heap.size, 0, none⟩) L.length L.length)) (w.heap.size + 1) 27 #[.int .i64 0, .int .i64 0, .slice none 0 0]) := Lib.hid ((U_1.out.alloc _).far (p := ⟨w.heap.size, 2, none⟩) (by show w.heap.size + 1 ≠ w.heap.size; omega) _)
  have RG : Hid (Blk ((v0.alloc (.cells (flat (List.replicate L.length dz0)).toArray 24)).setCell ⟨w.heap.size, 2, none⟩ (.slice (some ⟨v0.heap.size, 0, none⟩) L.length L.length)) v0.heap.size 24 (flat (curD f L 0)).toArray) := Lib.hid (by rw [curD_zero]; exact (Blk.new v0 _ _).far (p := ⟨w.heap.size, 2, none⟩) (by have := LW.out; show v0.heap.size ≠ w.heap.size; omega) _)
  have RB : Hid (Below w.heap.size w ((v0.alloc (.cells (flat (List.replicate L.length dz0)).toArray 24)).setCell ⟨w.heap.size, 2, none⟩ (.slice (some ⟨v0.heap.size, 0, none⟩) L.length L.length))) := Lib.hid ((HB_1.out.alloc HB_1.out.size _).setCell (p := ⟨w.heap.size, 2, none⟩) (Nat.le_refl _) _)
  clear SA S_1 U_1 HB_1
  go_loopw [20] (fun ii wr => ∃ i : Nat, ii = .int .i64 i ∧ i ≤ L.length ∧ Blk wr w.heap.size 27 #[.int .i64 P, .int .i64 N, .slice (some ⟨v0.heap.size, 0, none⟩) L.length L.length] ∧ Blk wr (w.heap.size + 1) 27 #[.int .i64 0, .int .i64 0, .slice none 0 0] ∧ Blk wr v0.heap.size 24 (flat (curD f L i)).toArray ∧ Below w.heap.size w wr) (fun ii _ => L.length - (intOf ii).toNat)
  case atStart => exact ⟨0, rfl, Nat.zero_le _, RS.out, RU.out, RG.out, RB.out⟩
  case round =>
    clear RS RU RG RB
    obtain ⟨i, rfl, hi, hS, hU, hG, hB⟩ := hrel
    have S_7 := Lib.hid hS; have U_7 := Lib.hid hU; have G_7 := Lib.hid hG; have HB_7 := Lib.hid hB; clear hS hU hG hB
    by_cases hlt : i < L.length
    case neg =>
      obtain rfl : i = L.length := by omega
      have hni : ¬ ((L.length : Int) < (L.length : Int)) := by omega
      clear hi hlt
      have hg : Blk wr v0.heap.size 24 (flat (L.map f)).toArray := by have h := G_7.out; rwa [curD_all] at h
      have HDZ := Lib.hid (dz_of_blk hg)
      have hll : (L.map f).length = L.length := List.length_map ..
      by_cases hv : Vd P N (L.map f)
      case pos =>
        have hvc := pvalid_yes P N (L.map f) (some ⟨v0.heap.size, 0, none⟩) L.length wr HDZ.out (by rw [hll]; omega) hv
        rw [hll] at hvc
        have HVC := Lib.hid hvc; have HVN := Lib.hid hv; have HLLN := Lib.hid hll; clear hvc hv hg hll hn
        have yy0 := S_7.out.cell (i := 0) (v := .int .i64 P) rfl; have yy1 := S_7.out.cell (i := 1) (v := .int .i64 N) rfl; have yy2 := S_7.out.cell (i := 2) (v := .slice (some ⟨v0.heap.size, 0, none⟩) L.length L.length) rfl
        go_wp2_with fail
        refine HVC.out.mono ?_
        rintro e v2 ⟨rfl, hb⟩
        clear yy0 yy1 yy2
        have HDZ2 := Lib.hid (HDZ.out.below hb (Nat.le_refl _))
        have S_8 : Hid (Blk v2 w.heap.size 27 #[.int .i64 P, .int .i64 N, .slice (some ⟨v0.heap.size, 0, none⟩) L.length L.length]) := Lib.hid (S_7.out.below hb S_7.out.lt)
        have U_8 : Hid (Blk v2 (w.heap.size + 1) 27 #[.int .i64 0, .int .i64 0, .slice none 0 0]) := Lib.hid (U_7.out.below hb U_7.out.lt)
        have HB_8 : Hid (Below w.heap.size w v2) := Lib.hid (HB_7.out.trans (hb.mono HB_7.out.size))
        clear hb S_7 U_7 HB_7
        have yy0 := S_8.out.cell (i := 0) (v := .int .i64 P) rfl; have yy1 := S_8.out.cell (i := 1) (v := .int .i64 N) rfl; have yy2 := S_8.out.cell (i := 2) (v := .slice (some ⟨v0.heap.size, 0, none⟩) L.length L.length) rfl
        have yy3 := U_8.out.cell (i := 0) (v := .int .i64 0) rfl; have yy4 := U_8.out.cell (i := 1) (v := .int .i64 0) rfl; have yy5 := U_8.out.cell (i := 2) (v := .slice none 0 0) rfl
        have f0 := U_8.out.frozen 0; have f1 := U_8.out.frozen 1; have f2 := U_8.out.frozen 2
        go_wp2_with fail
        clear yy0 yy1 yy2 yy3 yy4 yy5
        have HFU := Lib.hid (((U_8.out.set 0 (.int .i64 P)).set 1 (.int .i64 N)).set 2 (.slice (some ⟨v0.heap.size, 0, none⟩) L.length L.length))
        have rU0 := HFU.out.cell (i := 0) (v := .int .i64 P) rfl
        have rU1 := HFU.out.cell (i := 1) (v := .int .i64 N) rfl
        have rU2 := HFU.out.cell (i := 2) (v := .slice (some ⟨v0.heap.size, 0, none⟩) L.length L.length) rfl
        have HBF := Lib.hid (((HB_8.out.setCell (p := ⟨(w.heap.size + 1), 0, none⟩) (by show w.heap.size ≤ (w.heap.size + 1); omega) (.int .i64 P)).setCell (p := ⟨(w.heap.size + 1), 1, none⟩) (by show w.heap.size ≤ (w.heap.size + 1); omega) (.int .i64 N)).setCell (p := ⟨(w.heap.size + 1), 2, none⟩) (by show w.heap.size ≤ (w.heap.size + 1); omega) (.slice (some ⟨v0.heap.size, 0, none⟩) L.length L.length))
        refine bodyPost_ret (v := .tuple #[.agg #[.int .i64 P, .int .i64 N, .slice (some ⟨v0.heap.size, 0, none⟩) L.length L.length], .int .i64 0]) (by simp [results, Try.results56, go_sem, rU0, rU1, rU2]) rfl ⟨.inl ⟨⟨HVD.out, HVN.out⟩, some ⟨v0.heap.size, 0, none⟩, L.length, by rw [HLLN.out], ?_, fun b o he => by obtain ⟨rfl, rfl, -⟩ : v0.heap.size = b ∧ 0 = o ∧ True := (by simpa using he); have := LW.out; omega, by rw [HLLN.out]; exact Nat.le_refl _⟩, HBF.out⟩
        refine dz_other HDZ2.out ?_ ?_
        · simp [World.setCell]
        · exact (Below.heap_setCell _ _ _ _ (by have := LW.out; show v0.heap.size ≠ w.heap.size + 1; omega)).trans ((Below.heap_setCell _ _ _ _ (by have := LW.out; show v0.heap.size ≠ w.heap.size + 1; omega)).trans (Below.heap_setCell _ _ _ _ (by have := LW.out; show v0.heap.size ≠ w.heap.size + 1; omega)))
      case neg =>
        have hvc := pvalid_not P N (L.map f) (some ⟨v0.heap.size, 0, none⟩) L.length wr HDZ.out (by rw [hll]; omega) hv
        rw [hll] at hvc
        have HVC := Lib.hid hvc; have HVN := Lib.hid hv; have HLLN := Lib.hid hll; clear hvc hv hg hll hn
        have yy0 := S_7.out.cell (i := 0) (v := .int .i64 P) rfl; have yy1 := S_7.out.cell (i := 1) (v := .int .i64 N) rfl; have yy2 := S_7.out.cell (i := 2) (v := .slice (some ⟨v0.heap.size, 0, none⟩) L.length L.length) rfl
        go_wp2_with fail
        refine HVC.out.mono ?_
        rintro e v2 ⟨rfl, hb⟩
        clear yy0 yy1 yy2
        have S_8 : Hid (Blk v2 w.heap.size 27 #[.int .i64 P, .int .i64 N, .slice (some ⟨v0.heap.size, 0, none⟩) L.length L.length]) := Lib.hid (S_7.out.below hb S_7.out.lt)
        have U_8 : Hid (Blk v2 (w.heap.size + 1) 27 #[.int .i64 0, .int .i64 0, .slice none 0 0]) := Lib.hid (U_7.out.below hb U_7.out.lt)
        have HB_8 : Hid (Below w.heap.size w v2) := Lib.hid (HB_7.out.trans (hb.mono HB_7.out.size))
        clear hb S_7 U_7 HB_7
        have yy0 := S_8.out.cell (i := 0) (v := .int .i64 P) rfl; have yy1 := S_8.out.cell (i := 1) (v := .int .i64 N) rfl; have yy2 := S_8.out.cell (i := 2) (v := .slice (some ⟨v0.heap.size, 0, none⟩) L.length L.length) rfl
        have yy3 := U_8.out.cell (i := 0) (v := .int .i64 0) rfl; have yy4 := U_8.out.cell (i := 1) (v := .int .i64 0) rfl; have yy5 := U_8.out.cell (i := 2) (v := .slice none 0 0) rfl
        have f0 := U_8.out.frozen 0; have f1 := U_8.out.frozen 1; have f2 := U_8.out.frozen 2
        go_wp2_with fail
        clear yy0 yy1 yy2 yy3 yy4 yy5
        have HFU := Lib.hid (((U_8.out.set 0 (.int .i64 0)).set 1 (.int .i64 0)).set 2 (.slice none 0 0))
        have rU0 := HFU.out.cell (i := 0) (v := .int .i64 0) rfl
        have rU1 := HFU.out.cell (i := 1) (v := .int .i64 0) rfl
        have rU2 := HFU.out.cell (i := 2) (v := .slice none 0 0) rfl
        exact bodyPost_ret (v := .tuple #[.agg #[.int .i64 0, .int .i64 0, .slice none 0 0], .int .i64 50]) (by simp [results, Try.results56, go_sem, rU0, rU1, rU2]) rfl ⟨.inr ⟨fun h => HVN.out h.2, rfl⟩, (((HB_8.out.setCell (p := ⟨(w.heap.size + 1), 0, none⟩) (by show w.heap.size ≤ (w.heap.size + 1); omega) (.int .i64 0)).setCell (p := ⟨(w.heap.size + 1), 1, none⟩) (by show w.heap.size ≤ (w.heap.size + 1); omega) (.int .i64 0)).setCell (p := ⟨(w.heap.size + 1), 2, none⟩) (by show w.heap.size ≤ (w.heap.size + 1); omega) (.slice none 0 0))⟩
    case pos =>
      have hL2 := HLL.out wr HB_7.out
      obtain ⟨b, o, rfl, hbl, hcc⟩ := hL2 (by omega)
      obtain ⟨d, hd⟩ : ∃ d, d = L[i] := ⟨_, rfl⟩
      have hk := hcc i hlt
      rw [← hd] at hk
      have HCUR : Hid ((curD f L i).set i (f d) = curD f L (i + 1)) := Lib.hid (by rw [hd]; exact curD_succ f hlt)
      have HCL : Hid (i < (curD f L i).length) := Lib.hid (by rw [curD_length f hi]; exact hlt)
      have HC0 : Hid ((curD f L i)[i]? = some dz0) := Lib.hid (curD_at f hlt)
      have hcall := fun W hb => HF.out W hb d (by rw [hd]; exact List.getElem_mem _)
      obtain ⟨r, hr⟩ : ∃ r, r = f d := ⟨_, rfl⟩
      rw [← hr] at hcall HCUR
      have HCA := Lib.hid hcall
      have q1 : (0 : Int) ≤ (i : Int) := by omega
      have q2 : (i : Int) < (L.length : Int) := by omega
      have q5 : (i : Int) + 1 ≤ 9223372036854775807 := by omega
      have HLT := Lib.hid hlt
      have hcf := HCF.out
      clear hd hL2 hcc hbl hcall hr hlt hi hn
      obtain ⟨k0, k1, k2, k3⟩ := hk
      have S_8 : Hid (Blk (wr.alloc (.cells #[.int .i64 d.x, .int .i64 d.y, .int .i64 d.t, .int .i64 d.p] 24)) w.heap.size 27 #[.int .i64 P, .int .i64 N, .slice (some ⟨v0.heap.size, 0, none⟩) L.length L.length]) := Lib.hid (S_7.out.alloc _); have U_8 : Hid (Blk (wr.alloc (.cells #[.int .i64 d.x, .int .i64 d.y, .int .i64 d.t, .int .i64 d.p] 24)) (w.heap.size + 1) 27 #[.int .i64 0, .int .i64 0, .slice none 0 0]) := Lib.hid (U_7.out.alloc _); have D_8 : Hid (Blk (wr.alloc (.cells #[.int .i64 d.x, .int .i64 d.y, .int .i64 d.t, .int .i64 d.p] 24)) wr.heap.size 24 #[.int .i64 d.x, .int .i64 d.y, .int .i64 d.t, .int .i64 d.p]) := Lib.hid (Blk.new wr _ _); have LG : Hid (v0.heap.size < wr.heap.size) := Lib.hid G_7.out.lt; have LU : Hid (w.heap.size + 1 < wr.heap.size) := Lib.hid U_7.out.lt; have G_8 : Hid (Blk (wr.alloc (.cells #[.int .i64 d.x, .int .i64 d.y, .int .i64 d.t, .int .i64 d.p] 24)) v0.heap.size 24 (flat (curD f L i)).toArray) := Lib.hid (G_7.out.alloc _); have HB_8 : Hid (Below w.heap.size w (wr.alloc (.cells #[.int .i64 d.x, .int .i64 d.y, .int .i64 d.t, .int .i64 d.p] 24))) := Lib.hid (HB_7.out.alloc HB_7.out.size _)
      clear S_7 U_7 G_7 HB_7
      go_wp2_with fail
      clear k0 k1 k2 k3
      refine wp_region_grow (S := (fun w' => w'.cell? ⟨w.heap.size, 2, none⟩ = some (.slice (some ⟨v0.heap.size, 0, none⟩) L.length L.length) ∧ w'.cell? ⟨wr.heap.size, 0, none⟩ = some (.int .i64 d.x) ∧ w'.cell? ⟨wr.heap.size, 1, none⟩ = some (.int .i64 d.y) ∧ w'.cell? ⟨wr.heap.size, 2, none⟩ = some (.int .i64 d.t) ∧ w'.cell? ⟨wr.heap.size, 3, none⟩ = some (.int .i64 d.p) ∧ Below w.heap.size w w')) ((fun w' => Below w.heap.size w w' ∧ Blk w' w.heap.size 27 #[.int .i64 P, .int .i64 N, .slice (some ⟨v0.heap.size, 0, none⟩) L.length L.length] ∧ Blk w' (w.heap.size + 1) 27 #[.int .i64 0, .int .i64 0, .slice none 0 0] ∧ Blk w' wr.heap.size 24 #[.int .i64 d.x, .int .i64 d.y, .int .i64 d.t, .int .i64 d.p] ∧ Blk w' v0.heap.size 24 (flat (curD f L i)).toArray)) (by kernel_rfl) (⟨fun w2 h2 => ⟨(h2.2.1.cell (i := 2) rfl), (h2.2.2.2.1.cell (i := 0) rfl), (h2.2.2.2.1.cell (i := 1) rfl), (h2.2.2.2.1.cell (i := 2) rfl), (h2.2.2.2.1.cell (i := 3) rfl), h2.1⟩, fun w2 w3 h2 hb2 => ⟨h2.1.trans (hb2.mono h2.1.size), h2.2.1.below hb2 h2.2.1.lt, h2.2.2.1.below hb2 h2.2.2.1.lt, h2.2.2.2.1.below hb2 h2.2.2.2.1.lt, h2.2.2.2.2.below hb2 h2.2.2.2.2.lt⟩⟩) (⟨HB_8.out.drew, S_8.out.drew, U_8.out.drew, D_8.out.drew, G_8.out.drew⟩) (fun hCalm => ?_)
      refine grow_take 0 (some 25) ?_ rfl rfl (by kernel_rfl) (fun _ _ _ h => h) (by kernel_rfl) hCalm ?_ ?_
      rotate_left
      · intro wS hS; (try dsimp only at hS); go_simp <;> with_reducible rfl
      try simp only [Act.put, List.setIfInBounds_toArray, List.set_cons_zero, List.set_cons_succ]
      refine grow_take 1 (some 26) ?_ rfl rfl (by kernel_rfl) (fun _ _ _ h => h) (by kernel_rfl) hCalm ?_ ?_
      rotate_left
      · intro wS hS; (try dsimp only at hS); go_simp <;> with_reducible rfl
      try simp only [Act.put, List.setIfInBounds_toArray, List.set_cons_zero, List.set_cons_succ]
      refine grow_take 2 (some 27) ?_ rfl rfl (by kernel_rfl) (fun _ _ _ h => h) (by kernel_rfl) hCalm ?_ ?_
      rotate_left
      · intro wS hS; (try dsimp only at hS); go_simp <;> with_reducible rfl
      try simp only [Act.put, List.setIfInBounds_toArray, List.set_cons_zero, List.set_cons_succ]
      refine grow_take 3 (some 28) ?_ rfl rfl (by kernel_rfl) (fun _ _ _ h => h) (by kernel_rfl) hCalm ?_ ?_
      rotate_left
      · intro wS hS; (try dsimp only at hS); go_simp <;> with_reducible rfl
      try simp only [Act.put, List.setIfInBounds_toArray, List.set_cons_zero, List.set_cons_succ]
      refine grow_take 4 (some 29) ?_ rfl rfl (by kernel_rfl) (fun _ _ _ h => h) (by kernel_rfl) hCalm ?_ ?_
      rotate_left
      · intro wS hS; (try dsimp only at hS); go_simp <;> with_reducible rfl
      try simp only [Act.put, List.setIfInBounds_toArray, List.set_cons_zero, List.set_cons_succ]
      refine grow_enter 5 (some 30) (.agg #[.int .i64 r.x, .int .i64 r.y, .int .i64 r.t, .int .i64 r.p]) F ((.agg #[.int .i64 d.x, .int .i64 d.y, .int .i64 d.t, .int .i64 d.p] :: cs).toArray) rfl rfl (by kernel_rfl) (fun _ _ _ h => h) (by kernel_rfl) hCalm (fun wz hS => HCA.out wz hS.2.2.2.2.2) ?_ ?_
      · intro wS hS; (try dsimp only at hS); go_simp
      try simp only [Act.put, List.setIfInBounds_toArray, List.set_cons_zero, List.set_cons_succ]
      refine grow_take 6 (some 31) ?_ rfl rfl (by kernel_rfl) (fun _ _ _ h => h) (by kernel_rfl) hCalm ?_ ?_
      rotate_left
      · intro wS hS; (try dsimp only at hS); go_simp <;> with_reducible rfl
      try simp only [Act.put, List.setIfInBounds_toArray, List.set_cons_zero, List.set_cons_succ]
      refine grow_each [7] (by kernel_rfl) (by decide) ?_
      refine grow_cons 7 rfl (by kernel_rfl) (fun wA hA K hK => ?_) grow_nil
      have hG0 := hA.2.2.2.2
      have z0 := hG0.cell (i := i * 4) (v := .int .i64 0) (flat_z HCL.out HC0.out).1; have f0 := hG0.frozen (i * 4)
      have z1 := hG0.cell (i := i * 4 + 1) (v := .int .i64 0) (flat_z HCL.out HC0.out).2.1; have f1 := hG0.frozen (i * 4 + 1)
      have z2 := hG0.cell (i := i * 4 + 2) (v := .int .i64 0) (flat_z HCL.out HC0.out).2.2.1; have f2 := hG0.frozen (i * 4 + 2)
      have z3 := hG0.cell (i := i * 4 + 3) (v := .int .i64 0) (flat_z HCL.out HC0.out).2.2.2; have f3 := hG0.frozen (i * 4 + 3)
      go_simp
      refine hK.out _ _ (fun w' => Below w.heap.size w w' ∧ Blk w' w.heap.size 27 #[.int .i64 P, .int .i64 N, .slice (some ⟨v0.heap.size, 0, none⟩) L.length L.length] ∧ Blk w' (w.heap.size + 1) 27 #[.int .i64 0, .int .i64 0, .slice none 0 0] ∧ Blk w' wr.heap.size 24 #[.int .i64 d.x, .int .i64 d.y, .int .i64 d.t, .int .i64 d.p] ∧ Blk w' v0.heap.size 24 (flat (curD f L (i + 1))).toArray) ⟨fun w2 h2 => ⟨(h2.2.1.cell (i := 2) rfl), (h2.2.2.2.1.cell (i := 0) rfl), (h2.2.2.2.1.cell (i := 1) rfl), (h2.2.2.2.1.cell (i := 2) rfl), (h2.2.2.2.1.cell (i := 3) rfl), h2.1⟩, fun w2 w3 h2 hb2 => ⟨h2.1.trans (hb2.mono h2.1.size), h2.2.1.below hb2 h2.2.1.lt, h2.2.2.1.below hb2 h2.2.2.1.lt, h2.2.2.2.1.below hb2 h2.2.2.2.1.lt, h2.2.2.2.2.below hb2 h2.2.2.2.2.lt⟩⟩ ⟨((((hA.1.setCell (p := ⟨v0.heap.size, i * 4, none⟩) (by have := LW.out; show w.heap.size ≤ v0.heap.size; omega) _).setCell (p := ⟨v0.heap.size, i * 4 + 1, none⟩) (by have := LW.out; show w.heap.size ≤ v0.heap.size; omega) _).setCell (p := ⟨v0.heap.size, i * 4 + 2, none⟩) (by have := LW.out; show w.heap.size ≤ v0.heap.size; omega) _).setCell (p := ⟨v0.heap.size, i * 4 + 3, none⟩) (by have := LW.out; show w.heap.size ≤ v0.heap.size; omega) _), ((((hA.2.1.far (p := ⟨v0.heap.size, i * 4, none⟩) (by have := LW.out; show w.heap.size ≠ v0.heap.size; omega) _).far (p := ⟨v0.heap.size, i * 4 + 1, none⟩) (by have := LW.out; show w.heap.size ≠ v0.heap.size; omega) _).far (p := ⟨v0.heap.size, i * 4 + 2, none⟩) (by have := LW.out; show w.heap.size ≠ v0.heap.size; omega) _).far (p := ⟨v0.heap.size, i * 4 + 3, none⟩) (by have := LW.out; show w.heap.size ≠ v0.heap.size; omega) _), ((((hA.2.2.1.far (p := ⟨v0.heap.size, i * 4, none⟩) (by have := LW.out; show (w.heap.size + 1) ≠ v0.heap.size; omega) _).far (p := ⟨v0.heap.size, i * 4 + 1, none⟩) (by have := LW.out; show (w.heap.size + 1) ≠ v0.heap.size; omega) _).far (p := ⟨v0.heap.size, i * 4 + 2, none⟩) (by have := LW.out; show (w.heap.size + 1) ≠ v0.heap.size; omega) _).far (p := ⟨v0.heap.size, i * 4 + 3, none⟩) (by have := LW.out; show (w.heap.size + 1) ≠ v0.heap.size; omega) _), ((((hA.2.2.2.1.far (p := ⟨v0.heap.size, i * 4, none⟩) (by have := LW.out; have := LG.out; show wr.heap.size ≠ v0.heap.size; omega) _).far (p := ⟨v0.heap.size, i * 4 + 1, none⟩) (by have := LW.out; have := LG.out; show wr.heap.size ≠ v0.heap.size; omega) _).far (p := ⟨v0.heap.size, i * 4 + 2, none⟩) (by have := LW.out; have := LG.out; show wr.heap.size ≠ v0.heap.size; omega) _).far (p := ⟨v0.heap.size, i * 4 + 3, none⟩) (by have := LW.out; have := LG.out; show wr.heap.size ≠ v0.heap.size; omega) _), (by have h := ((((hG0.set (i * 4) (.int .i64 r.x)).set (i * 4 + 1) (.int .i64 r.y)).set (i * 4 + 2) (.int .i64 r.t)).set (i * 4 + 3) (.int .i64 r.p)); rw [flat_setA _ _ HCL.out, HCUR.out] at h; exact h)⟩ ?_
      clear z0 z1 z2 z3 f0 f1 f2 f3 hG0 hK K hA wA hCalm
      have hCalm : Calm (fun w' => w'.cell? ⟨w.heap.size, 2, none⟩ = some (.slice (some ⟨v0.heap.size, 0, none⟩) L.length L.length) ∧ w'.cell? ⟨wr.heap.size, 0, none⟩ = some (.int .i64 d.x) ∧ w'.cell? ⟨wr.heap.size, 1, none⟩ = some (.int .i64 d.y) ∧ w'.cell? ⟨wr.heap.size, 2, none⟩ = some (.int .i64 d.t) ∧ w'.cell? ⟨wr.heap.size, 3, none⟩ = some (.int .i64 d.p) ∧ Below w.heap.size w w') (fun w' => Below w.heap.size w w' ∧ Blk w' w.heap.size 27 #[.int .i64 P, .int .i64 N, .slice (some ⟨v0.heap.size, 0, none⟩) L.length L.length] ∧ Blk w' (w.heap.size + 1) 27 #[.int .i64 0, .int .i64 0, .slice none 0 0] ∧ Blk w' wr.heap.size 24 #[.int .i64 d.x, .int .i64 d.y, .int .i64 d.t, .int .i64 d.p] ∧ Blk w' v0.heap.size 24 (flat (curD f L (i + 1))).toArray) := ⟨fun w2 h2 => ⟨(h2.2.1.cell (i := 2) rfl), (h2.2.2.2.1.cell (i := 0) rfl), (h2.2.2.2.1.cell (i := 1) rfl), (h2.2.2.2.1.cell (i := 2) rfl), (h2.2.2.2.1.cell (i := 3) rfl), h2.1⟩, fun w2 w3 h2 hb2 => ⟨h2.1.trans (hb2.mono h2.1.size), h2.2.1.below hb2 h2.2.1.lt, h2.2.2.1.below hb2 h2.2.2.1.lt, h2.2.2.2.1.below hb2 h2.2.2.2.1.lt, h2.2.2.2.2.below hb2 h2.2.2.2.2.lt⟩⟩
      try simp only [Act.put]
      refine grow_done (by kernel_rfl) (fun wA hA => ?_) _
      go_wp2_with fail
      go_roundw
      case rel => exact ⟨i + 1, by go_num, by have := HLT.out; omega, hA.2.1, hA.2.2.1, hA.2.2.2.2, hA.1⟩
      case measure => have := HLT.out; simp [intOf]; omega
set_option maxRecDepth 100000 in
set_option maxHeartbeats 8000000 in
theorem predrawnI_no (P N : Int) (ds : List Dt) (A : Option Addr) (c : Nat) (L : List Int) (A2 : Option Addr) (c2 : Nat) (F : FuncId) (cs : List Value) (f : Int → Dt) (w : World) (hA : Dz w A ds) (hz : ds.length ≤ 9000000000000000000) (_hL : Iz w A2 L) (hv : ¬ Vd P N ds) :
    Calls Try.prog 50 #[.agg #[.int .i64 P, .int .i64 N, .slice A ds.length c], .slice A2 L.length c2, .func (.func F) #[] cs.toArray] w (OutT (Vd P N ds ∧ Vd P N (L.map f)) P N (L.map f) w) := by
  have HV := Lib.hid (fun W (hb : Below w.heap.size w W) => pvalid_not P N ds A c W (hA.below hb (Nat.le_refl _)) hz hv)
  have HNO : Hid (¬ (Vd P N ds ∧ Vd P N (L.map f))) := Lib.hid (fun h => hv h.1)
  clear hA hz hv
  have S_0 : Hid (Blk ((w.alloc (.cells #[.int .i64 P, .int .i64 N, .slice A ds.length c] 27)).alloc (.cells #[.int .i64 0, .int .i64 0, .slice none 0 0] 27)) w.heap.size 27 #[.int .i64 P, .int .i64 N, .slice A ds.length c]) := allocs_blk [(#[.int .i64 P, .int .i64 N, .slice A ds.length c], 27), (#[.int .i64 0, .int .i64 0, .slice none 0 0], 27)] w 0 _ rfl
  have U_0 : Hid (Blk ((w.alloc (.cells #[.int .i64 P, .int .i64 N, .slice A ds.length c] 27)).alloc (.cells #[.int .i64 0, .int .i64 0, .slice none 0 0] 27)) (w.heap.size + 1) 27 #[.int .i64 0, .int .i64 0, .slice none 0 0]) := allocs_blk [(#[.int .i64 P, .int .i64 N, .slice A ds.length c], 27), (#[.int .i64 0, .int .i64 0, .slice none 0 0], 27)] w 1 _ rfl
  have HB_0 : Hid (Below w.heap.size w ((w.alloc (.cells #[.int .i64 P, .int .i64 N, .slice A ds.length c] 27)).alloc (.cells #[.int .i64 0, .int .i64 0, .slice none 0 0] 27))) := allocs_below [(#[.int .i64 P, .int .i64 N, .slice A ds.length c], 27), (#[.int .i64 0, .int .i64 0, .slice none 0 0], 27)] w (Below.refl w.heap.size w) (Nat.le_refl _)
  go_enter Try.func50, Try.ntmps50
  have yy0 := S_0.out.cell (i := 0) (v := .int .i64 P) rfl; have yy1 := S_0.out.cell (i := 1) (v := .int .i64 N) rfl; have yy2 := S_0.out.cell (i := 2) (v := .slice A ds.length c) rfl
  go_wp2_with fail
  refine (HV.out _ HB_0.out).mono ?_
  rintro e v0 ⟨rfl, hb⟩
  clear yy0 yy1 yy2
  have S_1 : Hid (Blk v0 w.heap.size 27 #[.int .i64 P, .int .i64 N, .slice A ds.length c]) := Lib.hid (S_0.out.below hb S_0.out.lt)
  have U_1 : Hid (Blk v0 (w.heap.size + 1) 27 #[.int .i64 0, .int .i64 0, .slice none 0 0]) := Lib.hid (U_0.out.below hb U_0.out.lt)
  have HB_1 : Hid (Below w.heap.size w v0) := Lib.hid (HB_0.out.trans (hb.mono HB_0.out.size))
  clear hb S_0 U_0 HB_0
  have yy0 := U_1.out.cell (i := 0) (v := .int .i64 0) rfl; have yy1 := U_1.out.cell (i := 1) (v := .int .i64 0) rfl; have yy2 := U_1.out.cell (i := 2) (v := .slice none 0 0) rfl
  have f0 := U_1.out.frozen 0; have f1 := U_1.out.frozen 1; have f2 := U_1.out.frozen 2
  go_wp2_with fail
  clear yy0 yy1 yy2
  have HFU := Lib.hid (((U_1.out.set 0 (.int .i64 0)).set 1 (.int .i64 0)).set 2 (.slice none 0 0))
  have rU0 := HFU.out.cell (i := 0) (v := .int .i64 0) rfl
  have rU1 := HFU.out.cell (i := 1) (v := .int .i64 0) rfl
  have rU2 := HFU.out.cell (i := 2) (v := .slice none 0 0) rfl
  exact bodyPost_ret (v := .tuple #[.agg #[.int .i64 0, .int .i64 0, .slice none 0 0], .int .i64 50]) (by simp [results, Try.results50, go_sem, rU0, rU1, rU2]) rfl ⟨.inr ⟨HNO.out, rfl⟩, (((HB_1.out.setCell (p := ⟨(w.heap.size + 1), 0, none⟩) (by show w.heap.size ≤ (w.heap.size + 1); omega) (.int .i64 0)).setCell (p := ⟨(w.heap.size + 1), 1, none⟩) (by show w.heap.size ≤ (w.heap.size + 1); omega) (.int .i64 0)).setCell (p := ⟨(w.heap.size + 1), 2, none⟩) (by show w.heap.size ≤ (w.heap.size + 1); omega) (.slice none 0 0))⟩
set_option maxRecDepth 100000 in
set_option maxHeartbeats 8000000 in
theorem predrawnI_go (P N : Int) (ds : List Dt) (A : Option Addr) (c : Nat) (L : List Int) (A2 : Option Addr) (c2 : Nat) (F : FuncId) (cs : List Value) (f : Int → Dt) (w : World) (hA : Dz w A ds) (hz : ds.length ≤ 9000000000000000000) (hL : Iz w A2 L) (hv : Vd P N ds) (hn : L.length ≤ 200) (hcf : ∀ args w, (callFunc F args).run Try.prog w = .ok (.enter F args) w)
    (hF : ∀ W, Below w.heap.size w W → ∀ d ∈ L, Calls Try.prog F (.int .i64 d :: cs).toArray W fun e W' => e = .returned (.agg #[.int .i64 (f d).x, .int .i64 (f d).y, .int .i64 (f d).t, .int .i64 (f d).p]) ∧ Below W.heap.size W W') :
    Calls Try.prog 50 #[.agg #[.int .i64 P, .int .i64 N, .slice A ds.length c], .slice A2 L.length c2, .func (.func F) #[] cs.toArray] w (OutT (Vd P N ds ∧ Vd P N (L.map f)) P N (L.map f) w) := by
  have HV := Lib.hid (fun W (hb : Below w.heap.size w W) => pvalid_yes P N ds A c W (hA.below hb (Nat.le_refl _)) hz hv)
  have HF := Lib.hid hF; have HCF := Lib.hid hcf; have HN := Lib.hid hn; have HVD := Lib.hid hv
  have HLL := Lib.hid (fun W (hb : Below w.heap.size w W) => hL.below hb (Nat.le_refl _))
  have hmk := fun w => run_make_dots L.length (by omega) w
  clear hA hz hv hL hF hcf
  have S_0 : Hid (Blk ((w.alloc (.cells #[.int .i64 P, .int .i64 N, .slice A ds.length c] 27)).alloc (.cells #[.int .i64 0, .int .i64 0, .slice none 0 0] 27)) w.heap.size 27 #[.int .i64 P, .int .i64 N, .slice A ds.length c]) := allocs_blk [(#[.int .i64 P, .int .i64 N, .slice A ds.length c], 27), (#[.int .i64 0, .int .i64 0, .slice none 0 0], 27)] w 0 _ rfl
  have U_0 : Hid (Blk ((w.alloc (.cells #[.int .i64 P, .int .i64 N, .slice A ds.length c] 27)).alloc (.cells #[.int .i64 0, .int .i64 0, .slice none 0 0] 27)) (w.heap.size + 1) 27 #[.int .i64 0, .int .i64 0, .slice none 0 0]) := allocs_blk [(#[.int .i64 P, .int .i64 N, .slice A ds.length c], 27), (#[.int .i64 0, .int .i64 0, .slice none 0 0], 27)] w 1 _ rfl
  have HB_0 : Hid (Below w.heap.size w ((w.alloc (.cells #[.int .i64 P, .int .i64 N, .slice A ds.length c] 27)).alloc (.cells #[.int .i64 0, .int .i64 0, .slice none 0 0] 27))) := allocs_below [(#[.int .i64 P, .int .i64 N, .slice A ds.length c], 27), (#[.int .i64 0, .int .i64 0, .slice none 0 0], 27)] w (Below.refl w.heap.size w) (Nat.le_refl _)
  go_enter Try.func50, Try.ntmps50
  have yy0 := S_0.out.cell (i := 0) (v := .int .i64 P) rfl; have yy1 := S_0.out.cell (i := 1) (v := .int .i64 N) rfl; have yy2 := S_0.out.cell (i := 2) (v := .slice A ds.length c) rfl
  go_wp2_with fail
  refine (HV.out _ HB_0.out).mono ?_
  rintro e v0 ⟨rfl, hb⟩
  clear yy0 yy1 yy2
  have S_1 : Hid (Blk v0 w.heap.size 27 #[.int .i64 P, .int .i64 N, .slice A ds.length c]) := Lib.hid (S_0.out.below hb S_0.out.lt)
  have U_1 : Hid (Blk v0 (w.heap.size + 1) 27 #[.int .i64 0, .int .i64 0, .slice none 0 0]) := Lib.hid (U_0.out.below hb U_0.out.lt)
  have HB_1 : Hid (Below w.heap.size w v0) := Lib.hid (HB_0.out.trans (hb.mono HB_0.out.size))
  clear hb S_0 U_0 HB_0
  have LW : Hid (w.heap.size + 1 < v0.heap.size) := Lib.hid U_1.out.lt
  have SA := Lib.hid (S_1.out.alloc (.cells (flat (List.replicate L.length dz0)).toArray 24))
  have s2 := SA.out.cell (i := 2) (v := .slice A ds.length c) rfl; have sf := SA.out.frozen 2
  have s2b := S_1.out.cell (i := 2) (v := .slice A ds.length c) rfl; have sfb := S_1.out.frozen 2
  go_wp2_with fail
  clear s2 sf s2b sfb hmk
  have RS : Hid (Blk ((v0.alloc (.cells (flat (List.replicate L.length dz0)).toArray 24)).setCell ⟨w.heap.size, 2, none⟩ (.slice (some ⟨v0.heap.size, 0, none⟩) L.length L.length)) w.heap.size 27 #[.int .i64 P, .int .i64 N, .slice (some ⟨v0.heap.size, 0, none⟩) L.length L.length]) := Lib.hid (SA.out.set 2 _)
  have RU : Hid (Blk ((v0.alloc (.cells (flat (List.replicate L.length dz0)).toArray 24)).setCell ⟨w.heap.size, 2, none⟩ (.slice (some ⟨v0.heap.size, 0, none⟩) L.length L.length)) (w.heap.size + 1) 27 #[.int .i64 0, .int .i64 0, .slice none 0 0]) := Lib.hid ((U_1.out.alloc _).far (p := ⟨w.heap.size, 2, none⟩) (by show w.heap.size + 1 ≠ w.heap.size; omega) _)
  have RG : Hid (Blk ((v0.alloc (.cells (flat (List.replicate L.length dz0)).toArray 24)).setCell ⟨w.heap.size, 2, none⟩ (.slice (some ⟨v0.heap.size, 0, none⟩) L.length L.length)) v0.heap.size 24 (flat (curD f L 0)).toArray) := Lib.hid (by rw [curD_zero]; exact (Blk.new v0 _ _).far (p := ⟨w.heap.size, 2, none⟩) (by have := LW.out; show v0.heap.size ≠ w.heap.size; omega) _)
  have RB : Hid (Below w.heap.size w ((v0.alloc (.cells (flat (List.replicate L.length dz0)).toArray 24)).setCell ⟨w.heap.size, 2, none⟩ (.slice (some ⟨v0.heap.size, 0, none⟩) L.length L.length))) := Lib.hid ((HB_1.out.alloc HB_1.out.size _).setCell (p := ⟨w.heap.size, 2, none⟩) (Nat.le_refl _) _)
  clear SA S_1 U_1 HB_1
  go_loopw [20] (fun ii wr => ∃ i : Nat, ii = .int .i64 i ∧ i ≤ L.length ∧ Blk wr w.heap.size 27 #[.int .i64 P, .int .i64 N, .slice (some ⟨v0.heap.size, 0, none⟩) L.length L.length] ∧ Blk wr (w.heap.size + 1) 27 #[.int .i64 0, .int .i64 0, .slice none 0 0] ∧ Blk wr v0.heap.size 24 (flat (curD f L i)).toArray ∧ Below w.heap.size w wr) (fun ii _ => L.length - (intOf ii).toNat)
  case atStart => exact ⟨0, rfl, Nat.zero_le _, RS.out, RU.out, RG.out, RB.out⟩
  case round =>
    clear RS RU RG RB
    obtain ⟨i, rfl, hi, hS, hU, hG, hB⟩ := hrel
    have S_7 := Lib.hid hS; have U_7 := Lib.hid hU; have G_7 := Lib.hid hG; have HB_7 := Lib.hid hB; clear hS hU hG hB
    by_cases hlt : i < L.length
    case neg =>
      obtain rfl : i = L.length := by omega
      have hni : ¬ ((L.length : Int) < (L.length : Int)) := by omega
      clear hi hlt
      have hg : Blk wr v0.heap.size 24 (flat (L.map f)).toArray := by have h := G_7.out; rwa [curD_all] at h
      have HDZ := Lib.hid (dz_of_blk hg)
      have hll : (L.map f).length = L.length := List.length_map ..
      by_cases hv : Vd P N (L.map f)
      case pos =>
        have hvc := pvalid_yes P N (L.map f) (some ⟨v0.heap.size, 0, none⟩) L.length wr HDZ.out (by rw [hll]; omega) hv
        rw [hll] at hvc
        have HVC := Lib.hid hvc; have HVN := Lib.hid hv; have HLLN := Lib.hid hll; clear hvc hv hg hll hn
        have yy0 := S_7.out.cell (i := 0) (v := .int .i64 P) rfl; have yy1 := S_7.out.cell (i := 1) (v := .int .i64 N) rfl; have yy2 := S_7.out.cell (i := 2) (v := .slice (some ⟨v0.heap.size, 0, none⟩) L.length L.length) rfl
        go_wp2_with fail
        refine HVC.out.mono ?_
        rintro e v2 ⟨rfl, hb⟩
        clear yy0 yy1 yy2
        have HDZ2 := Lib.hid (HDZ.out.below hb (Nat.le_refl _))
        have S_8 : Hid (Blk v2 w.heap.size 27 #[.int .i64 P, .int .i64 N, .slice (some ⟨v0.heap.size, 0, none⟩) L.length L.length]) := Lib.hid (S_7.out.below hb S_7.out.lt)
        have U_8 : Hid (Blk v2 (w.heap.size + 1) 27 #[.int .i64 0, .int .i64 0, .slice none 0 0]) := Lib.hid (U_7.out.below hb U_7.out.lt)
        have HB_8 : Hid (Below w.heap.size w v2) := Lib.hid (HB_7.out.trans (hb.mono HB_7.out.size))
        clear hb S_7 U_7 HB_7
        have yy0 := S_8.out.cell (i := 0) (v := .int .i64 P) rfl; have yy1 := S_8.out.cell (i := 1) (v := .int .i64 N) rfl; have yy2 := S_8.out.cell (i := 2) (v := .slice (some ⟨v0.heap.size, 0, none⟩) L.length L.length) rfl
        have yy3 := U_8.out.cell (i := 0) (v := .int .i64 0) rfl; have yy4 := U_8.out.cell (i := 1) (v := .int .i64 0) rfl; have yy5 := U_8.out.cell (i := 2) (v := .slice none 0 0) rfl
        have f0 := U_8.out.frozen 0; have f1 := U_8.out.frozen 1; have f2 := U_8.out.frozen 2
        go_wp2_with fail
        clear yy0 yy1 yy2 yy3 yy4 yy5
        have HFU := Lib.hid (((U_8.out.set 0 (.int .i64 P)).set 1 (.int .i64 N)).set 2 (.slice (some ⟨v0.heap.size, 0, none⟩) L.length L.length))
        have rU0 := HFU.out.cell (i := 0) (v := .int .i64 P) rfl
        have rU1 := HFU.out.cell (i := 1) (v := .int .i64 N) rfl
        have rU2 := HFU.out.cell (i := 2) (v := .slice (some ⟨v0.heap.size, 0, none⟩) L.length L.length) rfl
        have HBF := Lib.hid (((HB_8.out.setCell (p := ⟨(w.heap.size + 1), 0, none⟩) (by show w.heap.size ≤ (w.heap.size + 1); omega) (.int .i64 P)).setCell (p := ⟨(w.heap.size + 1), 1, none⟩) (by show w.heap.size ≤ (w.heap.size + 1); omega) (.int .i64 N)).setCell (p := ⟨(w.heap.size + 1), 2, none⟩) (by show w.heap.size ≤ (w.heap.size + 1); omega) (.slice (some ⟨v0.heap.size, 0, none⟩) L.length L.length))
        refine bodyPost_ret (v := .tuple #[.agg #[.int .i64 P, .int .i64 N, .slice (some ⟨v0.heap.size, 0, none⟩) L.length L.length], .int .i64 0]) (by simp [results, Try.results50, go_sem, rU0, rU1, rU2]) rfl ⟨.inl ⟨⟨HVD.out, HVN.out⟩, some ⟨v0.heap.size, 0, none⟩, L.length, by rw [HLLN.out], ?_, fun b o he => by obtain ⟨rfl, rfl, -⟩ : v0.heap.size = b ∧ 0 = o ∧ True := (by simpa using he); have := LW.out; omega, by rw [HLLN.out]; exact Nat.le_refl _⟩, HBF.out⟩
        refine dz_other HDZ2.out ?_ ?_
        · simp [World.setCell]
        · exact (Below.heap_setCell _ _ _ _ (by have := LW.out; show v0.heap.size ≠ w.heap.size + 1; omega)).trans ((Below.heap_setCell _ _ _ _ (by have := LW.out; show v0.heap.size ≠ w.heap.size + 1; omega)).trans (Below.heap_setCell _ _ _ _ (by have := LW.out; show v0.heap.size ≠ w.heap.size + 1; omega)))
      case neg =>
        have hvc := pvalid_not P N (L.map f) (some ⟨v0.heap.size, 0, none⟩) L.length wr HDZ.out (by rw [hll]; omega) hv
        rw [hll] at hvc
        have HVC := Lib.hid hvc; have HVN := Lib.hid hv; have HLLN := Lib.hid hll; clear hvc hv hg hll hn
        have yy0 := S_7.out.cell (i := 0) (v := .int .i64 P) rfl; have yy1 := S_7.out.cell (i := 1) (v := .int .i64 N) rfl; have yy2 := S_7.out.cell (i := 2) (v := .slice (some ⟨v0.heap.size, 0, none⟩) L.length L.length) rfl
        go_wp2_with fail
        refine HVC.out.mono ?_
        rintro e v2 ⟨rfl, hb⟩
        clear yy0 yy1 yy2
        have S_8 : Hid (Blk v2 w.heap.size 27 #[.int .i64 P, .int .i64 N, .slice (some ⟨v0.heap.size, 0, none⟩) L.length L.length]) := Lib.hid (S_7.out.below hb S_7.out.lt)
        have U_8 : Hid (Blk v2 (w.heap.size + 1) 27 #[.int .i64 0, .int .i64 0, .slice none 0 0]) := Lib.hid (U_7.out.below hb U_7.out.lt)
        have HB_8 : Hid (Below w.heap.size w v2) := Lib.hid (HB_7.out.trans (hb.mono HB_7.out.size))
        clear hb S_7 U_7 HB_7
        have yy0 := S_8.out.cell (i := 0) (v := .int .i64 P) rfl; have yy1 := S_8.out.cell (i := 1) (v := .int .i64 N) rfl; have yy2 := S_8.out.cell (i := 2) (v := .slice (some ⟨v0.heap.size, 0, none⟩) L.length L.length) rfl
        have yy3 := U_8.out.cell (i := 0) (v := .int .i64 0) rfl; have yy4 := U_8.out.cell (i := 1) (v := .int .i64 0) rfl; have yy5 := U_8.out.cell (i := 2) (v := .slice none 0 0) rfl
        have f0 := U_8.out.frozen 0; have f1 := U_8.out.frozen 1; have f2 := U_8.out.frozen 2
        go_wp2_with fail
        clear yy0 yy1 yy2 yy3 yy4 yy5
        have HFU := Lib.hid (((U_8.out.set 0 (.int .i64 0)).set 1 (.int .i64 0)).set 2 (.slice none 0 0))
        have rU0 := HFU.out.cell (i := 0) (v := .int .i64 0) rfl
        have rU1 := HFU.out.cell (i := 1) (v := .int .i64 0) rfl
        have rU2 := HFU.out.cell (i := 2) (v := .slice none 0 0) rfl
        exact bodyPost_ret (v := .tuple #[.agg #[.int .i64 0, .int .i64 0, .slice none 0 0], .int .i64 50]) (by simp [results, Try.results50, go_sem, rU0, rU1, rU2]) rfl ⟨.inr ⟨fun h => HVN.out h.2, rfl⟩, (((HB_8.out.setCell (p := ⟨(w.heap.size + 1), 0, none⟩) (by show w.heap.size ≤ (w.heap.size + 1); omega) (.int .i64 0)).setCell (p := ⟨(w.heap.size + 1), 1, none⟩) (by show w.heap.size ≤ (w.heap.size + 1); omega) (.int .i64 0)).setCell (p := ⟨(w.heap.size + 1), 2, none⟩) (by show w.heap.size ≤ (w.heap.size + 1); omega) (.slice none 0 0))⟩
    case pos =>
      have hL2 := HLL.out wr HB_7.out
      obtain ⟨b, o, rfl, hbl, hcc⟩ := hL2 (by omega)
      obtain ⟨d, hd⟩ : ∃ d, d = L[i] := ⟨_, rfl⟩
      have hk := hcc i hlt
      rw [← hd] at hk
      have HCUR : Hid ((curD f L i).set i (f d) = curD f L (i + 1)) := Lib.hid (by rw [hd]; exact curD_succ f hlt)
      have HCL : Hid (i < (curD f L i).length) := Lib.hid (by rw [curD_length f hi]; exact hlt)
      have HC0 : Hid ((curD f L i)[i]? = some dz0) := Lib.hid (curD_at f hlt)
      have hcall := fun W hb => HF.out W hb d (by rw [hd]; exact List.getElem_mem _)
      obtain ⟨r, hr⟩ : ∃ r, r = f d := ⟨_, rfl⟩
      rw [← hr] at hcall HCUR
      have HCA := Lib.hid hcall
      have q1 : (0 : Int) ≤ (i : Int) := by omega
      have q2 : (i : Int) < (L.length : Int) := by omega
      have q5 : (i : Int) + 1 ≤ 9223372036854775807 := by omega
      have HLT := Lib.hid hlt
      have hcf := HCF.out
      clear hd hL2 hcc hbl hcall hr hlt hi hn
      go_wp2_with fail
      clear hk
      refine wp_region_grow (S := (fun w' => w'.cell? ⟨w.heap.size, 2, none⟩ = some (.slice (some ⟨v0.heap.size, 0, none⟩) L.length L.length) ∧ Below w.heap.size w w')) ((fun w' => Below w.heap.size w w' ∧ Blk w' w.heap.size 27 #[.int .i64 P, .int .i64 N, .slice (some ⟨v0.heap.size, 0, none⟩) L.length L.length] ∧ Blk w' (w.heap.size + 1) 27 #[.int .i64 0, .int .i64 0, .slice none 0 0] ∧ Blk w' v0.heap.size 24 (flat (curD f L i)).toArray)) (by kernel_rfl) (⟨fun w2 h2 => ⟨(h2.2.1.cell (i := 2) rfl), h2.1⟩, fun w2 w3 h2 hb2 => ⟨h2.1.trans (hb2.mono h2.1.size), h2.2.1.below hb2 h2.2.1.lt, h2.2.2.1.below hb2 h2.2.2.1.lt, h2.2.2.2.below hb2 h2.2.2.2.lt⟩⟩) (⟨HB_7.out.drew, S_7.out.drew, U_7.out.drew, G_7.out.drew⟩) (fun hCalm => ?_)
      refine grow_take 0 (some 25) ?_ rfl rfl (by kernel_rfl) (fun _ _ _ h => h) (by kernel_rfl) hCalm ?_ ?_
      rotate_left
      · intro wS hS; (try dsimp only at hS); go_simp <;> with_reducible rfl
      try simp only [Act.put, List.setIfInBounds_toArray, List.set_cons_zero, List.set_cons_succ]
      refine grow_take 1 (some 26) ?_ rfl rfl (by kernel_rfl) (fun _ _ _ h => h) (by kernel_rfl) hCalm ?_ ?_
      rotate_left
      · intro wS hS; (try dsimp only at hS); go_simp <;> with_reducible rfl
      try simp only [Act.put, List.setIfInBounds_toArray, List.set_cons_zero, List.set_cons_succ]
      refine grow_take 2 (some 27) ?_ rfl rfl (by kernel_rfl) (fun _ _ _ h => h) (by kernel_rfl) hCalm ?_ ?_
      rotate_left
      · intro wS hS; (try dsimp only at hS); go_simp <;> with_reducible rfl
      try simp only [Act.put, List.setIfInBounds_toArray, List.set_cons_zero, List.set_cons_succ]
      refine grow_take 3 (some 28) ?_ rfl rfl (by kernel_rfl) (fun _ _ _ h => h) (by kernel_rfl) hCalm ?_ ?_
      rotate_left
      · intro wS hS; (try dsimp only at hS); go_simp <;> with_reducible rfl
      try simp only [Act.put, List.setIfInBounds_toArray, List.set_cons_zero, List.set_cons_succ]
      refine grow_take 4 (some 29) ?_ rfl rfl (by kernel_rfl) (fun _ _ _ h => h) (by kernel_rfl) hCalm ?_ ?_
      rotate_left
      · intro wS hS; (try dsimp only at hS); go_simp <;> with_reducible rfl
      try simp only [Act.put, List.setIfInBounds_toArray, List.set_cons_zero, List.set_cons_succ]
      refine grow_enter 5 (some 30) (.agg #[.int .i64 r.x, .int .i64 r.y, .int .i64 r.t, .int .i64 r.p]) F ((.int .i64 d :: cs).toArray) rfl rfl (by kernel_rfl) (fun _ _ _ h => h) (by kernel_rfl) hCalm (fun wz hS => HCA.out wz hS.2) ?_ ?_
      · intro wS hS; (try dsimp only at hS); go_simp
      try simp only [Act.put, List.setIfInBounds_toArray, List.set_cons_zero, List.set_cons_succ]
      refine grow_take 6 (some 31) ?_ rfl rfl (by kernel_rfl) (fun _ _ _ h => h) (by kernel_rfl) hCalm ?_ ?_
      rotate_left
      · intro wS hS; (try dsimp only at hS); go_simp <;> with_reducible rfl
      try simp only [Act.put, List.setIfInBounds_toArray, List.set_cons_zero, List.set_cons_succ]
      refine grow_each [7] (by kernel_rfl) (by decide) ?_
      refine grow_cons 7 rfl (by kernel_rfl) (fun wA hA K hK => ?_) grow_nil
      have hG0 := hA.2.2.2
      have z0 := hG0.cell (i := i * 4) (v := .int .i64 0) (flat_z HCL.out HC0.out).1; have f0 := hG0.frozen (i * 4)
      have z1 := hG0.cell (i := i * 4 + 1) (v := .int .i64 0) (flat_z HCL.out HC0.out).2.1; have f1 := hG0.frozen (i * 4 + 1)
      have z2 := hG0.cell (i := i * 4 + 2) (v := .int .i64 0) (flat_z HCL.out HC0.out).2.2.1; have f2 := hG0.frozen (i * 4 + 2)
      have z3 := hG0.cell (i := i * 4 + 3) (v := .int .i64 0) (flat_z HCL.out HC0.out).2.2.2; have f3 := hG0.frozen (i * 4 + 3)
      go_simp
      refine hK.out _ _ (fun w' => Below w.heap.size w w' ∧ Blk w' w.heap.size 27 #[.int .i64 P, .int .i64 N, .slice (some ⟨v0.heap.size, 0, none⟩) L.length L.length] ∧ Blk w' (w.heap.size + 1) 27 #[.int .i64 0, .int .i64 0, .slice none 0 0] ∧ Blk w' v0.heap.size 24 (flat (curD f L (i + 1))).toArray) ⟨fun w2 h2 => ⟨(h2.2.1.cell (i := 2) rfl), h2.1⟩, fun w2 w3 h2 hb2 => ⟨h2.1.trans (hb2.mono h2.1.size), h2.2.1.below hb2 h2.2.1.lt, h2.2.2.1.below hb2 h2.2.2.1.lt, h2.2.2.2.below hb2 h2.2.2.2.lt⟩⟩ ⟨((((hA.1.setCell (p := ⟨v0.heap.size, i * 4, none⟩) (by have := LW.out; show w.heap.size ≤ v0.heap.size; omega) _).setCell (p := ⟨v0.heap.size, i * 4 + 1, none⟩) (by have := LW.out; show w.heap.size ≤ v0.heap.size; omega) _).setCell (p := ⟨v0.heap.size, i * 4 + 2, none⟩) (by have := LW.out; show w.heap.size ≤ v0.heap.size; omega) _).setCell (p := ⟨v0.heap.size, i * 4 + 3, none⟩) (by have := LW.out; show w.heap.size ≤ v0.heap.size; omega) _), ((((hA.2.1.far (p := ⟨v0.heap.size, i * 4, none⟩) (by have := LW.out; show w.heap.size ≠ v0.heap.size; omega) _).far (p := ⟨v0.heap.size, i * 4 + 1, none⟩) (by have := LW.out; show w.heap.size ≠ v0.heap.size; omega) _).far (p := ⟨v0.heap.size, i * 4 + 2, none⟩) (by have := LW.out; show w.heap.size ≠ v0.heap.size; omega) _).far (p := ⟨v0.heap.size, i * 4 + 3, none⟩) (by have := LW.out; show w.heap.size ≠ v0.heap.size; omega) _), ((((hA.2.2.1.far (p := ⟨v0.heap.size, i * 4, none⟩) (by have := LW.out; show (w.heap.size + 1) ≠ v0.heap.size; omega) _).far (p := ⟨v0.heap.size, i * 4 + 1, none⟩) (by have := LW.out; show (w.heap.size + 1) ≠ v0.heap.size; omega) _).far (p := ⟨v0.heap.size, i * 4 + 2, none⟩) (by have := LW.out; show (w.heap.size + 1) ≠ v0.heap.size; omega) _).far (p := ⟨v0.heap.size, i * 4 + 3, none⟩) (by have := LW.out; show (w.heap.size + 1) ≠ v0.heap.size; omega) _), (by have h := ((((hG0.set (i * 4) (.int .i64 r.x)).set (i * 4 + 1) (.int .i64 r.y)).set (i * 4 + 2) (.int .i64 r.t)).set (i * 4 + 3) (.int .i64 r.p)); rw [flat_setA _ _ HCL.out, HCUR.out] at h; exact h)⟩ ?_
      clear z0 z1 z2 z3 f0 f1 f2 f3 hG0 hK K hA wA hCalm
      have hCalm : Calm (fun w' => w'.cell? ⟨w.heap.size, 2, none⟩ = some (.slice (some ⟨v0.heap.size, 0, none⟩) L.length L.length) ∧ Below w.heap.size w w') (fun w' => Below w.heap.size w w' ∧ Blk w' w.heap.size 27 #[.int .i64 P, .int .i64 N, .slice (some ⟨v0.heap.size, 0, none⟩) L.length L.length] ∧ Blk w' (w.heap.size + 1) 27 #[.int .i64 0, .int .i64 0, .slice none 0 0] ∧ Blk w' v0.heap.size 24 (flat (curD f L (i + 1))).toArray) := ⟨fun w2 h2 => ⟨(h2.2.1.cell (i := 2) rfl), h2.1⟩, fun w2 w3 h2 hb2 => ⟨h2.1.trans (hb2.mono h2.1.size), h2.2.1.below hb2 h2.2.1.lt, h2.2.2.1.below hb2 h2.2.2.1.lt, h2.2.2.2.below hb2 h2.2.2.2.lt⟩⟩
      try simp only [Act.put]
      refine grow_done (by kernel_rfl) (fun wA hA => ?_) _
      go_wp2_with fail
      go_roundw
      case rel => exact ⟨i + 1, by go_num, by have := HLT.out; omega, hA.2.1, hA.2.2.1, hA.2.2.2, hA.1⟩
      case measure => have := HLT.out; simp [intOf]; omega
end Go.Proofs.Ytamogfcedkjmcaa
