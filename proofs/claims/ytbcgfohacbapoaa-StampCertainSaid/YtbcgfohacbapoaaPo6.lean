
/- The contract of passedOn: bounds narrowed along all meetings once. Conditions: the slice and the map read, persons that are there, bounds that do not overflow. -/
import Derived.Test.YtbcgfohacbapoaaSd6
import Derived.Test.YtbcgfohacbapoaaGf6
import Derived.Maps.OwnIn
import Derived.Laws.StructEq
namespace Go.Proofs.Ytbcgfohacbapoaa
open Go.RowKit Go.Shelf Go.Lib
attribute [local go_sem] Oper.semAt_some

/-- Bounds, and whether any have changed. -/
def pst (E : List Ed) (F : Int → Sk) : (Int → Sk) × Bool := E.foldl (fun s e => (stp s.1 e, s.2 || decide (stp s.1 e e.o ≠ s.1 e.o))) (F, false)
theorem pst_snoc (E : List Ed) (F : Int → Sk) (e : Ed) : pst (E ++ [e]) F = (stp (pst E F).1 e, (pst E F).2 || decide (stp (pst E F).1 e e.o ≠ (pst E F).1 e.o)) := by simp [pst]
theorem pst_fst (F : Int → Sk) : ∀ E : List Ed, (pst E F).1 = psF E F := by
  have key : ∀ (E : List Ed) (s : (Int → Sk) × Bool), (E.foldl (fun s e => (stp s.1 e, s.2 || decide (stp s.1 e e.o ≠ s.1 e.o))) s).1 = psF E s.1 := by
    intro E
    induction E with
    | nil => intro s; rfl
    | cons e r ih => intro s; exact ih _
  exact fun E => key E _
theorem stp_same {F : Int → Sk} {e : Ed} (h : stp F e e.o = F e.o) : stp F e = F := by
  funext q
  by_cases hq : q = e.o
  · rw [hq]; exact h
  · exact stp_off hq
theorem pst_no (F : Int → Sk) (E : List Ed) (h : (pst E F).2 = false) : (pst E F).1 = F ∧ ∀ e ∈ E, stp F e = F := by
  have key : ∀ (E : List Ed) (s : (Int → Sk) × Bool), (E.foldl (fun s e => (stp s.1 e, s.2 || decide (stp s.1 e e.o ≠ s.1 e.o))) s).2 = false → s.2 = false ∧ (E.foldl (fun s e => (stp s.1 e, s.2 || decide (stp s.1 e e.o ≠ s.1 e.o))) s).1 = s.1 ∧ ∀ e ∈ E, stp s.1 e = s.1 := by
    intro E
    induction E with
    | nil => intro s h; exact ⟨h, rfl, fun _ h => by cases h⟩
    | cons e r ih =>
      intro s h
      obtain ⟨h1, h2, h3⟩ := ih _ h
      simp only [Bool.or_eq_false_iff, decide_eq_false_iff_not, ne_eq, Decidable.not_not] at h1
      have h4 := stp_same h1.2
      dsimp only at h2 h3
      rw [h4] at h2 h3
      refine ⟨h1.1, ?_, fun x hx => ?_⟩
      · rw [← h2, List.foldl_cons, h4]
      · rcases List.mem_cons.1 hx with rfl | hx
        · exact h4
        · exact h3 x hx
  obtain ⟨_, h2, h3⟩ := key E (F, false) h
  exact ⟨h2, h3⟩
/-- Bounds within C. -/
def Bd (F : Int → Sk) (C : Int) : Prop := ∀ q, (-C ≤ (F q).lo ∧ (F q).lo ≤ C) ∧ (-C ≤ (F q).hi ∧ (F q).hi ≤ C)
theorem stp_bd {F : Int → Sk} {C : Int} (h : Bd F C) {e : Ed} (ha : -1000000 ≤ e.a ∧ e.a ≤ 1000000) : Bd (stp F e) (C + 1000000) := fun q => by
  have h1 := h q; have h2 := h e.o; have h3 := h e.r
  unfold stp; split
  · dsimp only; omega
  · omega
theorem psF_bd : ∀ (E : List Ed) (F : Int → Sk) {C : Int}, Bd F C → (∀ e ∈ E, -1000000 ≤ e.a ∧ e.a ≤ 1000000) → Bd (psF E F) (C + 1000000 * E.length)
  | [], F, C, h, _ => by simpa [psF] using h
  | e :: r, F, C, h, ha => by
    have := psF_bd r (stp F e) (stp_bd h (ha e (by simp))) (fun x hx => ha x (by simp [hx]))
    show Bd (psF r (stp F e)) _
    simp only [List.length_cons]
    rwa [show C + 1000000 * ((r.length + 1 : Nat) : Int) = C + 1000000 + 1000000 * (r.length : Int) from by omega]
theorem sdL_a {ms : List Mt} (ht : Tms ms) : ∀ e ∈ sdL ms, -1000000 ≤ e.a ∧ e.a ≤ 1000000 := fun e he => by
  obtain ⟨m, hm, rfl | rfl⟩ := sdL_mem.1 he
  · have := ht m hm; dsimp only; omega
  · have := ht m hm; dsimp only; omega
theorem grown_own {β : Type} {B b : Nat} {w : World} (hw : w.heap.size ≤ B) : OwnFrom B (fun (_ : β) W => w.grownBy W (some b)) := fun _ X Y row hs hg hr => ⟨hg.os.trans hs.os, hg.tape.trans hs.tape, hg.output.trans hs.output, Nat.le_trans hs.size hg.size, fun k hk hne => by
  have h1 : k < X.heap.size := Nat.lt_of_lt_of_le hk hs.size
  refine (hg.block k h1 (fun e => ?_)).trans (hs.block k hk hne)
  have := (hr k e.symm).1; omega⟩
theorem grown_below {b : Nat} {w X Y : World} (h : w.grownBy X (some b)) (hb : Below X.heap.size X Y) : w.grownBy Y (some b) := ⟨hb.os.trans h.os, hb.tape.trans h.tape, hb.output.trans h.output, Nat.le_trans h.size hb.size, fun k hk hne => (hb.block k (Nat.lt_of_lt_of_le hk h.size)).trans (h.block k hk hne)⟩
theorem grown_trans {b : Nat} {w X Y : World} (h : w.grownBy X (some b)) (h2 : X.grownBy Y (some b)) : w.grownBy Y (some b) := ⟨h2.os.trans h.os, h2.tape.trans h.tape, h2.output.trans h.output, Nat.le_trans h.size h2.size, fun k hk hne => (h2.block k (Nat.lt_of_lt_of_le hk h.size) hne).trans (h.block k hk hne)⟩
theorem grown_store {b g : Nat} {w X : World} (h : w.grownBy X (some b)) (hg : w.heap.size ≤ g) (i : Nat) (v : Value) : w.grownBy (X.setCell ⟨g, i, none⟩ v) (some b) := ⟨h.os, h.tape, h.output, by simpa [World.setCell] using h.size, fun k hk hne => (Below.heap_setCell X ⟨g, i, none⟩ v k (by show k ≠ g; omega)).trans (h.block k hk hne)⟩
theorem blk_own {β : Type} (B : Nat) (t : TypeId) (f : β → Array Value) : Own (fun (s : β) W => Blk W B t (f s)) := fun s X Y row hs hg hrow => hs.only hg (fun e => by
  obtain ⟨o, h1, h2⟩ := hrow B e.symm
  have h3 : X.heap[B]? = some (.cells (f s) t (0, 0)) := hs
  rw [h3, Option.some.injEq] at h1
  rw [← h1] at h2
  cases h2)
theorem keeps_of_below {B : Nat} {W W' : World} (h : Below W.heap.size W W') : KeepsFrom B W W' := KeepsFrom.of_grownBy (grown_of_below h) (fun j e => by cases e)
theorem map_own {β : Type} {B b n : Nat} {K : Int → Bool} (hb : b < B) (f : β → Int → Sk) : OwnFrom B (fun (s : β) W => MapB W b n K (f s)) := fun s X Y row hs hg hr => hs.kept hg (fun e => by have := (hr b e.symm).1; omega)
theorem run_max6 {P : Program} (ts : Array TypeId) (t : TypeId) (w : World) (x y : Int) : (Builtin.max_ ts t #[.int .i64 x, .int .i64 y]).run P w = .ok (.int .i64 (max x y)) w := by
  have e : ∀ x y : Int, (if x < y then y else x) = max x y := fun x y => by split <;> omega
  simp [Builtin.max_, Builtin.max2, e]
theorem run_min6 {P : Program} (ts : Array TypeId) (t : TypeId) (w : World) (x y : Int) : (Builtin.min_ ts t #[.int .i64 x, .int .i64 y]).run P w = .ok (.int .i64 (min x y)) w := by
  have e : ∀ x y : Int, (if y < x then y else x) = min x y := fun x y => by split <;> omega
  simp [Builtin.min_, Builtin.min2, e]
theorem upd_true {K : Int → Bool} {q : Int} (h : K q = true) : (fun x => if x = q then true else K x) = K := by
  funext x
  by_cases e : x = q
  · rw [if_pos e, e, h]
  · rw [if_neg e]
/-- Directions that the map can take: persons that are there, as ints. -/
def EdOk (E : List Ed) (K : Int → Bool) : Prop := ∀ e ∈ E, (i64 e.o ∧ K e.o = true) ∧ i64 e.r
set_option maxRecDepth 100000 in
set_option maxHeartbeats 8000000 in
theorem ppassed_any (mb n : Nat) (K : Int → Bool) (F : Int → Sk) (C : Int) (ms : List Mt) (B : Option Addr) (d : Nat) (w : World) (hM : MapB w mb n K F) (hn : n ≤ 1000) (hB : Mz w B ms) (hl : ms.length ≤ 60) (ht : Tms ms) (hE : EdOk (sdL ms) K) (hF : Bd F C) (hC : C ≤ 1000000000000000) :
    Calls Try.prog 109 #[.map (some mb), .slice B ms.length d] w fun e w' => e = .returned (.bool (pst (sdL ms) F).2) ∧ MapB w' mb n K (psF (sdL ms) F) ∧ w.grownBy w' (some mb) := by
  have HE := Lib.hid hE
  have HBD : Hid (∀ pre : List (EdIn (sdL ms)), pre.length < 2 * ms.length → Bd (pst (vls pre) F).1 (C + 120000000)) := Lib.hid (fun pre hp q => by
    have h := psF_bd (vls pre) F hF (fun e he => by obtain ⟨x, _, rfl⟩ := List.mem_map.1 he; exact sdL_a ht _ x.2) q
    rw [vls_length] at h; rw [pst_fst]; omega)
  have HSA := Lib.hid (sdL_a ht)
  have hmbw := hM.lt
  have hq : 0 < ms.length → ∀ b o, B = some ⟨b, o, none⟩ → b ≠ w.heap.size + 1 := fun h b o e => by subst e; have := hB.here (i := 0) h; omega
  have HL := Lib.hid hl; have HT := Lib.hid ht; have HN := Lib.hid hn; have HC := Lib.hid hC
  clear hE hF hC hl ht
  refine (callsIn_wide (n := 8)).1 ?_
  refine callsIn_of_wp_marks Try.func109 rfl trivial ?_ rfl
  simp only [Try.ntmps109, List.size_toArray, List.length_cons, List.length_nil, Nat.reduceAdd, Nat.reduceSub, Array.replicate_succ, Array.replicate_zero, List.push_toArray, List.append_toArray, List.nil_append, List.cons_append]
  gi_wp2_with (refine ⟨trivial, ?_⟩; gi_at_call 112; refine (sides_in _ ms _ d _).mono ?_; rintro e w1 ⟨rfl, rfl⟩)
  have hb0 : Below w.heap.size w (((w.alloc (.cells #[.map (some mb)] 124)).alloc (.cells #[.bool false] 4)).alloc (.cells #[.slice B ms.length d] 82)) := allocs_below [(#[.map (some mb)], 124), (#[.bool false], 4), (#[.slice B ms.length d], 82)] w (Below.refl _ _) (Nat.le_refl _)
  have hk0 : Blk (((w.alloc (.cells #[.map (some mb)] 124)).alloc (.cells #[.bool false] 4)).alloc (.cells #[.slice B ms.length d] 82)) (w.heap.size) 124 #[.map (some mb)] := allocs_blk [(#[.map (some mb)], 124), (#[.bool false], 4), (#[.slice B ms.length d], 82)] w 0 _ rfl
  have hk1 : Blk (((w.alloc (.cells #[.map (some mb)] 124)).alloc (.cells #[.bool false] 4)).alloc (.cells #[.slice B ms.length d] 82)) (w.heap.size + 1) 4 #[.bool false] := allocs_blk [(#[.map (some mb)], 124), (#[.bool false], 4), (#[.slice B ms.length d], 82)] w 1 _ rfl
  have hk2 : Blk (((w.alloc (.cells #[.map (some mb)] 124)).alloc (.cells #[.bool false] 4)).alloc (.cells #[.slice B ms.length d] 82)) (w.heap.size + 2) 82 #[.slice B ms.length d] := allocs_blk [(#[.map (some mb)], 124), (#[.bool false], 4), (#[.slice B ms.length d], 82)] w 2 _ rfl
  have hsz : (((w.alloc (.cells #[.map (some mb)] 124)).alloc (.cells #[.bool false] 4)).alloc (.cells #[.slice B ms.length d] 82)).heap.size = w.heap.size + 3 := by simp
  obtain ⟨W0, hW0⟩ : ∃ W0, ((w.alloc (.cells #[.map (some mb)] 124)).alloc (.cells #[.bool false] 4)).alloc (.cells #[.slice B ms.length d] 82) = W0 := ⟨_, rfl⟩
  rw [hW0] at hb0 hk0 hk1 hk2 hsz ⊢
  have hM0 : MapB W0 mb n K F := hM.below hb0 hmbw
  have hG0 : w.grownBy W0 (some mb) := ⟨hb0.os, hb0.tape, hb0.output, hb0.size, fun k hk _ => hb0.block k hk⟩
  have hB0 : Mz W0 B ms := hB.below hb0 (Nat.le_refl _)
  clear hW0 hM hB hb0
  have hmc := hk2.cell (i := 0) (v := .slice B ms.length d) rfl
  refine wpIn_rangeFunc_ownH rfl (by omega) (gf := 113) (lb := #[.pointer (some ⟨w.heap.size + 2, 0, none⟩)]) rfl trivial (enters_of Try.func113 (by kernel_rfl) rfl)
    (sides_stops (8 - 1) (w.heap.size + 1) (w.heap.size + 2) d B ms HL.out HT.out (by omega) hq W0 (by omega) (by omega) hmc hB0) (fun h k => h.trans k) (fun W l o o' _ h1 h2 _ => KpC.put W l o o' h1 h2) (Below.refl _ _) (fun _ => rfl)
    (fun pre W => ((((MapB W mb n K (pst (vls pre) F).1 ∧ Blk W w.heap.size 124 #[.map (some mb)]) ∧ Blk W (w.heap.size + 1) 4 #[.bool (pst (vls pre) F).2]) ∧ W0.heap.size ≤ W.heap.size) ∧ w.grownBy W (some mb)))
    (fun _ _ _ => False)
    (OwnFrom.and (OwnFrom.and (OwnFrom.and (OwnFrom.and (map_own (by omega) _) (Own.from (blk_own _ _ _) _)) (Own.from (blk_own _ _ _) _)) (fun _ X Y row hs hg _ => Nat.le_trans hs hg.size)) (grown_own (by omega)))
    (fun _ _ _ _ _ hs _ _ => hs)
    ⟨⟨⟨⟨hM0, hk0⟩, hk1⟩, Nat.le_refl _⟩, hG0⟩
    (fun x a' W => ∃ Ba, w.heap.size + 2 < Ba ∧ Blk W Ba 31 #[.int .i64 x.1.o, .int .i64 x.1.r] ∧ a' = { tmps := #[.map (some mb), .slice B ms.length d, .pointer (some ⟨w.heap.size, 0, none⟩), undef, .bool false, .pointer (some ⟨w.heap.size + 1, 0, none⟩), .pointer (some ⟨Ba, 0, none⟩), .int .i64 x.1.a, undef, undef, undef, .slice B ms.length d, .func (.func 113) #[] #[.pointer (some ⟨w.heap.size + 2, 0, none⟩)], .agg #[.int .i64 x.1.o, .int .i64 x.1.r], .int .i64 x.1.a, undef, undef, undef, undef, undef, undef, undef, undef, undef, undef, undef, undef, undef, undef, undef, undef, undef, undef, undef, undef, undef, undef, undef, undef, undef, undef, undef, undef, undef, undef, undef, undef, undef, undef, undef, undef], defers := [] })
    (fun x a' _ X Y row hs hg hr => by
      obtain ⟨Ba, h1, h2, h4⟩ := hs
      exact ⟨Ba, h1, blk_own Ba 31 (fun (_ : Unit) => #[.int .i64 x.1.o, .int .i64 x.1.r]) () X Y row h2 hg (fun r e => (hr r e).2), h4⟩)
    ?assign ?body ?done ?stop
  case assign =>
    rintro l pre x W K ⟨⟨⟨⟨hM, bB⟩, bC⟩, hLW⟩, hG⟩ hK
    gi_wp2
    have hl3 : w.heap.size + 3 ≤ W.heap.size := by omega
    have hb1 : Below W.heap.size W (W.alloc (.cells #[.int .i64 x.1.o, .int .i64 x.1.r] 31)) := (Below.refl _ W).alloc (Nat.le_refl _) _
    exact hK _ _ ((KeepsOthers.alloc _ _).from _) (KpC.of_below hb1) ⟨⟨⟨⟨hM.alloc _, bB.alloc _⟩, bC.alloc _⟩, by simp; omega⟩, grown_below hG hb1⟩ ⟨W.heap.size, by omega, Blk.new W _ _, rfl⟩
  case done =>
    rintro D ys W hD hys ⟨⟨⟨⟨hM, bB⟩, bC⟩, hLW⟩, hG⟩ hK
    rw [hys] at hM bC
    rw [pst_fst] at hM
    have y0 := bC.cell (i := 0) rfl
    gi_wp2
    refine ⟨by simp, .inl ⟨_, _, rfl, run_takeDeferred hK, ?_⟩⟩
    refine ⟨_, results_tmp rfl _ _ _, rfl, hM.kept (grownBy_putObj' _ D _) (fun e => by cases e; omega), ?_⟩
    have h1 := belowK_b (w := w) (Nat.le_refl _) W D _ (.deferred none) (by omega) hK rfl rfl
    exact ⟨h1.os.trans hG.os, h1.tape.trans hG.tape, h1.output.trans hG.output, Nat.le_trans hG.size h1.size, fun k hk hne => (h1.block k hk).trans (hG.block k hk hne)⟩
  case stop =>
    rintro D c pre W _ _ h _
    exact h.elim
  case body =>
    rintro l pre x a' W hl ⟨r, hr⟩ ⟨⟨⟨⟨hM, bB⟩, bC⟩, hLW⟩, hG⟩ ⟨Ba, hBa, kA, rfl⟩ hlt
    have hx := HE.out x.1 x.2
    have hxa := HSA.out x.1 x.2
    have hbd := HBD.out pre hlt
    obtain ⟨F1, hF1⟩ : ∃ F1, F1 = (pst (vls pre) F).1 := ⟨_, rfl⟩
    obtain ⟨c1, hc1⟩ : ∃ c1, c1 = (pst (vls pre) F).2 := ⟨_, rfl⟩
    have HST : Hid (∀ F2 c2, F2 = stp F1 x.1 → c2 = (c1 || decide (stp F1 x.1 x.1.o ≠ F1 x.1.o)) → (pst (vls (pre ++ [x])) F).1 = F2 ∧ (pst (vls (pre ++ [x])) F).2 = c2) := Lib.hid (fun F2 c2 h1 h2 => by rw [vls_snoc, pst_snoc, ← hF1, ← hc1]; exact ⟨h1.symm, h2.symm⟩)
    rw [← hF1] at hM hbd; rw [← hc1] at bC
    clear hF1 hc1 hlt
    obtain ⟨⟨eo, er, ea⟩, hxm⟩ := x
    dsimp only at *
    have hbo := hbd eo; have hbr := hbd er
    have HCC := HC.out
    have HST2 : Hid (∀ p lo hi olo ohi, F1 eo = ⟨p, lo, hi⟩ → (F1 er).lo = olo → (F1 er).hi = ohi → (fun x => if x = eo then (⟨p, max lo (olo + ea), min hi (ohi + ea)⟩ : Sk) else F1 x) = stp F1 ⟨eo, er, ea⟩) := Lib.hid (fun p lo hi olo ohi h1 h2 h3 => by
      funext y; unfold stp; dsimp only; rw [h1, h2, h3])
    obtain ⟨own, hown⟩ : ∃ s, s = F1 eo := ⟨_, rfl⟩
    obtain ⟨oth, hoth⟩ : ∃ s, s = F1 er := ⟨_, rfl⟩
    rw [← hown] at hbo; rw [← hoth] at hbr
    obtain ⟨p, lo, hi⟩ := own
    obtain ⟨op, olo, ohi⟩ := oth
    dsimp only at hbo hbr
    have HFO : Hid (F1 eo = ⟨p, lo, hi⟩) := Lib.hid hown.symm
    have HFR : Hid (F1 er = ⟨op, olo, ohi⟩) := Lib.hid hoth.symm
    obtain ⟨s1, hs1⟩ : ∃ x, x = olo + ea := ⟨_, rfl⟩
    obtain ⟨s2, hs2⟩ : ∃ x, x = ohi + ea := ⟨_, rfl⟩
    have e1 : IntKind.i64.wrap (olo + ea) = s1 := by rw [hs1]; exact IntWalk.i64_in _ (by omega)
    have e2 : IntKind.i64.wrap (ohi + ea) = s2 := by rw [hs2]; exact IntWalk.i64_in _ (by omega)
    obtain ⟨nlo, hnlo⟩ : ∃ x, x = max lo s1 := ⟨_, rfl⟩
    obtain ⟨nhi, hnhi⟩ : ∃ x, x = min hi s2 := ⟨_, rfl⟩
    have hmx : ∀ (ts : Array TypeId) (t : TypeId) (w : World), (Builtin.max_ ts t #[.int .i64 lo, .int .i64 s1]).run Try.prog w = .ok (.int .i64 nlo) w := fun ts t w => by rw [run_max6, hnlo]
    have hmn : ∀ (ts : Array TypeId) (t : TypeId) (w : World), (Builtin.min_ ts t #[.int .i64 hi, .int .i64 s2]).run Try.prog w = .ok (.int .i64 nhi) w := fun ts t w => by rw [run_min6, hnhi]
    have HST3 : Hid ((fun x => if x = eo then (⟨p, nlo, nhi⟩ : Sk) else F1 x) = stp F1 ⟨eo, er, ea⟩) := Lib.hid (by rw [hnlo, hnhi, hs1, hs2]; exact HST2.out p lo hi olo ohi hown.symm (by rw [← hoth]) (by rw [← hoth]))
    have HST4 : Hid (stp F1 ⟨eo, er, ea⟩ eo = ⟨p, nlo, nhi⟩) := Lib.hid (by rw [← HST3.out]; dsimp only; rw [if_pos rfl])
    clear HST2 hown hoth hs1 hs2 hnlo hnhi hbo hbr hbd hxa
    have HX := Lib.hid hx; have HHL := Lib.hid hl; have HM := Lib.hid hM; have HBB := Lib.hid bB; have HBC := Lib.hid bC; have HKA := Lib.hid kA; have HLW := Lib.hid hLW; have HG := Lib.hid hG; have HBA := Lib.hid hBa; have HSZ := Lib.hid hsz; have HMW := Lib.hid hmbw
    clear hx hr hM bB bC kA hLW hG hk0 hk1 hk2 hmc hM0 hG0 hB0 HCC hn hq
    gi_wp2_with fail
    refine wpIn_region_growF (S := (fun w' => w'.cell? ⟨w.heap.size, 0, none⟩ = some (.map (some mb)) ∧ w'.cell? ⟨Ba, 0, none⟩ = some (.int .i64 eo) ∧ w'.cell? ⟨Ba, 1, none⟩ = some (.int .i64 er) ∧ MapB w' mb n K F1)) ((fun w' => Below W.heap.size W w')) (by kernel_rfl) (⟨fun w2 h2 => ⟨(h2.cell (p := ⟨w.heap.size, 0, none⟩) HBB.out.lt).trans (HBB.out.cell (i := 0) rfl), (h2.cell (p := ⟨Ba, 0, none⟩) HKA.out.lt).trans (HKA.out.cell (i := 0) rfl), (h2.cell (p := ⟨Ba, 1, none⟩) HKA.out.lt).trans (HKA.out.cell (i := 1) rfl), HM.out.below h2 HM.out.lt⟩, fun w2 w3 h2 hb2 => h2.trans (hb2.mono h2.size)⟩) ((Below.refl _ _).drew) (fun hCalm => ?_)
    refine growF_take (by kernel_rfl) 0 (some 15) ?_ rfl rfl (by kernel_rfl) (fun _ _ _ h => h) (by kernel_rfl) hCalm ?_ ?_
    rotate_left
    · intro wS hS; (try dsimp only at hS); go_simp <;> with_reducible rfl
    try simp only [Act.put, List.setIfInBounds_toArray, List.set_cons_zero, List.set_cons_succ]
    refine growF_take (by kernel_rfl) 1 (some 16) ?_ rfl rfl (by kernel_rfl) (fun _ _ _ h => h) (by kernel_rfl) hCalm ?_ ?_
    rotate_left
    · intro wS hS; (try dsimp only at hS); go_simp <;> with_reducible rfl
    try simp only [Act.put, List.setIfInBounds_toArray, List.set_cons_zero, List.set_cons_succ]
    refine growF_take (by kernel_rfl) 2 (some 17) ?_ rfl rfl (by kernel_rfl) (fun _ _ _ h => h) (by kernel_rfl) hCalm ?_ ?_
    rotate_left
    · intro wS hS; (try dsimp only at hS); go_simp <;> with_reducible rfl
    try simp only [Act.put, List.setIfInBounds_toArray, List.set_cons_zero, List.set_cons_succ]
    refine growF_take (by kernel_rfl) 3 (some 18) (.agg #[.int .i64 p, .int .i64 lo, .int .i64 hi]) rfl rfl (by kernel_rfl) (fun _ _ _ h => h) (by kernel_rfl) hCalm ?_ ?_
    · intro wS hS; (try dsimp only at hS)
      have hlk := hS.2.2.2.look HX.out.1.1
      rw [HFO.out] at hlk
      go_simp
    try simp only [Act.put, List.setIfInBounds_toArray, List.set_cons_zero, List.set_cons_succ]
    refine growF_take (by kernel_rfl) 4 (some 19) ?_ rfl rfl (by kernel_rfl) (fun _ _ _ h => h) (by kernel_rfl) hCalm ?_ ?_
    rotate_left
    · intro wS hS; (try dsimp only at hS); go_simp <;> with_reducible rfl
    try simp only [Act.put, List.setIfInBounds_toArray, List.set_cons_zero, List.set_cons_succ]
    refine growF_take (by kernel_rfl) 5 (some 20) ?_ rfl rfl (by kernel_rfl) (fun _ _ _ h => h) (by kernel_rfl) hCalm ?_ ?_
    rotate_left
    · intro wS hS; (try dsimp only at hS); go_simp <;> with_reducible rfl
    try simp only [Act.put, List.setIfInBounds_toArray, List.set_cons_zero, List.set_cons_succ]
    refine growF_take (by kernel_rfl) 6 (some 21) ?_ rfl rfl (by kernel_rfl) (fun _ _ _ h => h) (by kernel_rfl) hCalm ?_ ?_
    rotate_left
    · intro wS hS; (try dsimp only at hS); go_simp <;> with_reducible rfl
    try simp only [Act.put, List.setIfInBounds_toArray, List.set_cons_zero, List.set_cons_succ]
    refine growF_take (by kernel_rfl) 7 (some 22) (.agg #[.int .i64 op, .int .i64 olo, .int .i64 ohi]) rfl rfl (by kernel_rfl) (fun _ _ _ h => h) (by kernel_rfl) hCalm ?_ ?_
    · intro wS hS; (try dsimp only at hS)
      have hlk := hS.2.2.2.look HX.out.2
      rw [HFR.out] at hlk
      go_simp
    try simp only [Act.put, List.setIfInBounds_toArray, List.set_cons_zero, List.set_cons_succ]
    refine growF_each [8, 9] (by kernel_rfl) (by decide) ?_
    refine growF_cons 8 rfl (by kernel_rfl) (fun wA hA K hK => ?_) ?_
    case _ =>
      obtain ⟨pown, hpown⟩ : ∃ b, b = wA.heap.size := ⟨_, rfl⟩
      have le_pown : W.heap.size ≤ pown := by rw [hpown]; exact hA.size
      have hnew : Blk (wA.alloc (.cells #[.int .i64 0, .int .i64 0, .int .i64 0] 77)) pown 77 #[.int .i64 0, .int .i64 0, .int .i64 0] := by rw [hpown]; exact Blk.new wA _ _
      go_simp
      rw [← hpown]
      refine hK.out _ _ (fun w' => Below W.heap.size W w' ∧ Blk w' pown 77 #[.int .i64 0, .int .i64 0, .int .i64 0]) ⟨fun w2 h2 => ⟨(h2.1.cell (p := ⟨w.heap.size, 0, none⟩) HBB.out.lt).trans (HBB.out.cell (i := 0) rfl), (h2.1.cell (p := ⟨Ba, 0, none⟩) HKA.out.lt).trans (HKA.out.cell (i := 0) rfl), (h2.1.cell (p := ⟨Ba, 1, none⟩) HKA.out.lt).trans (HKA.out.cell (i := 1) rfl), HM.out.below h2.1 HM.out.lt⟩, fun w2 w3 h2 hb2 => ⟨h2.1.trans (hb2.mono h2.1.size), h2.2.below hb2 h2.2.lt⟩⟩ ⟨hA.alloc hA.size _, hnew⟩ ?_
      clear hnew hpown hK K hA wA hCalm
      have hCalm : Calm (fun w' => w'.cell? ⟨w.heap.size, 0, none⟩ = some (.map (some mb)) ∧ w'.cell? ⟨Ba, 0, none⟩ = some (.int .i64 eo) ∧ w'.cell? ⟨Ba, 1, none⟩ = some (.int .i64 er) ∧ MapB w' mb n K F1) (fun w' => Below W.heap.size W w' ∧ Blk w' pown 77 #[.int .i64 0, .int .i64 0, .int .i64 0]) := ⟨fun w2 h2 => ⟨(h2.1.cell (p := ⟨w.heap.size, 0, none⟩) HBB.out.lt).trans (HBB.out.cell (i := 0) rfl), (h2.1.cell (p := ⟨Ba, 0, none⟩) HKA.out.lt).trans (HKA.out.cell (i := 0) rfl), (h2.1.cell (p := ⟨Ba, 1, none⟩) HKA.out.lt).trans (HKA.out.cell (i := 1) rfl), HM.out.below h2.1 HM.out.lt⟩, fun w2 w3 h2 hb2 => ⟨h2.1.trans (hb2.mono h2.1.size), h2.2.below hb2 h2.2.lt⟩⟩
      try simp only [Act.put, List.setIfInBounds_toArray, List.set_cons_zero, List.set_cons_succ]
      refine growF_each [9] (by kernel_rfl) (by decide) ?_
      refine growF_cons 9 rfl (by kernel_rfl) (fun wA hA K hK => ?_) growF_nil
      obtain ⟨poth, hpoth⟩ : ∃ b, b = wA.heap.size := ⟨_, rfl⟩
      have le_poth : W.heap.size ≤ poth := by rw [hpoth]; exact hA.1.size
      have lt_own_poth : pown < poth := by rw [hpoth]; exact hA.2.lt
      have hnew : Blk (wA.alloc (.cells #[.int .i64 0, .int .i64 0, .int .i64 0] 77)) poth 77 #[.int .i64 0, .int .i64 0, .int .i64 0] := by rw [hpoth]; exact Blk.new wA _ _
      go_simp
      rw [← hpoth]
      refine hK.out _ _ (fun w' => Below W.heap.size W w' ∧ Blk w' pown 77 #[.int .i64 0, .int .i64 0, .int .i64 0] ∧ Blk w' poth 77 #[.int .i64 0, .int .i64 0, .int .i64 0]) ⟨fun w2 h2 => ⟨(h2.1.cell (p := ⟨w.heap.size, 0, none⟩) HBB.out.lt).trans (HBB.out.cell (i := 0) rfl), (h2.1.cell (p := ⟨Ba, 0, none⟩) HKA.out.lt).trans (HKA.out.cell (i := 0) rfl), (h2.1.cell (p := ⟨Ba, 1, none⟩) HKA.out.lt).trans (HKA.out.cell (i := 1) rfl), HM.out.below h2.1 HM.out.lt⟩, fun w2 w3 h2 hb2 => ⟨h2.1.trans (hb2.mono h2.1.size), h2.2.1.below hb2 h2.2.1.lt, h2.2.2.below hb2 h2.2.2.lt⟩⟩ ⟨hA.1.alloc hA.1.size _, hA.2.alloc _, hnew⟩ ?_
      clear hnew hpoth hK K hA wA hCalm
      have hCalm : Calm (fun w' => w'.cell? ⟨w.heap.size, 0, none⟩ = some (.map (some mb)) ∧ w'.cell? ⟨Ba, 0, none⟩ = some (.int .i64 eo) ∧ w'.cell? ⟨Ba, 1, none⟩ = some (.int .i64 er) ∧ MapB w' mb n K F1) (fun w' => Below W.heap.size W w' ∧ Blk w' pown 77 #[.int .i64 0, .int .i64 0, .int .i64 0] ∧ Blk w' poth 77 #[.int .i64 0, .int .i64 0, .int .i64 0]) := ⟨fun w2 h2 => ⟨(h2.1.cell (p := ⟨w.heap.size, 0, none⟩) HBB.out.lt).trans (HBB.out.cell (i := 0) rfl), (h2.1.cell (p := ⟨Ba, 0, none⟩) HKA.out.lt).trans (HKA.out.cell (i := 0) rfl), (h2.1.cell (p := ⟨Ba, 1, none⟩) HKA.out.lt).trans (HKA.out.cell (i := 1) rfl), HM.out.below h2.1 HM.out.lt⟩, fun w2 w3 h2 hb2 => ⟨h2.1.trans (hb2.mono h2.1.size), h2.2.1.below hb2 h2.2.1.lt, h2.2.2.below hb2 h2.2.2.lt⟩⟩
      try simp only [Act.put, List.setIfInBounds_toArray, List.set_cons_zero, List.set_cons_succ]
      refine growF_each [10] (by kernel_rfl) (by decide) ?_
      refine growF_cons 10 rfl (by kernel_rfl) (fun wA hA K hK => ?_) growF_nil
      have z0 := hA.2.1.cell (i := 0) (v := .int .i64 0) rfl; have f0 := hA.2.1.frozen 0
      have z1 := hA.2.1.cell (i := 1) (v := .int .i64 0) rfl; have f1 := hA.2.1.frozen 1
      have z2 := hA.2.1.cell (i := 2) (v := .int .i64 0) rfl; have f2 := hA.2.1.frozen 2
      go_simp
      refine hK.out _ _ (fun w' => Below W.heap.size W w' ∧ Blk w' pown 77 #[.int .i64 p, .int .i64 lo, .int .i64 hi] ∧ Blk w' poth 77 #[.int .i64 0, .int .i64 0, .int .i64 0]) ⟨fun w2 h2 => ⟨(h2.1.cell (p := ⟨w.heap.size, 0, none⟩) HBB.out.lt).trans (HBB.out.cell (i := 0) rfl), (h2.1.cell (p := ⟨Ba, 0, none⟩) HKA.out.lt).trans (HKA.out.cell (i := 0) rfl), (h2.1.cell (p := ⟨Ba, 1, none⟩) HKA.out.lt).trans (HKA.out.cell (i := 1) rfl), HM.out.below h2.1 HM.out.lt⟩, fun w2 w3 h2 hb2 => ⟨h2.1.trans (hb2.mono h2.1.size), h2.2.1.below hb2 h2.2.1.lt, h2.2.2.below hb2 h2.2.2.lt⟩⟩ ⟨(((hA.1.setCell (p := ⟨pown, 0, none⟩) (by show W.heap.size ≤ pown; omega) _).setCell (p := ⟨pown, 1, none⟩) (by show W.heap.size ≤ pown; omega) _).setCell (p := ⟨pown, 2, none⟩) (by show W.heap.size ≤ pown; omega) _), (((hA.2.1.set 0 _).set 1 _).set 2 _), (((hA.2.2.far (p := ⟨pown, 0, none⟩) (by show poth ≠ pown; omega) _).far (p := ⟨pown, 1, none⟩) (by show poth ≠ pown; omega) _).far (p := ⟨pown, 2, none⟩) (by show poth ≠ pown; omega) _)⟩ ?_
      clear z0 f0 z1 f1 z2 f2 hK K hA wA hCalm
      have hCalm : Calm (fun w' => w'.cell? ⟨w.heap.size, 0, none⟩ = some (.map (some mb)) ∧ w'.cell? ⟨Ba, 0, none⟩ = some (.int .i64 eo) ∧ w'.cell? ⟨Ba, 1, none⟩ = some (.int .i64 er) ∧ MapB w' mb n K F1) (fun w' => Below W.heap.size W w' ∧ Blk w' pown 77 #[.int .i64 p, .int .i64 lo, .int .i64 hi] ∧ Blk w' poth 77 #[.int .i64 0, .int .i64 0, .int .i64 0]) := ⟨fun w2 h2 => ⟨(h2.1.cell (p := ⟨w.heap.size, 0, none⟩) HBB.out.lt).trans (HBB.out.cell (i := 0) rfl), (h2.1.cell (p := ⟨Ba, 0, none⟩) HKA.out.lt).trans (HKA.out.cell (i := 0) rfl), (h2.1.cell (p := ⟨Ba, 1, none⟩) HKA.out.lt).trans (HKA.out.cell (i := 1) rfl), HM.out.below h2.1 HM.out.lt⟩, fun w2 w3 h2 hb2 => ⟨h2.1.trans (hb2.mono h2.1.size), h2.2.1.below hb2 h2.2.1.lt, h2.2.2.below hb2 h2.2.2.lt⟩⟩
      try simp only [Act.put]
      refine growF_each [11] (by kernel_rfl) (by decide) ?_
      refine growF_cons 11 rfl (by kernel_rfl) (fun wA hA K hK => ?_) growF_nil
      have z0 := hA.2.2.cell (i := 0) (v := .int .i64 0) rfl; have f0 := hA.2.2.frozen 0
      have z1 := hA.2.2.cell (i := 1) (v := .int .i64 0) rfl; have f1 := hA.2.2.frozen 1
      have z2 := hA.2.2.cell (i := 2) (v := .int .i64 0) rfl; have f2 := hA.2.2.frozen 2
      go_simp
      refine hK.out _ _ (fun w' => Below W.heap.size W w' ∧ Blk w' pown 77 #[.int .i64 p, .int .i64 lo, .int .i64 hi] ∧ Blk w' poth 77 #[.int .i64 op, .int .i64 olo, .int .i64 ohi]) ⟨fun w2 h2 => ⟨(h2.1.cell (p := ⟨w.heap.size, 0, none⟩) HBB.out.lt).trans (HBB.out.cell (i := 0) rfl), (h2.1.cell (p := ⟨Ba, 0, none⟩) HKA.out.lt).trans (HKA.out.cell (i := 0) rfl), (h2.1.cell (p := ⟨Ba, 1, none⟩) HKA.out.lt).trans (HKA.out.cell (i := 1) rfl), HM.out.below h2.1 HM.out.lt⟩, fun w2 w3 h2 hb2 => ⟨h2.1.trans (hb2.mono h2.1.size), h2.2.1.below hb2 h2.2.1.lt, h2.2.2.below hb2 h2.2.2.lt⟩⟩ ⟨(((hA.1.setCell (p := ⟨poth, 0, none⟩) (by show W.heap.size ≤ poth; omega) _).setCell (p := ⟨poth, 1, none⟩) (by show W.heap.size ≤ poth; omega) _).setCell (p := ⟨poth, 2, none⟩) (by show W.heap.size ≤ poth; omega) _), (((hA.2.1.far (p := ⟨poth, 0, none⟩) (by show pown ≠ poth; omega) _).far (p := ⟨poth, 1, none⟩) (by show pown ≠ poth; omega) _).far (p := ⟨poth, 2, none⟩) (by show pown ≠ poth; omega) _), (((hA.2.2.set 0 _).set 1 _).set 2 _)⟩ ?_
      clear z0 f0 z1 f1 z2 f2 hK K hA wA hCalm
      have hCalm : Calm (fun w' => w'.cell? ⟨w.heap.size, 0, none⟩ = some (.map (some mb)) ∧ w'.cell? ⟨Ba, 0, none⟩ = some (.int .i64 eo) ∧ w'.cell? ⟨Ba, 1, none⟩ = some (.int .i64 er) ∧ MapB w' mb n K F1) (fun w' => Below W.heap.size W w' ∧ Blk w' pown 77 #[.int .i64 p, .int .i64 lo, .int .i64 hi] ∧ Blk w' poth 77 #[.int .i64 op, .int .i64 olo, .int .i64 ohi]) := ⟨fun w2 h2 => ⟨(h2.1.cell (p := ⟨w.heap.size, 0, none⟩) HBB.out.lt).trans (HBB.out.cell (i := 0) rfl), (h2.1.cell (p := ⟨Ba, 0, none⟩) HKA.out.lt).trans (HKA.out.cell (i := 0) rfl), (h2.1.cell (p := ⟨Ba, 1, none⟩) HKA.out.lt).trans (HKA.out.cell (i := 1) rfl), HM.out.below h2.1 HM.out.lt⟩, fun w2 w3 h2 hb2 => ⟨h2.1.trans (hb2.mono h2.1.size), h2.2.1.below hb2 h2.2.1.lt, h2.2.2.below hb2 h2.2.2.lt⟩⟩
      try simp only [Act.put]
      refine growF_done (by kernel_rfl) (fun wA hA => ?_) _
      have HBW := Lib.hid hA.1; have HO := Lib.hid hA.2.1; have HR := Lib.hid hA.2.2
      clear hA
      have o0 := HO.out.cell (i := 0) (v := .int .i64 p) rfl
      have o1 := HO.out.cell (i := 1) (v := .int .i64 lo) rfl
      have o2 := HO.out.cell (i := 2) (v := .int .i64 hi) rfl
      have r1 := HR.out.cell (i := 1) (v := .int .i64 olo) rfl
      have r2 := HR.out.cell (i := 2) (v := .int .i64 ohi) rfl
      have HN1 := Lib.hid (Blk.new wA 77 #[.int .i64 p, .int .i64 nlo, .int .i64 nhi])
      have nn0 := HN1.out.cell (i := 0) (v := .int .i64 p) rfl
      have nn1 := HN1.out.cell (i := 1) (v := .int .i64 nlo) rfl
      have nn2 := HN1.out.cell (i := 2) (v := .int .i64 nhi) rfl
      have HO1 := Lib.hid (HO.out.alloc (.cells #[.int .i64 p, .int .i64 nlo, .int .i64 nhi] 77))
      have oo0 := HO1.out.cell (i := 0) (v := .int .i64 p) rfl
      have oo1 := HO1.out.cell (i := 1) (v := .int .i64 lo) rfl
      have oo2 := HO1.out.cell (i := 2) (v := .int .i64 hi) rfl
      have HC1 := Lib.hid ((HBC.out.below HBW.out HBC.out.lt).alloc (.cells #[.int .i64 p, .int .i64 nlo, .int .i64 nhi] 77))
      have cc := HC1.out.cell (i := 0) (v := .bool c1) rfl; have cf := HC1.out.frozen 0
      have kk := (HKA.out.below HBW.out HKA.out.lt).alloc (.cells #[.int .i64 p, .int .i64 nlo, .int .i64 nhi] 77)
      have hba := HBA.out; have hbb := HBB.out.lt
      have hbW := ((HBB.out.below HBW.out HBB.out.lt).alloc (.cells #[.int .i64 p, .int .i64 nlo, .int .i64 nhi] 77))
      have bxt := (hbW.far (p := ⟨w.heap.size + 1, 0, none⟩) (by show w.heap.size ≠ w.heap.size + 1; omega) (.bool true)).cell (i := 0) rfl
      have kxt := (kk.far (p := ⟨w.heap.size + 1, 0, none⟩) (by show Ba ≠ w.heap.size + 1; omega) (.bool true)).cell (i := 0) (v := .int .i64 eo) rfl
      have nxt0 := (HN1.out.far (p := ⟨w.heap.size + 1, 0, none⟩) (by show wA.heap.size ≠ w.heap.size + 1; have := HBC.out.lt; have := HBW.out.size; omega) (.bool true)).cell (i := 0) (v := .int .i64 p) rfl
      have nxt1 := (HN1.out.far (p := ⟨w.heap.size + 1, 0, none⟩) (by show wA.heap.size ≠ w.heap.size + 1; have := HBC.out.lt; have := HBW.out.size; omega) (.bool true)).cell (i := 1) (v := .int .i64 nlo) rfl
      have nxt2 := (HN1.out.far (p := ⟨w.heap.size + 1, 0, none⟩) (by show wA.heap.size ≠ w.heap.size + 1; have := HBC.out.lt; have := HBW.out.size; omega) (.bool true)).cell (i := 2) (v := .int .i64 nhi) rfl
      have bxf := (hbW.far (p := ⟨w.heap.size + 1, 0, none⟩) (by show w.heap.size ≠ w.heap.size + 1; omega) (.bool false)).cell (i := 0) rfl
      have kxf := (kk.far (p := ⟨w.heap.size + 1, 0, none⟩) (by show Ba ≠ w.heap.size + 1; omega) (.bool false)).cell (i := 0) (v := .int .i64 eo) rfl
      have nxf0 := (HN1.out.far (p := ⟨w.heap.size + 1, 0, none⟩) (by show wA.heap.size ≠ w.heap.size + 1; have := HBC.out.lt; have := HBW.out.size; omega) (.bool false)).cell (i := 0) (v := .int .i64 p) rfl
      have nxf1 := (HN1.out.far (p := ⟨w.heap.size + 1, 0, none⟩) (by show wA.heap.size ≠ w.heap.size + 1; have := HBC.out.lt; have := HBW.out.size; omega) (.bool false)).cell (i := 1) (v := .int .i64 nlo) rfl
      have nxf2 := (HN1.out.far (p := ⟨w.heap.size + 1, 0, none⟩) (by show wA.heap.size ≠ w.heap.size + 1; have := HBC.out.lt; have := HBW.out.size; omega) (.bool false)).cell (i := 2) (v := .int .i64 nhi) rfl
      clear hbW kk hba hbb
      cases c1
      case true =>
        have HC2 := Lib.hid (HST.out _ true rfl (by rw [HST4.out, HFO.out]; simp))
        have hMX : MapB ((wA.alloc (.cells #[.int .i64 p, .int .i64 nlo, .int .i64 nhi] 77)).setCell ⟨w.heap.size + 1, 0, none⟩ (.bool true)) mb n K F1 := ((HM.out.below HBW.out HM.out.lt).alloc _).setCell (by show mb ≠ w.heap.size + 1; have := HMW.out; omega) _
        obtain ⟨w2, hrun, hM2, hG2⟩ := hMX.store (q := eo) HX.out.1.1 HN.out ⟨p, nlo, nhi⟩
        rw [HST3.out, if_pos HX.out.1.2, upd_true HX.out.1.2] at hM2
        have HM2 := Lib.hid hM2; have HG2 := Lib.hid hG2; clear hMX hM2 hG2
        gi_wp2_with fail
        have hbN : Below W.heap.size W (wA.alloc (.cells #[.int .i64 p, .int .i64 nlo, .int .i64 nhi] 77)) := HBW.out.alloc HBW.out.size _
        have hmw := HMW.out; have hlw := HLW.out; have hsz := HSZ.out; have hlc := HBC.out.lt; have hwA := HBW.out.size
        have hobj : ∃ o : Obj, (((wA.alloc (.cells #[.int .i64 p, .int .i64 nlo, .int .i64 nhi] 77)).setCell ⟨w.heap.size + 1, 0, none⟩ (.bool true))).heap[mb]? = some o ∧ o.isCells = false := (((HM.out.below HBW.out HM.out.lt).alloc _).setCell (a := ⟨w.heap.size + 1, 0, none⟩) (by show mb ≠ w.heap.size + 1; omega) _).obj
        obtain ⟨ob, ho1, ho2⟩ := hobj
        refine ⟨((keeps_of_below hbN).trans ((KeepsOthers.setCell _ _ _).from _)).trans (KeepsFrom.of_grownBy HG2.out (fun j e => by cases e; omega)), ((KpC.of_below hbN).trans (KpC.store _ _ _ _)).trans (KpC.of_grown HG2.out ho1 ho2), ⟨⟨⟨?_, ?_⟩, ?_⟩, ?_⟩, ?_⟩
        · rw [HC2.out.1]; exact HM2.out
        · exact (((HBB.out.below hbN HBB.out.lt).far (p := ⟨w.heap.size + 1, 0, none⟩) (by show w.heap.size ≠ w.heap.size + 1; omega) _)).only HG2.out (by simp; omega)
        · rw [HC2.out.2]; exact ((HBC.out.below hbN HBC.out.lt).set 0 _).only HG2.out (by simp; omega)
        · have := hbN.size; have := HG2.out.size; simp [World.setCell] at *; omega
        · exact grown_trans (grown_store (grown_below HG.out hbN) (by omega) 0 _) HG2.out
      case false =>
        by_cases n1e : nlo = lo
        case neg =>
          have n1 : (nlo == lo) = false := by simpa using n1e
          have HC2 := Lib.hid (HST.out _ true rfl (by rw [HST4.out, HFO.out, Bool.false_or]; symm; rw [decide_eq_true_iff]; intro h; simp only [Sk.mk.injEq] at h; exact n1e h.2.1))
          have hMX : MapB ((wA.alloc (.cells #[.int .i64 p, .int .i64 nlo, .int .i64 nhi] 77)).setCell ⟨w.heap.size + 1, 0, none⟩ (.bool true)) mb n K F1 := ((HM.out.below HBW.out HM.out.lt).alloc _).setCell (by show mb ≠ w.heap.size + 1; have := HMW.out; omega) _
          obtain ⟨w2, hrun, hM2, hG2⟩ := hMX.store (q := eo) HX.out.1.1 HN.out ⟨p, nlo, nhi⟩
          rw [HST3.out, if_pos HX.out.1.2, upd_true HX.out.1.2] at hM2
          have HM2 := Lib.hid hM2; have HG2 := Lib.hid hG2; clear hMX hM2 hG2
          gi_wp2_with fail
          have hbN : Below W.heap.size W (wA.alloc (.cells #[.int .i64 p, .int .i64 nlo, .int .i64 nhi] 77)) := HBW.out.alloc HBW.out.size _
          have hmw := HMW.out; have hlw := HLW.out; have hsz := HSZ.out; have hlc := HBC.out.lt; have hwA := HBW.out.size
          have hobj : ∃ o : Obj, (((wA.alloc (.cells #[.int .i64 p, .int .i64 nlo, .int .i64 nhi] 77)).setCell ⟨w.heap.size + 1, 0, none⟩ (.bool true))).heap[mb]? = some o ∧ o.isCells = false := (((HM.out.below HBW.out HM.out.lt).alloc _).setCell (a := ⟨w.heap.size + 1, 0, none⟩) (by show mb ≠ w.heap.size + 1; omega) _).obj
          obtain ⟨ob, ho1, ho2⟩ := hobj
          refine ⟨((keeps_of_below hbN).trans ((KeepsOthers.setCell _ _ _).from _)).trans (KeepsFrom.of_grownBy HG2.out (fun j e => by cases e; omega)), ((KpC.of_below hbN).trans (KpC.store _ _ _ _)).trans (KpC.of_grown HG2.out ho1 ho2), ⟨⟨⟨?_, ?_⟩, ?_⟩, ?_⟩, ?_⟩
          · rw [HC2.out.1]; exact HM2.out
          · exact (((HBB.out.below hbN HBB.out.lt).far (p := ⟨w.heap.size + 1, 0, none⟩) (by show w.heap.size ≠ w.heap.size + 1; omega) _)).only HG2.out (by simp; omega)
          · rw [HC2.out.2]; exact ((HBC.out.below hbN HBC.out.lt).set 0 _).only HG2.out (by simp; omega)
          · have := hbN.size; have := HG2.out.size; simp [World.setCell] at *; omega
          · exact grown_trans (grown_store (grown_below HG.out hbN) (by omega) 0 _) HG2.out
        case pos =>
          subst n1e
          by_cases n2e : nhi = hi
          case neg =>
            have n2 : (nhi == hi) = false := by simpa using n2e
            have HC2 := Lib.hid (HST.out _ true rfl (by rw [HST4.out, HFO.out, Bool.false_or]; symm; rw [decide_eq_true_iff]; intro h; simp only [Sk.mk.injEq] at h; exact n2e h.2.2))
            have hMX : MapB ((wA.alloc (.cells #[.int .i64 p, .int .i64 nlo, .int .i64 nhi] 77)).setCell ⟨w.heap.size + 1, 0, none⟩ (.bool true)) mb n K F1 := ((HM.out.below HBW.out HM.out.lt).alloc _).setCell (by show mb ≠ w.heap.size + 1; have := HMW.out; omega) _
            obtain ⟨w2, hrun, hM2, hG2⟩ := hMX.store (q := eo) HX.out.1.1 HN.out ⟨p, nlo, nhi⟩
            rw [HST3.out, if_pos HX.out.1.2, upd_true HX.out.1.2] at hM2
            have HM2 := Lib.hid hM2; have HG2 := Lib.hid hG2; clear hMX hM2 hG2
            gi_wp2_with fail
            have hbN : Below W.heap.size W (wA.alloc (.cells #[.int .i64 p, .int .i64 nlo, .int .i64 nhi] 77)) := HBW.out.alloc HBW.out.size _
            have hmw := HMW.out; have hlw := HLW.out; have hsz := HSZ.out; have hlc := HBC.out.lt; have hwA := HBW.out.size
            have hobj : ∃ o : Obj, (((wA.alloc (.cells #[.int .i64 p, .int .i64 nlo, .int .i64 nhi] 77)).setCell ⟨w.heap.size + 1, 0, none⟩ (.bool true))).heap[mb]? = some o ∧ o.isCells = false := (((HM.out.below HBW.out HM.out.lt).alloc _).setCell (a := ⟨w.heap.size + 1, 0, none⟩) (by show mb ≠ w.heap.size + 1; omega) _).obj
            obtain ⟨ob, ho1, ho2⟩ := hobj
            refine ⟨((keeps_of_below hbN).trans ((KeepsOthers.setCell _ _ _).from _)).trans (KeepsFrom.of_grownBy HG2.out (fun j e => by cases e; omega)), ((KpC.of_below hbN).trans (KpC.store _ _ _ _)).trans (KpC.of_grown HG2.out ho1 ho2), ⟨⟨⟨?_, ?_⟩, ?_⟩, ?_⟩, ?_⟩
            · rw [HC2.out.1]; exact HM2.out
            · exact (((HBB.out.below hbN HBB.out.lt).far (p := ⟨w.heap.size + 1, 0, none⟩) (by show w.heap.size ≠ w.heap.size + 1; omega) _)).only HG2.out (by simp; omega)
            · rw [HC2.out.2]; exact ((HBC.out.below hbN HBC.out.lt).set 0 _).only HG2.out (by simp; omega)
            · have := hbN.size; have := HG2.out.size; simp [World.setCell] at *; omega
            · exact grown_trans (grown_store (grown_below HG.out hbN) (by omega) 0 _) HG2.out
          case pos =>
            subst n2e
            have HC2 := Lib.hid (HST.out _ false rfl (by rw [HST4.out, HFO.out, Bool.false_or]; simp))
            have hMX : MapB ((wA.alloc (.cells #[.int .i64 p, .int .i64 nlo, .int .i64 nhi] 77)).setCell ⟨w.heap.size + 1, 0, none⟩ (.bool false)) mb n K F1 := ((HM.out.below HBW.out HM.out.lt).alloc _).setCell (by show mb ≠ w.heap.size + 1; have := HMW.out; omega) _
            obtain ⟨w2, hrun, hM2, hG2⟩ := hMX.store (q := eo) HX.out.1.1 HN.out ⟨p, nlo, nhi⟩
            rw [HST3.out, if_pos HX.out.1.2, upd_true HX.out.1.2] at hM2
            have HM2 := Lib.hid hM2; have HG2 := Lib.hid hG2; clear hMX hM2 hG2
            gi_wp2_with fail
            have hbN : Below W.heap.size W (wA.alloc (.cells #[.int .i64 p, .int .i64 nlo, .int .i64 nhi] 77)) := HBW.out.alloc HBW.out.size _
            have hmw := HMW.out; have hlw := HLW.out; have hsz := HSZ.out; have hlc := HBC.out.lt; have hwA := HBW.out.size
            have hobj : ∃ o : Obj, (((wA.alloc (.cells #[.int .i64 p, .int .i64 nlo, .int .i64 nhi] 77)).setCell ⟨w.heap.size + 1, 0, none⟩ (.bool false))).heap[mb]? = some o ∧ o.isCells = false := (((HM.out.below HBW.out HM.out.lt).alloc _).setCell (a := ⟨w.heap.size + 1, 0, none⟩) (by show mb ≠ w.heap.size + 1; omega) _).obj
            obtain ⟨ob, ho1, ho2⟩ := hobj
            refine ⟨((keeps_of_below hbN).trans ((KeepsOthers.setCell _ _ _).from _)).trans (KeepsFrom.of_grownBy HG2.out (fun j e => by cases e; omega)), ((KpC.of_below hbN).trans (KpC.store _ _ _ _)).trans (KpC.of_grown HG2.out ho1 ho2), ⟨⟨⟨?_, ?_⟩, ?_⟩, ?_⟩, ?_⟩
            · rw [HC2.out.1]; exact HM2.out
            · exact (((HBB.out.below hbN HBB.out.lt).far (p := ⟨w.heap.size + 1, 0, none⟩) (by show w.heap.size ≠ w.heap.size + 1; omega) _)).only HG2.out (by simp; omega)
            · rw [HC2.out.2]; exact ((HBC.out.below hbN HBC.out.lt).set 0 _).only HG2.out (by simp; omega)
            · have := hbN.size; have := HG2.out.size; simp [World.setCell] at *; omega
            · exact grown_trans (grown_store (grown_below HG.out hbN) (by omega) 0 _) HG2.out
    refine growF_cons 9 rfl (by kernel_rfl) (fun wA hA K hK => ?_) ?_
    case _ =>
      obtain ⟨poth, hpoth⟩ : ∃ b, b = wA.heap.size := ⟨_, rfl⟩
      have le_poth : W.heap.size ≤ poth := by rw [hpoth]; exact hA.size
      have hnew : Blk (wA.alloc (.cells #[.int .i64 0, .int .i64 0, .int .i64 0] 77)) poth 77 #[.int .i64 0, .int .i64 0, .int .i64 0] := by rw [hpoth]; exact Blk.new wA _ _
      go_simp
      rw [← hpoth]
      refine hK.out _ _ (fun w' => Below W.heap.size W w' ∧ Blk w' poth 77 #[.int .i64 0, .int .i64 0, .int .i64 0]) ⟨fun w2 h2 => ⟨(h2.1.cell (p := ⟨w.heap.size, 0, none⟩) HBB.out.lt).trans (HBB.out.cell (i := 0) rfl), (h2.1.cell (p := ⟨Ba, 0, none⟩) HKA.out.lt).trans (HKA.out.cell (i := 0) rfl), (h2.1.cell (p := ⟨Ba, 1, none⟩) HKA.out.lt).trans (HKA.out.cell (i := 1) rfl), HM.out.below h2.1 HM.out.lt⟩, fun w2 w3 h2 hb2 => ⟨h2.1.trans (hb2.mono h2.1.size), h2.2.below hb2 h2.2.lt⟩⟩ ⟨hA.alloc hA.size _, hnew⟩ ?_
      clear hnew hpoth hK K hA wA hCalm
      have hCalm : Calm (fun w' => w'.cell? ⟨w.heap.size, 0, none⟩ = some (.map (some mb)) ∧ w'.cell? ⟨Ba, 0, none⟩ = some (.int .i64 eo) ∧ w'.cell? ⟨Ba, 1, none⟩ = some (.int .i64 er) ∧ MapB w' mb n K F1) (fun w' => Below W.heap.size W w' ∧ Blk w' poth 77 #[.int .i64 0, .int .i64 0, .int .i64 0]) := ⟨fun w2 h2 => ⟨(h2.1.cell (p := ⟨w.heap.size, 0, none⟩) HBB.out.lt).trans (HBB.out.cell (i := 0) rfl), (h2.1.cell (p := ⟨Ba, 0, none⟩) HKA.out.lt).trans (HKA.out.cell (i := 0) rfl), (h2.1.cell (p := ⟨Ba, 1, none⟩) HKA.out.lt).trans (HKA.out.cell (i := 1) rfl), HM.out.below h2.1 HM.out.lt⟩, fun w2 w3 h2 hb2 => ⟨h2.1.trans (hb2.mono h2.1.size), h2.2.below hb2 h2.2.lt⟩⟩
      try simp only [Act.put, List.setIfInBounds_toArray, List.set_cons_zero, List.set_cons_succ]
      refine growF_each [8] (by kernel_rfl) (by decide) ?_
      refine growF_cons 8 rfl (by kernel_rfl) (fun wA hA K hK => ?_) growF_nil
      obtain ⟨pown, hpown⟩ : ∃ b, b = wA.heap.size := ⟨_, rfl⟩
      have le_pown : W.heap.size ≤ pown := by rw [hpown]; exact hA.1.size
      have lt_oth_pown : poth < pown := by rw [hpown]; exact hA.2.lt
      have hnew : Blk (wA.alloc (.cells #[.int .i64 0, .int .i64 0, .int .i64 0] 77)) pown 77 #[.int .i64 0, .int .i64 0, .int .i64 0] := by rw [hpown]; exact Blk.new wA _ _
      go_simp
      rw [← hpown]
      refine hK.out _ _ (fun w' => Below W.heap.size W w' ∧ Blk w' poth 77 #[.int .i64 0, .int .i64 0, .int .i64 0] ∧ Blk w' pown 77 #[.int .i64 0, .int .i64 0, .int .i64 0]) ⟨fun w2 h2 => ⟨(h2.1.cell (p := ⟨w.heap.size, 0, none⟩) HBB.out.lt).trans (HBB.out.cell (i := 0) rfl), (h2.1.cell (p := ⟨Ba, 0, none⟩) HKA.out.lt).trans (HKA.out.cell (i := 0) rfl), (h2.1.cell (p := ⟨Ba, 1, none⟩) HKA.out.lt).trans (HKA.out.cell (i := 1) rfl), HM.out.below h2.1 HM.out.lt⟩, fun w2 w3 h2 hb2 => ⟨h2.1.trans (hb2.mono h2.1.size), h2.2.1.below hb2 h2.2.1.lt, h2.2.2.below hb2 h2.2.2.lt⟩⟩ ⟨hA.1.alloc hA.1.size _, hA.2.alloc _, hnew⟩ ?_
      clear hnew hpown hK K hA wA hCalm
      have hCalm : Calm (fun w' => w'.cell? ⟨w.heap.size, 0, none⟩ = some (.map (some mb)) ∧ w'.cell? ⟨Ba, 0, none⟩ = some (.int .i64 eo) ∧ w'.cell? ⟨Ba, 1, none⟩ = some (.int .i64 er) ∧ MapB w' mb n K F1) (fun w' => Below W.heap.size W w' ∧ Blk w' poth 77 #[.int .i64 0, .int .i64 0, .int .i64 0] ∧ Blk w' pown 77 #[.int .i64 0, .int .i64 0, .int .i64 0]) := ⟨fun w2 h2 => ⟨(h2.1.cell (p := ⟨w.heap.size, 0, none⟩) HBB.out.lt).trans (HBB.out.cell (i := 0) rfl), (h2.1.cell (p := ⟨Ba, 0, none⟩) HKA.out.lt).trans (HKA.out.cell (i := 0) rfl), (h2.1.cell (p := ⟨Ba, 1, none⟩) HKA.out.lt).trans (HKA.out.cell (i := 1) rfl), HM.out.below h2.1 HM.out.lt⟩, fun w2 w3 h2 hb2 => ⟨h2.1.trans (hb2.mono h2.1.size), h2.2.1.below hb2 h2.2.1.lt, h2.2.2.below hb2 h2.2.2.lt⟩⟩
      try simp only [Act.put, List.setIfInBounds_toArray, List.set_cons_zero, List.set_cons_succ]
      refine growF_each [10] (by kernel_rfl) (by decide) ?_
      refine growF_cons 10 rfl (by kernel_rfl) (fun wA hA K hK => ?_) growF_nil
      have z0 := hA.2.2.cell (i := 0) (v := .int .i64 0) rfl; have f0 := hA.2.2.frozen 0
      have z1 := hA.2.2.cell (i := 1) (v := .int .i64 0) rfl; have f1 := hA.2.2.frozen 1
      have z2 := hA.2.2.cell (i := 2) (v := .int .i64 0) rfl; have f2 := hA.2.2.frozen 2
      go_simp
      refine hK.out _ _ (fun w' => Below W.heap.size W w' ∧ Blk w' poth 77 #[.int .i64 0, .int .i64 0, .int .i64 0] ∧ Blk w' pown 77 #[.int .i64 p, .int .i64 lo, .int .i64 hi]) ⟨fun w2 h2 => ⟨(h2.1.cell (p := ⟨w.heap.size, 0, none⟩) HBB.out.lt).trans (HBB.out.cell (i := 0) rfl), (h2.1.cell (p := ⟨Ba, 0, none⟩) HKA.out.lt).trans (HKA.out.cell (i := 0) rfl), (h2.1.cell (p := ⟨Ba, 1, none⟩) HKA.out.lt).trans (HKA.out.cell (i := 1) rfl), HM.out.below h2.1 HM.out.lt⟩, fun w2 w3 h2 hb2 => ⟨h2.1.trans (hb2.mono h2.1.size), h2.2.1.below hb2 h2.2.1.lt, h2.2.2.below hb2 h2.2.2.lt⟩⟩ ⟨(((hA.1.setCell (p := ⟨pown, 0, none⟩) (by show W.heap.size ≤ pown; omega) _).setCell (p := ⟨pown, 1, none⟩) (by show W.heap.size ≤ pown; omega) _).setCell (p := ⟨pown, 2, none⟩) (by show W.heap.size ≤ pown; omega) _), (((hA.2.1.far (p := ⟨pown, 0, none⟩) (by show poth ≠ pown; omega) _).far (p := ⟨pown, 1, none⟩) (by show poth ≠ pown; omega) _).far (p := ⟨pown, 2, none⟩) (by show poth ≠ pown; omega) _), (((hA.2.2.set 0 _).set 1 _).set 2 _)⟩ ?_
      clear z0 f0 z1 f1 z2 f2 hK K hA wA hCalm
      have hCalm : Calm (fun w' => w'.cell? ⟨w.heap.size, 0, none⟩ = some (.map (some mb)) ∧ w'.cell? ⟨Ba, 0, none⟩ = some (.int .i64 eo) ∧ w'.cell? ⟨Ba, 1, none⟩ = some (.int .i64 er) ∧ MapB w' mb n K F1) (fun w' => Below W.heap.size W w' ∧ Blk w' poth 77 #[.int .i64 0, .int .i64 0, .int .i64 0] ∧ Blk w' pown 77 #[.int .i64 p, .int .i64 lo, .int .i64 hi]) := ⟨fun w2 h2 => ⟨(h2.1.cell (p := ⟨w.heap.size, 0, none⟩) HBB.out.lt).trans (HBB.out.cell (i := 0) rfl), (h2.1.cell (p := ⟨Ba, 0, none⟩) HKA.out.lt).trans (HKA.out.cell (i := 0) rfl), (h2.1.cell (p := ⟨Ba, 1, none⟩) HKA.out.lt).trans (HKA.out.cell (i := 1) rfl), HM.out.below h2.1 HM.out.lt⟩, fun w2 w3 h2 hb2 => ⟨h2.1.trans (hb2.mono h2.1.size), h2.2.1.below hb2 h2.2.1.lt, h2.2.2.below hb2 h2.2.2.lt⟩⟩
      try simp only [Act.put]
      refine growF_each [11] (by kernel_rfl) (by decide) ?_
      refine growF_cons 11 rfl (by kernel_rfl) (fun wA hA K hK => ?_) growF_nil
      have z0 := hA.2.1.cell (i := 0) (v := .int .i64 0) rfl; have f0 := hA.2.1.frozen 0
      have z1 := hA.2.1.cell (i := 1) (v := .int .i64 0) rfl; have f1 := hA.2.1.frozen 1
      have z2 := hA.2.1.cell (i := 2) (v := .int .i64 0) rfl; have f2 := hA.2.1.frozen 2
      go_simp
      refine hK.out _ _ (fun w' => Below W.heap.size W w' ∧ Blk w' poth 77 #[.int .i64 op, .int .i64 olo, .int .i64 ohi] ∧ Blk w' pown 77 #[.int .i64 p, .int .i64 lo, .int .i64 hi]) ⟨fun w2 h2 => ⟨(h2.1.cell (p := ⟨w.heap.size, 0, none⟩) HBB.out.lt).trans (HBB.out.cell (i := 0) rfl), (h2.1.cell (p := ⟨Ba, 0, none⟩) HKA.out.lt).trans (HKA.out.cell (i := 0) rfl), (h2.1.cell (p := ⟨Ba, 1, none⟩) HKA.out.lt).trans (HKA.out.cell (i := 1) rfl), HM.out.below h2.1 HM.out.lt⟩, fun w2 w3 h2 hb2 => ⟨h2.1.trans (hb2.mono h2.1.size), h2.2.1.below hb2 h2.2.1.lt, h2.2.2.below hb2 h2.2.2.lt⟩⟩ ⟨(((hA.1.setCell (p := ⟨poth, 0, none⟩) (by show W.heap.size ≤ poth; omega) _).setCell (p := ⟨poth, 1, none⟩) (by show W.heap.size ≤ poth; omega) _).setCell (p := ⟨poth, 2, none⟩) (by show W.heap.size ≤ poth; omega) _), (((hA.2.1.set 0 _).set 1 _).set 2 _), (((hA.2.2.far (p := ⟨poth, 0, none⟩) (by show pown ≠ poth; omega) _).far (p := ⟨poth, 1, none⟩) (by show pown ≠ poth; omega) _).far (p := ⟨poth, 2, none⟩) (by show pown ≠ poth; omega) _)⟩ ?_
      clear z0 f0 z1 f1 z2 f2 hK K hA wA hCalm
      have hCalm : Calm (fun w' => w'.cell? ⟨w.heap.size, 0, none⟩ = some (.map (some mb)) ∧ w'.cell? ⟨Ba, 0, none⟩ = some (.int .i64 eo) ∧ w'.cell? ⟨Ba, 1, none⟩ = some (.int .i64 er) ∧ MapB w' mb n K F1) (fun w' => Below W.heap.size W w' ∧ Blk w' poth 77 #[.int .i64 op, .int .i64 olo, .int .i64 ohi] ∧ Blk w' pown 77 #[.int .i64 p, .int .i64 lo, .int .i64 hi]) := ⟨fun w2 h2 => ⟨(h2.1.cell (p := ⟨w.heap.size, 0, none⟩) HBB.out.lt).trans (HBB.out.cell (i := 0) rfl), (h2.1.cell (p := ⟨Ba, 0, none⟩) HKA.out.lt).trans (HKA.out.cell (i := 0) rfl), (h2.1.cell (p := ⟨Ba, 1, none⟩) HKA.out.lt).trans (HKA.out.cell (i := 1) rfl), HM.out.below h2.1 HM.out.lt⟩, fun w2 w3 h2 hb2 => ⟨h2.1.trans (hb2.mono h2.1.size), h2.2.1.below hb2 h2.2.1.lt, h2.2.2.below hb2 h2.2.2.lt⟩⟩
      try simp only [Act.put]
      refine growF_done (by kernel_rfl) (fun wA hA => ?_) _
      have HBW := Lib.hid hA.1; have HO := Lib.hid hA.2.2; have HR := Lib.hid hA.2.1
      clear hA
      have o0 := HO.out.cell (i := 0) (v := .int .i64 p) rfl
      have o1 := HO.out.cell (i := 1) (v := .int .i64 lo) rfl
      have o2 := HO.out.cell (i := 2) (v := .int .i64 hi) rfl
      have r1 := HR.out.cell (i := 1) (v := .int .i64 olo) rfl
      have r2 := HR.out.cell (i := 2) (v := .int .i64 ohi) rfl
      have HN1 := Lib.hid (Blk.new wA 77 #[.int .i64 p, .int .i64 nlo, .int .i64 nhi])
      have nn0 := HN1.out.cell (i := 0) (v := .int .i64 p) rfl
      have nn1 := HN1.out.cell (i := 1) (v := .int .i64 nlo) rfl
      have nn2 := HN1.out.cell (i := 2) (v := .int .i64 nhi) rfl
      have HO1 := Lib.hid (HO.out.alloc (.cells #[.int .i64 p, .int .i64 nlo, .int .i64 nhi] 77))
      have oo0 := HO1.out.cell (i := 0) (v := .int .i64 p) rfl
      have oo1 := HO1.out.cell (i := 1) (v := .int .i64 lo) rfl
      have oo2 := HO1.out.cell (i := 2) (v := .int .i64 hi) rfl
      have HC1 := Lib.hid ((HBC.out.below HBW.out HBC.out.lt).alloc (.cells #[.int .i64 p, .int .i64 nlo, .int .i64 nhi] 77))
      have cc := HC1.out.cell (i := 0) (v := .bool c1) rfl; have cf := HC1.out.frozen 0
      have kk := (HKA.out.below HBW.out HKA.out.lt).alloc (.cells #[.int .i64 p, .int .i64 nlo, .int .i64 nhi] 77)
      have hba := HBA.out; have hbb := HBB.out.lt
      have hbW := ((HBB.out.below HBW.out HBB.out.lt).alloc (.cells #[.int .i64 p, .int .i64 nlo, .int .i64 nhi] 77))
      have bxt := (hbW.far (p := ⟨w.heap.size + 1, 0, none⟩) (by show w.heap.size ≠ w.heap.size + 1; omega) (.bool true)).cell (i := 0) rfl
      have kxt := (kk.far (p := ⟨w.heap.size + 1, 0, none⟩) (by show Ba ≠ w.heap.size + 1; omega) (.bool true)).cell (i := 0) (v := .int .i64 eo) rfl
      have nxt0 := (HN1.out.far (p := ⟨w.heap.size + 1, 0, none⟩) (by show wA.heap.size ≠ w.heap.size + 1; have := HBC.out.lt; have := HBW.out.size; omega) (.bool true)).cell (i := 0) (v := .int .i64 p) rfl
      have nxt1 := (HN1.out.far (p := ⟨w.heap.size + 1, 0, none⟩) (by show wA.heap.size ≠ w.heap.size + 1; have := HBC.out.lt; have := HBW.out.size; omega) (.bool true)).cell (i := 1) (v := .int .i64 nlo) rfl
      have nxt2 := (HN1.out.far (p := ⟨w.heap.size + 1, 0, none⟩) (by show wA.heap.size ≠ w.heap.size + 1; have := HBC.out.lt; have := HBW.out.size; omega) (.bool true)).cell (i := 2) (v := .int .i64 nhi) rfl
      have bxf := (hbW.far (p := ⟨w.heap.size + 1, 0, none⟩) (by show w.heap.size ≠ w.heap.size + 1; omega) (.bool false)).cell (i := 0) rfl
      have kxf := (kk.far (p := ⟨w.heap.size + 1, 0, none⟩) (by show Ba ≠ w.heap.size + 1; omega) (.bool false)).cell (i := 0) (v := .int .i64 eo) rfl
      have nxf0 := (HN1.out.far (p := ⟨w.heap.size + 1, 0, none⟩) (by show wA.heap.size ≠ w.heap.size + 1; have := HBC.out.lt; have := HBW.out.size; omega) (.bool false)).cell (i := 0) (v := .int .i64 p) rfl
      have nxf1 := (HN1.out.far (p := ⟨w.heap.size + 1, 0, none⟩) (by show wA.heap.size ≠ w.heap.size + 1; have := HBC.out.lt; have := HBW.out.size; omega) (.bool false)).cell (i := 1) (v := .int .i64 nlo) rfl
      have nxf2 := (HN1.out.far (p := ⟨w.heap.size + 1, 0, none⟩) (by show wA.heap.size ≠ w.heap.size + 1; have := HBC.out.lt; have := HBW.out.size; omega) (.bool false)).cell (i := 2) (v := .int .i64 nhi) rfl
      clear hbW kk hba hbb
      cases c1
      case true =>
        have HC2 := Lib.hid (HST.out _ true rfl (by rw [HST4.out, HFO.out]; simp))
        have hMX : MapB ((wA.alloc (.cells #[.int .i64 p, .int .i64 nlo, .int .i64 nhi] 77)).setCell ⟨w.heap.size + 1, 0, none⟩ (.bool true)) mb n K F1 := ((HM.out.below HBW.out HM.out.lt).alloc _).setCell (by show mb ≠ w.heap.size + 1; have := HMW.out; omega) _
        obtain ⟨w2, hrun, hM2, hG2⟩ := hMX.store (q := eo) HX.out.1.1 HN.out ⟨p, nlo, nhi⟩
        rw [HST3.out, if_pos HX.out.1.2, upd_true HX.out.1.2] at hM2
        have HM2 := Lib.hid hM2; have HG2 := Lib.hid hG2; clear hMX hM2 hG2
        gi_wp2_with fail
        have hbN : Below W.heap.size W (wA.alloc (.cells #[.int .i64 p, .int .i64 nlo, .int .i64 nhi] 77)) := HBW.out.alloc HBW.out.size _
        have hmw := HMW.out; have hlw := HLW.out; have hsz := HSZ.out; have hlc := HBC.out.lt; have hwA := HBW.out.size
        have hobj : ∃ o : Obj, (((wA.alloc (.cells #[.int .i64 p, .int .i64 nlo, .int .i64 nhi] 77)).setCell ⟨w.heap.size + 1, 0, none⟩ (.bool true))).heap[mb]? = some o ∧ o.isCells = false := (((HM.out.below HBW.out HM.out.lt).alloc _).setCell (a := ⟨w.heap.size + 1, 0, none⟩) (by show mb ≠ w.heap.size + 1; omega) _).obj
        obtain ⟨ob, ho1, ho2⟩ := hobj
        refine ⟨((keeps_of_below hbN).trans ((KeepsOthers.setCell _ _ _).from _)).trans (KeepsFrom.of_grownBy HG2.out (fun j e => by cases e; omega)), ((KpC.of_below hbN).trans (KpC.store _ _ _ _)).trans (KpC.of_grown HG2.out ho1 ho2), ⟨⟨⟨?_, ?_⟩, ?_⟩, ?_⟩, ?_⟩
        · rw [HC2.out.1]; exact HM2.out
        · exact (((HBB.out.below hbN HBB.out.lt).far (p := ⟨w.heap.size + 1, 0, none⟩) (by show w.heap.size ≠ w.heap.size + 1; omega) _)).only HG2.out (by simp; omega)
        · rw [HC2.out.2]; exact ((HBC.out.below hbN HBC.out.lt).set 0 _).only HG2.out (by simp; omega)
        · have := hbN.size; have := HG2.out.size; simp [World.setCell] at *; omega
        · exact grown_trans (grown_store (grown_below HG.out hbN) (by omega) 0 _) HG2.out
      case false =>
        by_cases n1e : nlo = lo
        case neg =>
          have n1 : (nlo == lo) = false := by simpa using n1e
          have HC2 := Lib.hid (HST.out _ true rfl (by rw [HST4.out, HFO.out, Bool.false_or]; symm; rw [decide_eq_true_iff]; intro h; simp only [Sk.mk.injEq] at h; exact n1e h.2.1))
          have hMX : MapB ((wA.alloc (.cells #[.int .i64 p, .int .i64 nlo, .int .i64 nhi] 77)).setCell ⟨w.heap.size + 1, 0, none⟩ (.bool true)) mb n K F1 := ((HM.out.below HBW.out HM.out.lt).alloc _).setCell (by show mb ≠ w.heap.size + 1; have := HMW.out; omega) _
          obtain ⟨w2, hrun, hM2, hG2⟩ := hMX.store (q := eo) HX.out.1.1 HN.out ⟨p, nlo, nhi⟩
          rw [HST3.out, if_pos HX.out.1.2, upd_true HX.out.1.2] at hM2
          have HM2 := Lib.hid hM2; have HG2 := Lib.hid hG2; clear hMX hM2 hG2
          gi_wp2_with fail
          have hbN : Below W.heap.size W (wA.alloc (.cells #[.int .i64 p, .int .i64 nlo, .int .i64 nhi] 77)) := HBW.out.alloc HBW.out.size _
          have hmw := HMW.out; have hlw := HLW.out; have hsz := HSZ.out; have hlc := HBC.out.lt; have hwA := HBW.out.size
          have hobj : ∃ o : Obj, (((wA.alloc (.cells #[.int .i64 p, .int .i64 nlo, .int .i64 nhi] 77)).setCell ⟨w.heap.size + 1, 0, none⟩ (.bool true))).heap[mb]? = some o ∧ o.isCells = false := (((HM.out.below HBW.out HM.out.lt).alloc _).setCell (a := ⟨w.heap.size + 1, 0, none⟩) (by show mb ≠ w.heap.size + 1; omega) _).obj
          obtain ⟨ob, ho1, ho2⟩ := hobj
          refine ⟨((keeps_of_below hbN).trans ((KeepsOthers.setCell _ _ _).from _)).trans (KeepsFrom.of_grownBy HG2.out (fun j e => by cases e; omega)), ((KpC.of_below hbN).trans (KpC.store _ _ _ _)).trans (KpC.of_grown HG2.out ho1 ho2), ⟨⟨⟨?_, ?_⟩, ?_⟩, ?_⟩, ?_⟩
          · rw [HC2.out.1]; exact HM2.out
          · exact (((HBB.out.below hbN HBB.out.lt).far (p := ⟨w.heap.size + 1, 0, none⟩) (by show w.heap.size ≠ w.heap.size + 1; omega) _)).only HG2.out (by simp; omega)
          · rw [HC2.out.2]; exact ((HBC.out.below hbN HBC.out.lt).set 0 _).only HG2.out (by simp; omega)
          · have := hbN.size; have := HG2.out.size; simp [World.setCell] at *; omega
          · exact grown_trans (grown_store (grown_below HG.out hbN) (by omega) 0 _) HG2.out
        case pos =>
          subst n1e
          by_cases n2e : nhi = hi
          case neg =>
            have n2 : (nhi == hi) = false := by simpa using n2e
            have HC2 := Lib.hid (HST.out _ true rfl (by rw [HST4.out, HFO.out, Bool.false_or]; symm; rw [decide_eq_true_iff]; intro h; simp only [Sk.mk.injEq] at h; exact n2e h.2.2))
            have hMX : MapB ((wA.alloc (.cells #[.int .i64 p, .int .i64 nlo, .int .i64 nhi] 77)).setCell ⟨w.heap.size + 1, 0, none⟩ (.bool true)) mb n K F1 := ((HM.out.below HBW.out HM.out.lt).alloc _).setCell (by show mb ≠ w.heap.size + 1; have := HMW.out; omega) _
            obtain ⟨w2, hrun, hM2, hG2⟩ := hMX.store (q := eo) HX.out.1.1 HN.out ⟨p, nlo, nhi⟩
            rw [HST3.out, if_pos HX.out.1.2, upd_true HX.out.1.2] at hM2
            have HM2 := Lib.hid hM2; have HG2 := Lib.hid hG2; clear hMX hM2 hG2
            gi_wp2_with fail
            have hbN : Below W.heap.size W (wA.alloc (.cells #[.int .i64 p, .int .i64 nlo, .int .i64 nhi] 77)) := HBW.out.alloc HBW.out.size _
            have hmw := HMW.out; have hlw := HLW.out; have hsz := HSZ.out; have hlc := HBC.out.lt; have hwA := HBW.out.size
            have hobj : ∃ o : Obj, (((wA.alloc (.cells #[.int .i64 p, .int .i64 nlo, .int .i64 nhi] 77)).setCell ⟨w.heap.size + 1, 0, none⟩ (.bool true))).heap[mb]? = some o ∧ o.isCells = false := (((HM.out.below HBW.out HM.out.lt).alloc _).setCell (a := ⟨w.heap.size + 1, 0, none⟩) (by show mb ≠ w.heap.size + 1; omega) _).obj
            obtain ⟨ob, ho1, ho2⟩ := hobj
            refine ⟨((keeps_of_below hbN).trans ((KeepsOthers.setCell _ _ _).from _)).trans (KeepsFrom.of_grownBy HG2.out (fun j e => by cases e; omega)), ((KpC.of_below hbN).trans (KpC.store _ _ _ _)).trans (KpC.of_grown HG2.out ho1 ho2), ⟨⟨⟨?_, ?_⟩, ?_⟩, ?_⟩, ?_⟩
            · rw [HC2.out.1]; exact HM2.out
            · exact (((HBB.out.below hbN HBB.out.lt).far (p := ⟨w.heap.size + 1, 0, none⟩) (by show w.heap.size ≠ w.heap.size + 1; omega) _)).only HG2.out (by simp; omega)
            · rw [HC2.out.2]; exact ((HBC.out.below hbN HBC.out.lt).set 0 _).only HG2.out (by simp; omega)
            · have := hbN.size; have := HG2.out.size; simp [World.setCell] at *; omega
            · exact grown_trans (grown_store (grown_below HG.out hbN) (by omega) 0 _) HG2.out
          case pos =>
            subst n2e
            have HC2 := Lib.hid (HST.out _ false rfl (by rw [HST4.out, HFO.out, Bool.false_or]; simp))
            have hMX : MapB ((wA.alloc (.cells #[.int .i64 p, .int .i64 nlo, .int .i64 nhi] 77)).setCell ⟨w.heap.size + 1, 0, none⟩ (.bool false)) mb n K F1 := ((HM.out.below HBW.out HM.out.lt).alloc _).setCell (by show mb ≠ w.heap.size + 1; have := HMW.out; omega) _
            obtain ⟨w2, hrun, hM2, hG2⟩ := hMX.store (q := eo) HX.out.1.1 HN.out ⟨p, nlo, nhi⟩
            rw [HST3.out, if_pos HX.out.1.2, upd_true HX.out.1.2] at hM2
            have HM2 := Lib.hid hM2; have HG2 := Lib.hid hG2; clear hMX hM2 hG2
            gi_wp2_with fail
            have hbN : Below W.heap.size W (wA.alloc (.cells #[.int .i64 p, .int .i64 nlo, .int .i64 nhi] 77)) := HBW.out.alloc HBW.out.size _
            have hmw := HMW.out; have hlw := HLW.out; have hsz := HSZ.out; have hlc := HBC.out.lt; have hwA := HBW.out.size
            have hobj : ∃ o : Obj, (((wA.alloc (.cells #[.int .i64 p, .int .i64 nlo, .int .i64 nhi] 77)).setCell ⟨w.heap.size + 1, 0, none⟩ (.bool false))).heap[mb]? = some o ∧ o.isCells = false := (((HM.out.below HBW.out HM.out.lt).alloc _).setCell (a := ⟨w.heap.size + 1, 0, none⟩) (by show mb ≠ w.heap.size + 1; omega) _).obj
            obtain ⟨ob, ho1, ho2⟩ := hobj
            refine ⟨((keeps_of_below hbN).trans ((KeepsOthers.setCell _ _ _).from _)).trans (KeepsFrom.of_grownBy HG2.out (fun j e => by cases e; omega)), ((KpC.of_below hbN).trans (KpC.store _ _ _ _)).trans (KpC.of_grown HG2.out ho1 ho2), ⟨⟨⟨?_, ?_⟩, ?_⟩, ?_⟩, ?_⟩
            · rw [HC2.out.1]; exact HM2.out
            · exact (((HBB.out.below hbN HBB.out.lt).far (p := ⟨w.heap.size + 1, 0, none⟩) (by show w.heap.size ≠ w.heap.size + 1; omega) _)).only HG2.out (by simp; omega)
            · rw [HC2.out.2]; exact ((HBC.out.below hbN HBC.out.lt).set 0 _).only HG2.out (by simp; omega)
            · have := hbN.size; have := HG2.out.size; simp [World.setCell] at *; omega
            · exact grown_trans (grown_store (grown_below HG.out hbN) (by omega) 0 _) HG2.out
    exact growF_nil
end Go.Proofs.Ytbcgfohacbapoaa
