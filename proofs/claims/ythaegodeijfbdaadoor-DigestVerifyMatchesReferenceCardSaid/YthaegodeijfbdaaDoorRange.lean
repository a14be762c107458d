/- A loop over a function that keeps state of its own in memory: its law. What the function hands to the loop's body is one list, whole and in its order; the body changes one block that was there before, X, and what it makes itself. No condition on programs. -/
import Derived.RangeFuncBox
import Derived.RangeFuncLeaves
import Derived.RangeFuncWrites
import Derived.RangeFuncRecord
import Derived.Lib.Hide
import Derived.Test.YthaegodeijfbdaaDoorRows
namespace Go.Proofs.YthaegodeijfbdaaDoor
open Go.RowKit Go.Lib

/-- What is said of a world stays so while blocks are made and one block from B on is changed. -/
def Past {β : Type} (B : Nat) (J : β → World → Prop) : Prop :=
  ∀ s W W' row, J s W → W.grownBy W' row → (∀ r, row = some r → B ≤ r) → J s W'
theorem Past.and {β : Type} {B : Nat} {I J : β → World → Prop} (h : Past B I) (k : Past B J) : Past B (fun s W => I s W ∧ J s W) :=
  fun s W W' row hs hg hr => ⟨h s W W' row hs.1 hg hr, k s W W' row hs.2 hg hr⟩
theorem past_below {β : Type} {n B : Nat} {w : World} (h : n ≤ B) (hB : n ≤ w.heap.size) : Past (β := β) B (fun _ W => Below n w W) :=
  fun _ _ _ _ hs hg hr => hs.grown hg (Nat.le_trans hB hs.size) (fun k e => Nat.le_trans h (hr k e))
theorem past_block {β : Type} {B X : Nat} (hX : X < B) (f : β → Obj) : Past B (fun s W => W.heap[X]? = some (f s)) :=
  fun _ _ _ _ hs hg hr => (hg.block X (Array.getElem?_eq_some_iff.1 hs).1 (fun e => by have := hr X e.symm; omega)).trans hs

/-- All blocks but X stay. -/
structure OldBut (X : Nat) (W W' : World) : Prop where
  size : W.heap.size ≤ W'.heap.size
  same : ∀ k, k < W.heap.size → k ≠ X → W'.heap[k]? = W.heap[k]?
theorem OldBut.refl (X : Nat) (W : World) : OldBut X W W := ⟨Nat.le_refl _, fun _ _ _ => rfl⟩
theorem OldBut.trans {X : Nat} {A B C : World} (h : OldBut X A B) (k : OldBut X B C) : OldBut X A C :=
  ⟨Nat.le_trans h.size k.size, fun i hi hn => (k.same i (Nat.lt_of_lt_of_le hi h.size) hn).trans (h.same i hi hn)⟩
theorem OldBut.of_below {X : Nat} {W W' : World} (h : Below W.heap.size W W') : OldBut X W W' := ⟨h.size, fun k hk _ => h.block k hk⟩
theorem OldBut.setCell {X : Nat} (W : World) (i : Nat) (v : Value) : OldBut X W (W.setCell ⟨X, i, none⟩ v) :=
  ⟨by simp [World.setCell], fun k _ hk => Below.heap_setCell W _ v k hk⟩

/-- All blocks of cells but X stay. -/
structure CellsBut (X : Nat) (W W' : World) : Prop where
  size : W.heap.size ≤ W'.heap.size
  same : ∀ k o, k ≠ X → W.heap[k]? = some o → o.isCells = true → W'.heap[k]? = some o
theorem CellsBut.trans {X : Nat} {A B C : World} (h : CellsBut X A B) (k : CellsBut X B C) : CellsBut X A C :=
  ⟨Nat.le_trans h.size k.size, fun i o hn hi ho => k.same i o hn (h.same i o hn hi ho) ho⟩
theorem CellsBut.cell {X : Nat} {W W' : World} (h : CellsBut X W W') {a : Addr} {v : Value} (hne : a.block ≠ X) (hc : W.cell? a = some v) : W'.cell? a = some v := by
  have hb : a.block < W.heap.size := World.block_lt_of_cell? W a hc
  obtain ⟨o, ho⟩ : ∃ o, W.heap[a.block]? = some o := ⟨_, Array.getElem?_eq_getElem hb⟩
  have hcells : o.isCells = true := by
    cases o <;> first | rfl | (simp [World.cell?, ho] at hc)
  exact (World.cell?_of_block (w := W) ((h.same _ _ hne ho hcells).trans ho.symm)).trans hc

/-- The function value (g, lb), made in w, hands the list xs on, whole and in its order, to every body that keeps all blocks of cells but X. -/
def Yields {α : Type} (F : Fence) (n : Nat) (P : Program) (g : Nat) (lb : Array Value) (encs : α → Array Value) (X : Nat) (xs : List α) (w : World) : Prop :=
  ∀ (l : Nat) (J : List α → World → Prop) (W : World), Below w.heap.size w W → Past W.heap.size J →
    (∀ pre x rest W1, xs = pre ++ x :: rest → J pre W1 → YieldAt F (n - 1) P l (encs x) W1 fun e W' => e = .returned (.bool true) ∧ J (pre ++ [x]) W' ∧ CellsBut X W1 W') →
    J [] W →
    CallsIn F n P g (#[.func (.yield l) #[] #[]] ++ lb) W fun e W' => (∃ v, e = .returned v) ∧ J xs W'

variable {F : Fence} {n : Nat} {P : Program}

/-- The loop. -/
theorem range_law {α : Type} {g : Operand} {ps : Array Tmp} {assign body : Code} {Q : Exit → Act → World → Prop} {a : Act} {w : World}
    (hro : F.round = none) (h1 : 1 ≤ n) {gf : Nat} {lb : Array Value} (hg : a.eval g = .func (.func gf) #[] lb) (hFg : F.fn gf) (eg : ∀ args w, (callFunc gf args).run P w = .ok (.enter gf args) w)
    {encs : α → Array Value} {X : Nat} {xs : List α} {w0 : World} (hseq : Yields F (n - 1) P gf lb encs X xs w0) (hb0 : Below w0.heap.size w0 w) (hX : X < w.heap.size) (hps : ∀ x, (encs x).size = ps.size)
    (I : List α → World → Prop) (hI : Past w.heap.size I) (h0 : I [] w) (Ax : α → Act → World → Prop)
    (hAx : ∀ (x : α) (a' : Act) (W : World) (l : Nat) (r : Loop) (o : Obj), Ax x a' W → W.heap[l]? = some (.loop r) → Ax x a' (W.putObj l o))
    (hassign : ∀ (l : Nat) (pre : List α) (x : α) (rest : List α) (W : World) (K : Act → World → Prop), xs = pre ++ x :: rest → (∀ a' W', Below W.heap.size W W' → Ax x a' W' → K a' W') →
      assign.wpIn (F.inRound l) (n - 1 - 1) P (Exit.then K (fun _ _ _ => False)) { tmps := (ps.zip (encs x)).foldl (fun t (p, v) => t.setIfInBounds p v) a.tmps, defers := [] } W)
    (hbody : ∀ (l : Nat) (pre : List α) (x : α) (rest : List α) (a' : Act) (W : World), xs = pre ++ x :: rest → w.heap.size ≤ W.heap.size → I pre W → Ax x a' W →
      body.wpIn (F.inRound l) (n - 1 - 1) P (fun e _ W' => e = .normal ∧ OldBut X W W' ∧ I (pre ++ [x]) W') a' W)
    (hdone : ∀ (D : Nat) (W : World), w.heap.size ≤ D → I xs W → W.heap[D]? = some (.deferred (some [])) → Q .normal { a with defers := { target := .collected D, args := #[] } :: a.defers } W) :
    (Code.rangeFunc g ps assign body).wpIn F n P Q a w := by
  refine wpIn_rangeFunc fun fn hfn => ?_
  rw [hro]
  -- the two blocks of the loop: D for the rounds' deferred calls, D + 1 for its record
  obtain ⟨D, hD⟩ : ∃ D, D = w.heap.size := ⟨_, rfl⟩
  obtain ⟨rec, hrec⟩ : ∃ rec : LoopState → Loop, rec = fun st => { state := st, pending := none, fn, tmps := a.tmps, params := ps, assign, body, defers := w.heap.size } := ⟨_, rfl⟩
  obtain ⟨V, hV⟩ : ∃ V, V = (w.alloc (.deferred (some []))).alloc (.loop (rec .ready)) := ⟨_, rfl⟩
  have hVs : V.heap.size = D + 2 := by rw [hV, hD]; simp
  have hVl : V.heap[D + 1]? = some (.loop (rec .ready)) := by
    have := World.alloc_heap_new (w.alloc (.deferred (some []))) (.loop (rec .ready))
    rw [World.size_alloc] at this
    rw [hV, hD]; exact this
  have hVd : V.heap[D]? = some (.deferred (some [])) := by
    rw [hV, hD]; exact (Below.heap_alloc _ _ _ (by simp)).trans (World.alloc_heap_new w _)
  have hVI : I [] V := by
    rw [hV]
    exact hI _ _ _ none (hI _ _ _ none h0 (World.grownBy_alloc _ _ none) (fun r e => by cases e)) (World.grownBy_alloc _ _ none) (fun r e => by cases e)
  have hVb : Below w0.heap.size w0 V := by
    rw [hV]; exact hb0.trans ((((Below.refl _ w).alloc (Nat.le_refl _) _).alloc (by simp) _).mono hb0.size)
  refine ⟨D + 1, [{ target := .collected D, args := #[] }], V, { target := .fn (.func gf) lb, args := #[.func (.yield (D + 1)) #[] #[]] }, V, gf,
    #[.func (.yield (D + 1)) #[] #[]] ++ lb, V, ?_, ?_, ?_, ?_, fun _ => h1, ?_⟩
  · rw [hV, hD, hrec]; exact run_enterLoop_outer _ _ _ _ _
  · simp only [resolve, hg]; simp [go_sem]
  · intro f' hf'; simp [Target.leads] at hf'; subst hf'; exact hFg
  · simp [invoke, go_sem, eg]
  · refine (hseq (D + 1) (fun pre W => I pre W ∧ W.heap[D + 1]? = some (.loop (rec .ready)) ∧ W.heap[D]? = some (.deferred (some []))) V hVb
      (Past.and (fun s A B row hs hgr hr => hI s A B row hs hgr (fun r e => by have := hr r e; omega))
        (Past.and (past_block (by omega) fun _ => .loop (rec .ready)) (past_block (by omega) fun _ => .deferred (some [])))) ?_ ⟨hVI, hVl, hVd⟩).mono ?_
    · -- one round
      rintro pre x rest W hxs ⟨hi, hl, hd⟩
      have hlt : D + 1 < W.heap.size := (Array.getElem?_eq_some_iff.1 hl).1
      have hy := run_yield (P := P) (args := encs x) hl (by rw [hrec]; exact hps x)
      rw [hrec] at hy
      refine ⟨fn, _, assign, body, hy, roundIn_of_wpIn hfn (hassign _ pre x rest W _ hxs fun a' W1 hW1 hax => ?_)⟩
      have hs1 := hW1.size
      have hl1 : W1.heap[D + 1]? = some (.loop (rec .ready)) := (hW1.block _ hlt).trans hl
      have hd1 : W1.heap[D]? = some (.deferred (some [])) := (hW1.block _ (by omega)).trans hd
      have hi1 : I pre W1 := hI _ _ _ none hi ⟨hW1.os, hW1.tape, hW1.output, hW1.size, fun k hk _ => hW1.block k hk⟩ (fun r e => by cases e)
      refine ⟨_, run_beginRound hl1 (by rw [hrec]), ?_⟩
      obtain ⟨busy, hbusy⟩ : ∃ busy : Loop, busy = { rec .ready with state := .busy } := ⟨_, rfl⟩
      rw [← hbusy]
      have hl2 : (W1.putObj (D + 1) (.loop busy)).heap[D + 1]? = some (.loop busy) := World.putObj_heap_same (by omega)
      have hd2 : (W1.putObj (D + 1) (.loop busy)).heap[D]? = some (.deferred (some [])) := (World.putObj_heap_other (by omega)).trans hd1
      refine wpIn_mono (hbody _ pre x rest a' _ hxs (by simp; omega) (hI _ _ _ (some (D + 1)) hi1 (grownBy_putObj' _ _ _) (fun r e => by cases e; omega)) (hAx _ _ _ _ _ _ hax hl1)) ?_
      rintro e a3 W3 ⟨rfl, hk3, hi3⟩
      have hs3 : W1.heap.size ≤ W3.heap.size := by have := hk3.size; simpa using this
      have hl3 : W3.heap[D + 1]? = some (.loop busy) := (hk3.same _ (by simp; omega) (by omega)).trans hl2
      have hd3 : W3.heap[D]? = some (.deferred (some [])) := (hk3.same _ (by simp; omega) (by omega)).trans hd2
      have hend := run_endRound (P := P) none hl3
      have hback : { busy with state := if (none : Option Code).isNone then .ready else .done, pending := none } = rec .ready := by rw [hbusy, hrec]; rfl
      rw [hback] at hend
      refine ⟨_, _, hend, rfl, ⟨hI _ _ _ (some (D + 1)) hi3 (grownBy_putObj' _ _ _) (fun r e => by cases e; omega), World.putObj_heap_same (by omega), (World.putObj_heap_other (by omega)).trans hd3⟩, by simp; omega, fun k o hk ho hc => ?_⟩
      have hkl : k ≠ D + 1 := fun e => by subst e; rw [hl] at ho; cases ho; cases hc
      have hks := (Array.getElem?_eq_some_iff.1 ho).1
      exact (World.putObj_heap_other hkl).trans ((hk3.same k (by simp; omega) hk).trans ((World.putObj_heap_other hkl).trans ((hW1.block k hks).trans ho)))
    · -- behind the function
      rintro e W2 ⟨⟨v, rfl⟩, hi, hl, hd⟩
      have hend := run_endLoop (P := P) hl (by rw [hrec]; simp)
      have hnone : (rec .ready).pending = none := by rw [hrec]
      rw [hnone] at hend
      exact ⟨none, _, hend, hdone D _ (by omega) (hI _ _ _ (some (D + 1)) hi (grownBy_putObj' _ _ _) (fun r e => by cases e; omega)) ((World.putObj_heap_other (by omega)).trans hd)⟩
end Go.Proofs.YthaegodeijfbdaaDoor
