
/- Skews made by the call: a block of zero skews, set one after the other. No conditions. -/
import Derived.Test.YtbcgfohacbapoaaNa6
import Derived.Laws.MakeOwn
namespace Go.Proofs.Ytbcgfohacbapoaa
open Go.RowKit Go.Lib

def flatK (l : List Sk) : List Value := l.flatMap skc
theorem flatK_at : ∀ (ds : List Sk) (i k : Nat) (h : i < ds.length), k < 3 → (flatK ds)[i * 3 + k]? = (skc ds[i])[k]?
  | d :: r, 0, k, _, hk => by
    show (skc d ++ flatK r)[0 * 3 + k]? = _
    rw [Nat.zero_mul, Nat.zero_add, List.getElem?_append_left (by simpa [skc] using hk)]; rfl
  | d :: r, i + 1, k, h, hk => by
    show (skc d ++ flatK r)[(i + 1) * 3 + k]? = _
    rw [List.getElem?_append_right (by simp [skc]; omega), show (i + 1) * 3 + k - (skc d).length = i * 3 + k from by simp [skc]; omega, flatK_at r i k (by simpa using h) hk]; rfl
theorem info_skew : (Try.prog.info? 77).map (fun i => (i.zero, i.size, i.bytes)) = some (some (.agg #[.int .i64 0, .int .i64 0, .int .i64 0]), 3, 24) := by kernel_rfl
/-- The new skews, i of them made. -/
def curK (L : List Sk) (i : Nat) : List Sk := L.take i ++ List.replicate (L.length - i) z0
theorem curK_length {L : List Sk} {i : Nat} (h : i ≤ L.length) : (curK L i).length = L.length := by
  unfold curK; rw [List.length_append, List.length_take, List.length_replicate]; omega
theorem curK_zero (L : List Sk) : curK L 0 = List.replicate L.length z0 := by simp [curK]
theorem curK_all (L : List Sk) : curK L L.length = L := by simp [curK]
theorem curK_at {L : List Sk} {i : Nat} (h : i < L.length) : (curK L i)[i]? = some z0 := by
  unfold curK
  rw [List.getElem?_append_right (by rw [List.length_take]; omega), List.length_take, show i - min i L.length = 0 from by omega, List.getElem?_replicate, if_pos (by omega)]
theorem curK_succ {L : List Sk} {i : Nat} (h : i < L.length) : (curK L i).set i L[i] = curK L (i + 1) := by
  unfold curK
  rw [List.set_append_right _ _ (by rw [List.length_take]; omega), List.length_take, show i - min i L.length = 0 from by omega, show L.length - i = (L.length - (i + 1)) + 1 from by omega, List.replicate_succ, List.set_cons_zero, List.take_succ_eq_append_getElem h, List.append_assoc]
  rfl
theorem flatK_set : ∀ (l : List Sk) (i : Nat) (_ : i < l.length) (d : Sk), (((flatK l).set (i * 3) (.int .i64 d.p)).set (i * 3 + 1) (.int .i64 d.lo)).set (i * 3 + 2) (.int .i64 d.hi) = flatK (l.set i d)
  | e :: r, 0, _, d => by simp [flatK, skc]
  | e :: r, i + 1, h, d => by
    have ih := flatK_set r i (by simpa using h) d
    have e0 : flatK (e :: r) = .int .i64 e.p :: .int .i64 e.lo :: .int .i64 e.hi :: flatK r := rfl
    have e1 : flatK ((e :: r).set (i + 1) d) = .int .i64 e.p :: .int .i64 e.lo :: .int .i64 e.hi :: flatK (r.set i d) := rfl
    rw [e0, e1, ← ih]
    rw [show (i + 1) * 3 = i * 3 + 1 + 1 + 1 from by omega]
    simp only [List.set_cons_succ, show i * 3 + 1 + 1 + 1 + 1 = (i * 3 + 1) + 1 + 1 + 1 from by omega, show i * 3 + 1 + 1 + 1 + 2 = (i * 3 + 2) + 1 + 1 + 1 from by omega]
theorem flatK_setA (l : List Sk) (i : Nat) (h : i < l.length) (d : Sk) : (((flatK l).toArray.setIfInBounds (i * 3) (.int .i64 d.p)).setIfInBounds (i * 3 + 1) (.int .i64 d.lo)).setIfInBounds (i * 3 + 2) (.int .i64 d.hi) = (flatK (l.set i d)).toArray := by
  simp only [List.setIfInBounds_toArray]
  rw [flatK_set l i h d]
theorem kz_of_blk {W : World} {g : Nat} {ds : List Sk} (h : Blk W g 77 (flatK ds).toArray) : Kz W (some ⟨g, 0, none⟩) ds := fun _ => ⟨g, 0, rfl, h.lt, fun i hi j v hv => by
  have hj : j < 3 := (List.getElem?_eq_some_iff.1 hv).1
  refine h.cell (i := 0 + i * 3 + j) ?_
  rw [List.getElem?_toArray, Nat.zero_add, flatK_at ds i j hi hj, hv]⟩
theorem flatK_rep (n : Nat) : flatK (List.replicate n z0) = List.replicate (n * 3) (.int .i64 0) := by
  induction n with
  | zero => rfl
  | succ n ih =>
    rw [List.replicate_succ, show (n + 1) * 3 = n * 3 + 1 + 1 + 1 from by omega]
    simp only [List.replicate_succ]
    rw [← ih]; rfl
theorem flatK_zero (n : Nat) : madeCells (Value.agg #[.int .i64 0, .int .i64 0, .int .i64 0]).cells (n * 3) = (flatK (List.replicate n z0)).toArray := by
  rw [flatK_rep]
  apply Array.ext
  · simp [madeCells]
  · intro j h1 h2
    have h3 : j % 3 = 0 ∨ j % 3 = 1 ∨ j % 3 = 2 := by omega
    rcases h3 with h3 | h3 | h3 <;> simp [madeCells, Value.cells, h3]
/-- make of skews. -/
theorem run_make_skews (n : Nat) (hn : n ≤ 100000) (w : World) :
    (Instr.makeSlice 80 (.int .i64 (n : Nat)) (.int .i64 (n : Nat))).run Try.prog w = .ok (.slice (some ⟨w.heap.size, 0, none⟩) n n) (w.alloc (.cells (flatK (List.replicate n z0)).toArray 77)) := by
  obtain ⟨i, hi, hz, hs, hb⟩ := info_of info_skew
  have h := run_make (P := Try.prog) w 80 77 i (.agg #[.int .i64 0, .int .i64 0, .int .i64 0]) Try.underlying80 hi hz .i64 .i64 n n (by omega) (by omega) (by rw [hb]; omega) (by omega)
  rw [hs] at h
  simp only [Int.toNat_natCast] at h
  rw [flatK_zero] at h
  exact h
theorem flatK_z {l : List Sk} {i : Nat} (h : i < l.length) (h0 : l[i]? = some z0) : (flatK l).toArray[i * 3]? = some (.int .i64 0) ∧ (flatK l).toArray[i * 3 + 1]? = some (.int .i64 0) ∧ (flatK l).toArray[i * 3 + 2]? = some (.int .i64 0) := by
  rw [List.getElem?_eq_getElem h, Option.some.injEq] at h0
  have key : ∀ k v, k < 3 → (skc z0)[k]? = some v → (flatK l).toArray[i * 3 + k]? = some v := fun k v hk hv => by
    rw [List.getElem?_toArray, flatK_at l i k h hk, h0, hv]
  exact ⟨key 0 _ (by omega) rfl, key 1 _ (by omega) rfl, key 2 _ (by omega) rfl⟩
/-- Something is possible. -/
def Feas (l : List Sk) (ms : List Mt) : Prop := ∃ A, Poss l ms A
noncomputable instance (l : List Sk) (ms : List Mt) : Decidable (Feas l ms) := Classical.propDecidable _
theorem who_mem {l : List Sk} {q : Int} : who l q = true ↔ q ∈ l.map (·.p) := fnd_isSome
theorem edOk_of {l : List Sk} {ms : List Mt} (hs : SkOk l) (hm : MtOk l ms) : EdOk (sdL ms) (who l) := fun e he => by
  have h1 := hm.met.ends e he
  have key : ∀ q, q ∈ l.map (·.p) → i64 q := fun q hq => by
    obtain ⟨s, hs2, rfl⟩ := List.mem_map.1 hq
    have := (hs.mem hs2).1; exact ⟨by omega, by omega⟩
  exact ⟨⟨key _ h1.1, who_mem.2 h1.1⟩, key _ h1.2⟩
theorem byP_bd {l : List Sk} (hs : SkOk l) : Bd (byP l) 100000 := fun q => by
  unfold byP
  cases h : fnd l q with
  | none => simp [z0]
  | some s => have := hs.mem (fnd_some h).1; simp only [Option.getD_some]; omega
theorem MtOk.tms {l : List Sk} {ms : List Mt} (h : MtOk l ms) : Tms ms := fun m hm => (h.2 m hm).2.2.2
theorem narN_feas {l : List Sk} {ms : List Mt} (hs : SkOk l) (hm : MtOk l ms) {F : Int → Sk} (hn : NarN l.length (sdL ms) (byP l) F) : Lst (sdL ms) F ↔ Feas l ms := by
  have hn' : Nar (l.map (·.p)) (sdL ms) (byP l) F := by
    obtain ⟨k, h1, h2⟩ := hn; exact ⟨k, h1, by simpa using h2⟩
  rw [nar_lst hn' hm.met.ends sdL_sym (fun p hp => by
    obtain ⟨s, hs2, rfl⟩ := List.mem_map.1 hp
    rw [byP_mem hs.apart hs2]; exact (hs.mem hs2).2.2.1)]
  exact exists_congr fun A => poss_iff hs.apart
theorem narN_tight {l : List Sk} {ms : List Mt} (hs : SkOk l) (hm : MtOk l ms) {F : Int → Sk} (hn : NarN l.length (sdL ms) (byP l) F) (hf : Feas l ms) : IsTt l ms (l.map fun s => F s.p) := by
  obtain ⟨A, hA⟩ := hf
  exact nar_tight hs.apart hm.met (by obtain ⟨k, h1, h2⟩ := hn; exact ⟨k, h1, by simpa using h2⟩) hA
theorem Feas.take {l : List Sk} {ms : List Mt} (h : Feas l ms) (k : Nat) : Feas l (ms.take k) := by
  obtain ⟨A, h1, h2⟩ := h
  exact ⟨A, h1, fun m hm => h2 m (List.mem_of_mem_take hm)⟩
theorem Feas.mono {l : List Sk} {ms : List Mt} {j k : Nat} (h : Feas l (ms.take k)) (hjk : j ≤ k) : Feas l (ms.take j) := by
  have := h.take j
  rwa [List.take_take, Nat.min_eq_left hjk] at this
/-- narrowed, of skews by their persons. -/
theorem pnar_any (l : List Sk) (ms : List Mt) (mb : Nat) (B : Option Addr) (d : Nat) (w : World) (hM : MapB w mb l.length (who l) (byP l)) (hs : SkOk l) (hm : MtOk l ms) (hB : Mz w B ms) :
    Calls Try.prog 92 #[.map (some mb), .slice B ms.length d] w fun e w' => ∃ F', e = .returned (.bool (decide (Feas l ms))) ∧ MapB w' mb l.length (who l) F' ∧ w.grownBy w' (some mb) ∧ (Feas l ms → IsTt l ms (l.map fun s => F' s.p)) := by
  refine (pnarrowed_any mb l.length (who l) (byP l) 100000 ms B d w hM (by have := hs.few; omega) hB hm.1 hm.tms (edOk_of hs hm) (byP_bd hs) (by omega)).mono ?_
  rintro e w' ⟨F', h1, rfl, h2, h3⟩
  refine ⟨F', ?_, h2, h3, narN_tight hs hm h1⟩
  have h4 := narN_feas hs hm h1
  by_cases h : Feas l ms
  · rw [decide_eq_true h, decide_eq_true (h4.2 h)]
  · rw [decide_eq_false h, decide_eq_false (fun hh => h (h4.1 hh))]
end Go.Proofs.Ytbcgfohacbapoaa
