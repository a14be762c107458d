/- The contract of letterOf. Conditions: features that read, the table of letters. -/
import Derived.Test.YtmjcjaecaigahaaDoorLS
namespace Go.Proofs.YtmjcjaecaigahaaDoor
open Go.RowKit Go.Lib

theorem cell_lt8 {w : World} {g i : Nat} {v : Value} (h : w.cell? ⟨g, i, none⟩ = some v) : g < w.heap.size := by
  obtain ⟨o, h1, _⟩ := cells_of_cell h
  exact (Array.getElem?_eq_some_iff.1 h1).1
def wd8 (i : Nat) : ByteArray := ⟨#[([73, 76, 77, 78, 84, 86, 88, 90] : List UInt8).getD i 0]⟩
def st8 (i : Nat) : List (List Int) := ([[[2]], [[2, 0]], [[6, 1, 7, 2]], [[6, 1, 6]], [[0], [2]], [[1, 7]], [[1], [3]], [[0, 3, 0]]] : List (List (List Int))).getD i []
/-- A slice of slices of ints that reads. -/
def LLz8 (w : World) (A : Option Addr) (l : List (List Int)) : Prop := 0 < l.length → ∃ b o, A = some ⟨b, o, none⟩ ∧ b < w.heap.size ∧ ∀ j (hj : j < l.length), ∃ A2 d, w.cell? ⟨b, o + j, none⟩ = some (.slice A2 l[j].length d) ∧ Iz w A2 l[j]
theorem LLz8.below {w w' : World} {A : Option Addr} {l : List (List Int)} {B : Nat} (h : LLz8 w A l) (hb : Below B w w') (hB : w.heap.size ≤ B) : LLz8 w' A l := fun hn => by
  obtain ⟨b, o, e, h1, h2⟩ := h hn
  refine ⟨b, o, e, Nat.lt_of_lt_of_le h1 hb.size, fun j hj => ?_⟩
  obtain ⟨A2, d, h3, h4⟩ := h2 j hj
  exact ⟨A2, d, (hb.cell (p := ⟨b, o + j, none⟩) (Nat.lt_of_lt_of_le h1 hB)).trans h3, h4.below hb hB⟩
/-- The table of letters, as the program's text lays it. -/
def Lt8 (w : World) : Prop := 0 < w.heap.size ∧ ∃ (A : Nat → Option Addr) (c : Nat → Nat), ∀ i, i < 8 → (w.cell? ⟨0, i * 2, none⟩ = some (.string (wd8 i)) ∧ w.cell? ⟨0, i * 2 + 1, none⟩ = some (.slice (A i) (st8 i).length (c i))) ∧ LLz8 w (A i) (st8 i)
theorem Lt8.below {w w' : World} {B : Nat} (h : Lt8 w) (hb : Below B w w') (hB : w.heap.size ≤ B) : Lt8 w' := by
  obtain ⟨h0, A, c, h1⟩ := h
  refine ⟨Nat.lt_of_lt_of_le h0 hb.size, A, c, fun i hi => ?_⟩
  obtain ⟨⟨h2, h3⟩, h4⟩ := h1 i hi
  exact ⟨⟨(hb.cell (p := ⟨0, i * 2, none⟩) (Nat.lt_of_lt_of_le h0 hB)).trans h2, (hb.cell (p := ⟨0, i * 2 + 1, none⟩) (Nat.lt_of_lt_of_le h0 hB)).trans h3⟩, h4.below hb hB⟩
theorem st8_ok {i j : Nat} (hj : j < (st8 i).length) : Ok8 (st8 i)[j] := by
  have key : ∀ m : Fin 8, ∀ l ∈ st8 m.val, l.length ≤ 4 ∧ ∀ x ∈ l, 0 ≤ x ∧ x ≤ 7 := by decide
  rcases Nat.lt_or_ge i 8 with h | h
  · have := key ⟨i, h⟩ _ (List.getElem_mem hj)
    exact ⟨by omega, this.2⟩
  · have : st8 i = [] := by unfold st8; rw [List.getD_eq_getElem?_getD, List.getElem?_eq_none (by simpa using h)]; rfl
    rw [this] at hj; exact absurd hj (by simp)
theorem lidx8 (f : Nat → Value) (i : Nat) (hi : i < 8) (w : World) : (Instr.index 100 (.agg #[f 0, f 1, f 2, f 3, f 4, f 5, f 6, f 7, f 8, f 9, f 10, f 11, f 12, f 13, f 14, f 15]) (.int .i64 (i : Int))).run Tryd.prog w = .ok (.agg #[f (i * 2), f (i * 2 + 1)]) w := by
  rcases (show i = 0 ∨ i = 1 ∨ i = 2 ∨ i = 3 ∨ i = 4 ∨ i = 5 ∨ i = 6 ∨ i = 7 by omega) with rfl | rfl | rfl | rfl | rfl | rfl | rfl | rfl <;> kernel_rfl
/-- What a letter costs, beside the 4. -/
def fl8 (Fs : List F8) (i j : Nat) : Int := far8 ((Fs.map (·.ss)).getD j []) ((st8 i).getD j [])
def lk2 (Fs : List F8) (i : Nat) : Int := 4 + if Fs.length = 1 then fl8 Fs i 0 else fl8 Fs i 0 + fl8 Fs i 1
def lstep8 (Fs : List F8) (s : ByteArray × Int) (i : Nat) : ByteArray × Int :=
  if (st8 i).length = Fs.length then (if s.2 < 0 ∨ lk2 Fs i < s.2 then (wd8 i, lk2 Fs i) else s) else s
def lo8 (Fs : List F8) (k : Nat) : ByteArray × Int := (List.range k).foldl (lstep8 Fs) (⟨#[]⟩, -1)
theorem lo8_succ (Fs : List F8) (k : Nat) : lo8 Fs (k + 1) = lstep8 Fs (lo8 Fs k) k := by simp [lo8, List.range_succ]
set_option maxRecDepth 100000 in
set_option maxHeartbeats 8000000 in
theorem leach8_any (a b g0 n c : Nat) (i j : Nat) (A : Option Addr) (F : F8) (q : Nat) (w : World) (hj : j < n) (hjs : j < (st8 i).length)
    (ha : w.cell? ⟨a, 0, none⟩ = some (.slice (some ⟨g0, 0, none⟩) n n)) (hg : w.cell? ⟨g0, j * 3 + 1, none⟩ = some (.slice (some ⟨q, 0, none⟩) F.ss.length F.ss.length)) (hq : Iz w (some ⟨q, 0, none⟩) F.ss) (hF : Ok8 F.ss)
    (hb : w.cell? ⟨b, 1, none⟩ = some (.slice A (st8 i).length c)) (hL : LLz8 w A (st8 i)) :
    Yl 82 #[.int .i64 (j : Int), .pointer (some ⟨a, 0, none⟩), .pointer (some ⟨b, 0, none⟩)] w (.int .i64 (far8 F.ss ((st8 i).getD j []))) := by
  have hgd : (st8 i).getD j [] = (st8 i)[j] := by rw [List.getD_eq_getElem?_getD, List.getElem?_eq_getElem hjs, Option.getD_some]
  rw [hgd]
  obtain ⟨b2, o2, rfl, hb2, hc⟩ := hL (by omega)
  obtain ⟨A2, d, h3, h4⟩ := hc j hjs
  have hok := st8_ok hjs
  have HCA : Hid (∀ W, Below w.heap.size w W → W.cell? ⟨a, 0, none⟩ = some (.slice (some ⟨g0, 0, none⟩) n n) ∧ W.cell? ⟨g0, j * 3 + 1, none⟩ = some (.slice (some ⟨q, 0, none⟩) F.ss.length F.ss.length) ∧ W.cell? ⟨b, 1, none⟩ = some (.slice (some ⟨b2, o2, none⟩) (st8 i).length c) ∧ W.cell? ⟨b2, o2 + j, none⟩ = some (.slice A2 (st8 i)[j].length d) ∧ Iz W (some ⟨q, 0, none⟩) F.ss ∧ Iz W A2 (st8 i)[j]) := Lib.hid (fun W hW =>
    ⟨(hW.cell (p := ⟨a, 0, none⟩) (cell_lt8 ha)).trans ha, (hW.cell (p := ⟨g0, j * 3 + 1, none⟩) (cell_lt8 hg)).trans hg, (hW.cell (p := ⟨b, 1, none⟩) (cell_lt8 hb)).trans hb, (hW.cell (p := ⟨b2, o2 + j, none⟩) hb2).trans h3, hq.below hW (Nat.le_refl _), h4.below hW (Nat.le_refl _)⟩)
  have HD : Hid (∀ W, Iz W (some ⟨q, 0, none⟩) F.ss → Iz W A2 (st8 i)[j] → Yl 63 #[.slice (some ⟨q, 0, none⟩) F.ss.length F.ss.length, .slice A2 (st8 i)[j].length d] W (.int .i64 (far8 F.ss (st8 i)[j]))) := Lib.hid (fun W h1 h2 => distance8_any _ _ _ _ _ _ W h1 h2 hF hok)
  generalize far8 F.ss (st8 i)[j] = f at *
  have q1 : (0 : Int) ≤ (j : Int) := by omega
  have q2 : (j : Int) < (n : Int) := by omega
  have q3 : (j : Int) < ((st8 i).length : Int) := by omega
  clear ha hg hq hF hb hL hb2 hc h3 h4 hok hgd hj
  generalize (st8 i)[j] = sl at *
  clear hjs
  generalize (st8 i).length = m at *
  go_enter Tryd.func82, Tryd.ntmps82
  go_wp2_with fail
  refine wp_region_grow (S := (fun w' => w'.cell? ⟨a, 0, none⟩ = some (.slice (some ⟨g0, 0, none⟩) n n) ∧ w'.cell? ⟨g0, j * 3 + 1, none⟩ = some (.slice (some ⟨q, 0, none⟩) F.ss.length F.ss.length) ∧ w'.cell? ⟨b, 1, none⟩ = some (.slice (some ⟨b2, o2, none⟩) m c) ∧ w'.cell? ⟨b2, o2 + j, none⟩ = some (.slice A2 sl.length d) ∧ Iz w' (some ⟨q, 0, none⟩) F.ss ∧ Iz w' A2 sl)) ((fun w' => Below w.heap.size w w')) (by kernel_rfl) (⟨fun w2 h2 => ⟨(HCA.out _ h2).1, (HCA.out _ h2).2.1, (HCA.out _ h2).2.2.1, (HCA.out _ h2).2.2.2.1, (HCA.out _ h2).2.2.2.2.1, (HCA.out _ h2).2.2.2.2.2⟩, fun w2 w3 h2 hb2 => h2.trans (hb2.mono h2.size)⟩) ((Below.refl _ _).drew) (fun hCalm => ?_)
  refine grow_take 0 (some 5) ?_ rfl rfl (by kernel_rfl) (fun _ _ _ h => h) (by kernel_rfl) hCalm ?_ ?_
  rotate_left
  · intro wS hS; (try dsimp only at hS); go_simp <;> with_reducible rfl
  try simp only [Act.put, List.setIfInBounds_toArray, List.set_cons_zero, List.set_cons_succ]
  refine grow_take 1 (some 6) ?_ rfl rfl (by kernel_rfl) (fun _ _ _ h => h) (by kernel_rfl) hCalm ?_ ?_
  rotate_left
  · intro wS hS; (try dsimp only at hS); go_simp <;> with_reducible rfl
  try simp only [Act.put, List.setIfInBounds_toArray, List.set_cons_zero, List.set_cons_succ]
  refine grow_take 2 (some 7) ?_ rfl rfl (by kernel_rfl) (fun _ _ _ h => h) (by kernel_rfl) hCalm ?_ ?_
  rotate_left
  · intro wS hS; (try dsimp only at hS); go_simp <;> with_reducible rfl
  try simp only [Act.put, List.setIfInBounds_toArray, List.set_cons_zero, List.set_cons_succ]
  refine grow_take 3 (some 8) ?_ rfl rfl (by kernel_rfl) (fun _ _ _ h => h) (by kernel_rfl) hCalm ?_ ?_
  rotate_left
  · intro wS hS; (try dsimp only at hS); go_simp <;> with_reducible rfl
  try simp only [Act.put, List.setIfInBounds_toArray, List.set_cons_zero, List.set_cons_succ]
  refine grow_take 4 (some 9) ?_ rfl rfl (by kernel_rfl) (fun _ _ _ h => h) (by kernel_rfl) hCalm ?_ ?_
  rotate_left
  · intro wS hS; (try dsimp only at hS); go_simp <;> with_reducible rfl
  try simp only [Act.put, List.setIfInBounds_toArray, List.set_cons_zero, List.set_cons_succ]
  refine grow_take 5 (some 10) ?_ rfl rfl (by kernel_rfl) (fun _ _ _ h => h) (by kernel_rfl) hCalm ?_ ?_
  rotate_left
  · intro wS hS; (try dsimp only at hS); go_simp <;> with_reducible rfl
  try simp only [Act.put, List.setIfInBounds_toArray, List.set_cons_zero, List.set_cons_succ]
  refine grow_take 6 (some 11) ?_ rfl rfl (by kernel_rfl) (fun _ _ _ h => h) (by kernel_rfl) hCalm ?_ ?_
  rotate_left
  · intro wS hS; (try dsimp only at hS); go_simp <;> with_reducible rfl
  try simp only [Act.put, List.setIfInBounds_toArray, List.set_cons_zero, List.set_cons_succ]
  refine grow_take 7 (some 12) ?_ rfl rfl (by kernel_rfl) (fun _ _ _ h => h) (by kernel_rfl) hCalm ?_ ?_
  rotate_left
  · intro wS hS; (try dsimp only at hS); go_simp <;> with_reducible rfl
  try simp only [Act.put, List.setIfInBounds_toArray, List.set_cons_zero, List.set_cons_succ]
  refine grow_take 8 (some 13) ?_ rfl rfl (by kernel_rfl) (fun _ _ _ h => h) (by kernel_rfl) hCalm ?_ ?_
  rotate_left
  · intro wS hS; (try dsimp only at hS); go_simp <;> with_reducible rfl
  try simp only [Act.put, List.setIfInBounds_toArray, List.set_cons_zero, List.set_cons_succ]
  refine grow_take 9 (some 14) ?_ rfl rfl (by kernel_rfl) (fun _ _ _ h => h) (by kernel_rfl) hCalm ?_ ?_
  rotate_left
  · intro wS hS; (try dsimp only at hS); go_simp <;> with_reducible rfl
  try simp only [Act.put, List.setIfInBounds_toArray, List.set_cons_zero, List.set_cons_succ]
  refine grow_call 10 (some 15) (.int .i64 f) 63 [.tmp 9, .tmp 14] #[23, 23] rfl rfl (by kernel_rfl) (fun _ _ _ h => h) (by kernel_rfl) hCalm rfl (enters_of Tryd.func63 (by kernel_rfl) rfl) (fun wz hz => HD.out wz hz.2.2.2.2.1 hz.2.2.2.2.2) (by kernel_rfl) ?_
  try simp only [Act.put, List.setIfInBounds_toArray, List.set_cons_zero, List.set_cons_succ]
  refine grow_take 11 (some 4) ?_ rfl rfl (by kernel_rfl) (fun _ _ _ h => h) (by kernel_rfl) hCalm ?_ ?_
  rotate_left
  · intro wS hS; (try dsimp only at hS); go_simp <;> with_reducible rfl
  try simp only [Act.put, List.setIfInBounds_toArray, List.set_cons_zero, List.set_cons_succ]
  refine grow_done (by kernel_rfl) (fun wA hA => ?_) _
  have hb := hA; clear hA hCalm
  go_wp2_with fail
  go_ret
  exact ⟨rfl, hb⟩
set_option maxRecDepth 100000 in
set_option maxHeartbeats 8000000 in
theorem ladd8_any (x y : Int) (w : World) (hx : -1000000 ≤ x ∧ x ≤ 1000000) (hy : -1000000 ≤ y ∧ y ≤ 1000000) : Yl 84 #[.int .i64 x, .int .i64 y] w (.int .i64 (x + y)) := by
  have e1 : IntKind.i64.wrap (x + y) = x + y := IntWalk.i64_in _ (by omega)
  clear hx hy
  go_enter Tryd.func84, Tryd.ntmps84
  go_wp2_with fail
  go_ret
  exact ⟨rfl, Below.refl _ _⟩
set_option maxRecDepth 100000 in
set_option maxHeartbeats 8000000 in
theorem lcomb8_one (a b : Nat) (x : Int) (w : World) (h0 : ∀ W, Below w.heap.size w W → Yl 82 #[.int .i64 0, .pointer (some ⟨a, 0, none⟩), .pointer (some ⟨b, 0, none⟩)] W (.int .i64 x)) :
    Yl 83 #[.int .i64 1, .func (.func 82) #[] #[.pointer (some ⟨a, 0, none⟩), .pointer (some ⟨b, 0, none⟩)], .func (.func 84) #[] #[]] w (.int .i64 x) := by
  have H0 := Lib.hid h0; clear h0
  go_enter Tryd.func83, Tryd.ntmps83
  go_wp2_with fail
  refine (H0.out _ (Below.refl _ _)).mono ?_
  rintro e v0 ⟨rfl, hb⟩
  go_wp2_with fail
  go_loopw [7, 8] (fun xx ii wr => xx = .int .i64 x ∧ ii = .int .i64 1 ∧ Below w.heap.size w wr) (fun _ _ _ => 0)
  case atStart => exact ⟨rfl, rfl, hb⟩
  case round =>
    obtain ⟨rfl, rfl, hB⟩ := hrel
    go_wp2_with fail
    go_ret
    exact ⟨rfl, hB⟩
set_option maxRecDepth 100000 in
set_option maxHeartbeats 8000000 in
theorem lcomb8_two (a b : Nat) (x y : Int) (w : World) (hx : -100000 ≤ x ∧ x ≤ 100000) (hy : -100000 ≤ y ∧ y ≤ 100000) (h0 : ∀ W, Below w.heap.size w W → Yl 82 #[.int .i64 0, .pointer (some ⟨a, 0, none⟩), .pointer (some ⟨b, 0, none⟩)] W (.int .i64 x))
    (h1 : ∀ W, Below w.heap.size w W → Yl 82 #[.int .i64 1, .pointer (some ⟨a, 0, none⟩), .pointer (some ⟨b, 0, none⟩)] W (.int .i64 y)) :
    Yl 83 #[.int .i64 2, .func (.func 82) #[] #[.pointer (some ⟨a, 0, none⟩), .pointer (some ⟨b, 0, none⟩)], .func (.func 84) #[] #[]] w (.int .i64 (x + y)) := by
  have H0 := Lib.hid h0; have H1 := Lib.hid h1; have HA := Lib.hid (fun W => ladd8_any x y W (by omega) (by omega))
  obtain ⟨z, hz⟩ : ∃ z, z = x + y := ⟨_, rfl⟩
  rw [← hz] at HA ⊢
  clear h0 h1 hx hy hz
  go_enter Tryd.func83, Tryd.ntmps83
  go_wp2_with fail
  refine (H0.out _ (Below.refl _ _)).mono ?_
  rintro e v0 ⟨rfl, hb⟩
  go_wp2_with fail
  go_loopw [7, 8] (fun xx ii wr => (xx = .int .i64 x ∧ ii = .int .i64 1 ∨ xx = .int .i64 z ∧ ii = .int .i64 2) ∧ Below w.heap.size w wr) (fun _ ii _ => 2 - (intOf ii).toNat)
  case atStart => exact ⟨Or.inl ⟨rfl, rfl⟩, hb⟩
  case round =>
    obtain ⟨⟨rfl, rfl⟩ | ⟨rfl, rfl⟩, hB⟩ := hrel
    · have HB := Lib.hid hB; clear hB hb
      go_wp2_with fail
      refine (H1.out _ HB.out).mono ?_
      rintro e v1 ⟨rfl, hb1⟩
      have HB1 := Lib.hid (HB.out.trans (hb1.mono HB.out.size)); clear hb1
      go_wp2_with fail
      refine (HA.out _).mono ?_
      rintro e v2 ⟨rfl, hb2⟩
      have HB2 := Lib.hid (HB1.out.trans (hb2.mono HB1.out.size)); clear hb2
      go_wp2_with fail
      go_roundw
      case rel => exact ⟨Or.inr ⟨rfl, rfl⟩, HB2.out⟩
      case measure => simp [intOf]
    · go_wp2_with fail
      go_ret
      exact ⟨rfl, hB⟩
set_option maxRecDepth 100000 in
set_option maxHeartbeats 16000000 in
theorem letterof8_any (Fs : List F8) (gg B : Nat) (w : World) (hG : Gz8 w B gg Fs) (hn : Fs.length = 1 ∨ Fs.length = 2) (hok : ∀ F ∈ Fs, Ok8 F.ss) (hL : Lt8 w) :
    Yl 50 #[.slice (some ⟨gg, 0, none⟩) Fs.length Fs.length] w (.tuple #[.string (lo8 Fs 8).1, .int .i64 (lo8 Fs 8).2]) := by
  obtain ⟨hBg, f, hgb, hfz⟩ := hG
  obtain ⟨hl0, A, c, hlt⟩ := hL
  obtain ⟨n, hnn⟩ : ∃ n, n = Fs.length := ⟨_, rfl⟩
  have HN := Lib.hid hnn
  have HN2 : Hid (n = 1 ∨ n = 2) := Lib.hid (by rw [hnn]; exact hn)
  have HLT : Hid (∀ i, i < 8 → ∀ W, Below w.heap.size w W → LLz8 W (A i) (st8 i)) := Lib.hid (fun i hi W hb => (hlt i hi).2.below hb (Nat.le_refl _))
  -- what each of the strokes is from a letter
  have HEA : Hid (∀ (a bq i j : Nat) (W : World), Below w.heap.size w W → i < 8 → j < n → (st8 i).length = n → W.cell? ⟨a, 0, none⟩ = some (.slice (some ⟨gg, 0, none⟩) n n) → W.cell? ⟨bq, 1, none⟩ = some (.slice (A i) (st8 i).length (c i)) →
      Yl 82 #[.int .i64 (j : Int), .pointer (some ⟨a, 0, none⟩), .pointer (some ⟨bq, 0, none⟩)] W (.int .i64 (fl8 Fs i j))) := Lib.hid (fun a bq i j W hb hi hj hlen h1 h2 => by
    have hjF : j < Fs.length := by rw [← hnn]; exact hj
    obtain ⟨p, q, he, hpq, hbp, hbq⟩ := hfz j hjF
    have h3 := (hgb.below hb hgb.lt).cell (fc8_at (f := f) hjF).2.1
    have h4 : (f j).2.1 = .slice (some ⟨q, 0, none⟩) Fs[j].ss.length Fs[j].ss.length := by
      have h5 := congrArg Value.cells he
      simp only [Value.cells] at h5
      have h6 := congrArg (fun x => x[1]?) h5
      simpa using h6
    rw [h4] at h3
    have hv : fl8 Fs i j = far8 Fs[j].ss ((st8 i).getD j []) := by
      unfold fl8
      rw [List.getD_eq_getElem?_getD (l := Fs.map _), List.getElem?_map, List.getElem?_eq_getElem hjF]; rfl
    rw [hv]
    exact leach8_any a bq gg n (c i) i j (A i) Fs[j] q W hj (by omega) h1 h3 (IB8.reads (hbq.below hb hbq.lt)) (hok _ (List.getElem_mem hjF)) h2 ((hlt i hi).2.below hb (Nat.le_refl _)))
  have HFB : Hid (∀ i j, i < 8 → j < n → (st8 i).length = n → 0 ≤ fl8 Fs i j ∧ fl8 Fs i j ≤ 700) := Lib.hid (fun i j hi hj hlen => by
    have hjF : j < Fs.length := by rw [← hnn]; exact hj
    have hjs : j < (st8 i).length := by omega
    unfold fl8
    rw [List.getD_eq_getElem?_getD, List.getElem?_map, List.getElem?_eq_getElem hjF, List.getD_eq_getElem?_getD, List.getElem?_eq_getElem hjs]
    have h1 := hok _ (List.getElem_mem hjF); have h2 := st8_ok hjs
    have h3 := far8_bd h1.2 h2.2
    have h4 := h1.1; have h5 := h2.1
    have h6 : (st8 i)[j].length ≤ 4 := by
      have key : ∀ m : Fin 8, ∀ l ∈ st8 m.val, l.length ≤ 4 := by decide
      exact key ⟨i, hi⟩ _ (List.getElem_mem hjs)
    simp only [Option.map_some, Option.getD_some]
    omega)
  have hv8 : ∀ k, lo8 Fs (k + 1) = lstep8 Fs (lo8 Fs k) k := lo8_succ Fs
  have hls : ∀ s i, lstep8 Fs s i = if (st8 i).length = n then (if s.2 < 0 ∨ lk2 Fs i < s.2 then (wd8 i, lk2 Fs i) else s) else s := fun s i => by rw [hnn]; rfl
  have hlk : ∀ i, lk2 Fs i = 4 + if n = 1 then fl8 Fs i 0 else fl8 Fs i 0 + fl8 Fs i 1 := fun i => by rw [hnn]; rfl
  have H8 := Lib.hid hv8; have HLS := Lib.hid hls; have HLK := Lib.hid hlk
  have HB0 := Lib.hid ((Below.refl w.heap.size w).alloc (Nat.le_refl _) (.cells #[.slice (some ⟨gg, 0, none⟩) n n] 84))
  have HS0 := Lib.hid (Blk.new w 84 #[.slice (some ⟨gg, 0, none⟩) n n])
  have HWL : Hid (∀ i, i < 8 → w.cell? ⟨0, i * 2, none⟩ = some (.string (wd8 i)) ∧ w.cell? ⟨0, i * 2 + 1, none⟩ = some (.slice (A i) (st8 i).length (c i))) := Lib.hid (fun i hi => (hlt i hi).1)
  rw [← hnn]
  obtain ⟨fv, hfv⟩ : ∃ fv : Nat → Value, fv = fun m => if m % 2 = 0 then .string (wd8 (m / 2)) else .slice (A (m / 2)) (st8 (m / 2)).length (c (m / 2)) := ⟨_, rfl⟩
  have HFV : Hid (∀ i, fv (i * 2) = .string (wd8 i) ∧ fv (i * 2 + 1) = .slice (A i) (st8 i).length (c i)) := Lib.hid (fun i => by
    rw [hfv]; simp only
    rw [if_pos (by omega), if_neg (by omega), show i * 2 / 2 = i by omega, show (i * 2 + 1) / 2 = i by omega]; exact ⟨rfl, rfl⟩)
  have HCF : Hid (∀ k, k < 16 → w.cell? ⟨0, k, none⟩ = some (fv k)) := Lib.hid (fun k hk => by
    rw [hfv]; simp only
    by_cases h2 : k % 2 = 0
    · rw [if_pos h2]; have := (hlt (k / 2) (by omega)).1.1; rwa [show k / 2 * 2 = k by omega] at this
    · rw [if_neg h2]; have := (hlt (k / 2) (by omega)).1.2; rwa [show k / 2 * 2 + 1 = k by omega] at this)
  have HBL := Lib.hid hl0
  clear hBg hgb hfz hl0 hlt hn hok hv8 hls hlk hfv hnn
  have HCW : Hid (∀ W, Below w.heap.size w W → ∀ k, k < 16 → W.cell? ⟨0, k, none⟩ = some (fv k)) := Lib.hid (fun W hb k hk => (hb.cell (p := ⟨0, k, none⟩) HBL.out).trans (HCF.out k hk))
  go_enter Tryd.func50, Tryd.ntmps50
  have c0 := HCW.out _ HB0.out 0 (by omega)
  have c1 := HCW.out _ HB0.out 1 (by omega)
  have c2 := HCW.out _ HB0.out 2 (by omega)
  have c3 := HCW.out _ HB0.out 3 (by omega)
  have c4 := HCW.out _ HB0.out 4 (by omega)
  have c5 := HCW.out _ HB0.out 5 (by omega)
  have c6 := HCW.out _ HB0.out 6 (by omega)
  have c7 := HCW.out _ HB0.out 7 (by omega)
  have c8 := HCW.out _ HB0.out 8 (by omega)
  have c9 := HCW.out _ HB0.out 9 (by omega)
  have c10 := HCW.out _ HB0.out 10 (by omega)
  have c11 := HCW.out _ HB0.out 11 (by omega)
  have c12 := HCW.out _ HB0.out 12 (by omega)
  have c13 := HCW.out _ HB0.out 13 (by omega)
  have c14 := HCW.out _ HB0.out 14 (by omega)
  have c15 := HCW.out _ HB0.out 15 (by omega)
  have hix := lidx8 fv
  go_upto_region 3 with fail
  clear c0 c1 c2 c3 c4 c5 c6 c7 c8 c9 c10 c11 c12 c13 c14 c15
  have hfl : (lo8 Fs 0).1 = ⟨#[]⟩ ∧ (lo8 Fs 0).2 = -1 := ⟨rfl, rfl⟩
  go_loopw [4, 5, 11] (fun ss nn ii wr => ∃ i : Nat, ii = .int .i64 i ∧ i ≤ 8 ∧ ss = .string (lo8 Fs i).1 ∧ nn = .int .i64 (lo8 Fs i).2 ∧ -1 ≤ (lo8 Fs i).2 ∧ (lo8 Fs i).2 ≤ 100000 ∧ Blk wr w.heap.size 84 #[.slice (some ⟨gg, 0, none⟩) n n] ∧ Below w.heap.size w wr) (fun _ _ ii _ => 8 - (intOf ii).toNat)
  case atStart => exact ⟨0, rfl, by omega, by rw [hfl.1], by rw [hfl.2], by rw [hfl.2]; omega, by rw [hfl.2]; omega, HS0.out, HB0.out⟩
  case round =>
    clear HB0 HS0 hfl
    obtain ⟨i, rfl, hi, rfl, rfl, hlo, hhi, hS, hB⟩ := hrel
    rename World => wr
    have HS := Lib.hid hS; have HB := Lib.hid hB; clear hS hB
    by_cases h8 : i < 8
    case neg =>
      obtain rfl : i = 8 := by omega
      clear hi h8 hlo hhi
      go_wp2_with fail
      exact bodyPost_ret (v := .tuple #[.string (lo8 Fs 8).1, .int .i64 (lo8 Fs 8).2]) (by simp [results, Tryd.results50, go_sem]) rfl ⟨rfl, HB.out⟩
    case pos =>
      have hx1 := hix i h8
      rw [(HFV.out i).1, (HFV.out i).2] at hx1
      have hst := H8.out i
      rw [HLS.out] at hst
      have hkk := HLK.out i
      obtain ⟨wd, hwd⟩ : ∃ wd, wd = wd8 i := ⟨_, rfl⟩
      obtain ⟨sv, hsv⟩ : ∃ sv, sv = lo8 Fs i := ⟨_, rfl⟩
      obtain ⟨m, hm⟩ : ∃ m, m = (st8 i).length := ⟨_, rfl⟩
      obtain ⟨s1, s2⟩ := sv
      rw [← hsv] at hst hlo hhi
      rw [← hsv]
      simp only at hst hlo hhi ⊢
      rw [← hwd] at hx1 hst
      rw [← hm] at hx1 hst
      have HM := Lib.hid hm
      have HST := Lib.hid hst; have HKK := Lib.hid hkk
      have q1 : (0 : Int) ≤ (i : Int) := by omega
      have q2 : (i : Int) < 8 := by omega
      have y0 := HS.out.cell (i := 0) (v := .slice (some ⟨gg, 0, none⟩) n n) rfl
      have HI := Lib.hid h8; have HLO : Hid (-1 ≤ s2 ∧ s2 ≤ 100000) := Lib.hid ⟨hlo, hhi⟩
      have L_0 := Lib.hid (Blk.new wr 99 #[.string wd, .slice (A i) m (c i)])
      have S_0 := Lib.hid (HS.out.alloc (.cells #[.string wd, .slice (A i) m (c i)] 99))
      have B_0 := Lib.hid (HB.out.alloc HB.out.size (.cells #[.string wd, .slice (A i) m (c i)] 99))
      clear hst hkk hwd hsv hm hlo hhi hi h8 HS HB
      have y1 := L_0.out.cell (i := 0) (v := .string wd) rfl; have y2 := L_0.out.cell (i := 1) (v := .slice (A i) m (c i)) rfl; have y3 := S_0.out.cell (i := 0) (v := .slice (some ⟨gg, 0, none⟩) n n) rfl
      by_cases hmn : m = n
      case neg =>
        have hmb : ((m : Int) == (n : Int)) = false := by rw [beq_eq_false_iff_ne]; omega
        have hmc : (m == n) = false := by rw [beq_eq_false_iff_ne]; exact hmn
        have HMN := Lib.hid hmn; clear hmn
        go_wp2_with fail
        clear y0 y1 y2 y3 hx1
        go_roundw
        case rel => exact ⟨i + 1, by go_num, HI.out, by rw [HST.out, if_neg HMN.out], by rw [HST.out, if_neg HMN.out], by rw [HST.out, if_neg HMN.out]; exact HLO.out.1, by rw [HST.out, if_neg HMN.out]; exact HLO.out.2, S_0.out, B_0.out⟩
        case measure => have := HI.out; simp [intOf]; omega
      case pos =>
        subst hmn
        have HML : Hid ((st8 i).length = m) := Lib.hid HM.out.symm
        have HE2 : Hid (∀ j W, j < m → Below (wr.alloc (.cells #[.string wd, .slice (A i) m (c i)] 99)).heap.size (wr.alloc (.cells #[.string wd, .slice (A i) m (c i)] 99)) W → Yl 82 #[.int .i64 (j : Int), .pointer (some ⟨w.heap.size, 0, none⟩), .pointer (some ⟨wr.heap.size, 0, none⟩)] W (.int .i64 (fl8 Fs i j))) := Lib.hid (fun j W hj hb =>
          HEA.out _ _ i j W (B_0.out.trans (hb.mono B_0.out.size)) HI.out hj HML.out ((S_0.out.below hb S_0.out.lt).cell (i := 0) rfl) (by rw [HML.out]; exact (L_0.out.below hb L_0.out.lt).cell (i := 1) rfl))
        have hc1 := HFB.out i 0 HI.out (by have := HN2.out; omega) HML.out
        obtain ⟨lk, hlk⟩ : ∃ x, x = lk2 Fs i := ⟨_, rfl⟩
        have hcm : ∃ cm, Hid (4 + cm = lk ∧ 0 ≤ cm ∧ cm ≤ 1400) ∧ Hid (Yl 83 #[.int .i64 (m : Int), .func (.func 82) #[] #[.pointer (some ⟨w.heap.size, 0, none⟩), .pointer (some ⟨wr.heap.size, 0, none⟩)], .func (.func 84) #[] #[]] (wr.alloc (.cells #[.string wd, .slice (A i) m (c i)] 99)) (.int .i64 cm)) := by
          rcases HN2.out with h1 | h1
          · refine ⟨fl8 Fs i 0, Lib.hid ⟨by rw [hlk, HKK.out, if_pos h1], by omega, by omega⟩, Lib.hid ?_⟩
            rw [h1]
            exact lcomb8_one _ _ _ _ (fun W hb => HE2.out 0 W (by omega) (by rw [h1]; exact hb))
          · have hc2 := HFB.out i 1 HI.out (by omega) HML.out
            refine ⟨fl8 Fs i 0 + fl8 Fs i 1, Lib.hid ⟨by rw [hlk, HKK.out, if_neg (by omega)], by omega, by omega⟩, Lib.hid ?_⟩
            rw [h1]
            exact lcomb8_two _ _ _ _ _ (by omega) (by omega) (fun W hb => HE2.out 0 W (by omega) (by rw [h1]; exact hb)) (fun W hb => HE2.out 1 W (by omega) (by rw [h1]; exact hb))
        obtain ⟨cm, HCM, HCB⟩ := hcm
        rw [← hlk] at HST
        have HS1 : Hid (lo8 Fs (i + 1) = if s2 < 0 ∨ lk < s2 then (wd, lk) else (s1, s2)) := Lib.hid (by rw [HST.out, if_pos rfl])
        clear HST
        have e1 : IntKind.i64.wrap (4 + cm) = lk := by have := HCM.out; rw [← this.1]; exact IntWalk.i64_in _ (by omega)
        have HLKB : Hid (0 ≤ lk ∧ lk ≤ 100000) := Lib.hid (by have := HCM.out; omega)
        have hmb : ((m : Int) == (m : Int)) = true := by simp
        clear hc1 hlk
        go_wp2_with fail
        refine HCB.out.mono ?_
        rintro e v1 ⟨rfl, hb1⟩
        have S_1 := Lib.hid (S_0.out.below hb1 S_0.out.lt); have L_1 := Lib.hid (L_0.out.below hb1 L_0.out.lt); have B_1 := Lib.hid (B_0.out.trans (hb1.mono B_0.out.size))
        clear y0 y1 y2 y3 hx1 hb1
        have y1 := L_1.out.cell (i := 0) (v := .string wd) rfl
        by_cases h1 : s2 < 0
        case pos =>
          have hundef := un_none
          go_wp2_with fail
          clear y1
          go_roundw
          case rel => exact ⟨i + 1, by go_num, HI.out, by rw [HS1.out, if_pos (Or.inl h1)], by rw [HS1.out, if_pos (Or.inl h1)], by rw [HS1.out, if_pos (Or.inl h1)]; have := HLKB.out; simp only; omega, by rw [HS1.out, if_pos (Or.inl h1)]; exact HLKB.out.2, S_1.out, B_1.out⟩
          case measure => have := HI.out; simp [intOf]; omega
        case neg =>
          by_cases h2 : lk < s2
          case pos =>
            go_wp2_with fail
            clear y1
            go_roundw
            case rel => exact ⟨i + 1, by go_num, HI.out, by rw [HS1.out, if_pos (Or.inr h2)], by rw [HS1.out, if_pos (Or.inr h2)], by rw [HS1.out, if_pos (Or.inr h2)]; have := HLKB.out; simp only; omega, by rw [HS1.out, if_pos (Or.inr h2)]; exact HLKB.out.2, S_1.out, B_1.out⟩
            case measure => have := HI.out; simp [intOf]; omega
          case neg =>
            go_wp2_with fail
            clear y1
            go_roundw
            case rel => exact ⟨i + 1, by go_num, HI.out, by rw [HS1.out, if_neg (by omega)], by rw [HS1.out, if_neg (by omega)], by rw [HS1.out, if_neg (by omega)]; exact HLO.out.1, by rw [HS1.out, if_neg (by omega)]; exact HLO.out.2, S_1.out, B_1.out⟩
            case measure => have := HI.out; simp [intOf]; omega
end Go.Proofs.YtmjcjaecaigahaaDoor
