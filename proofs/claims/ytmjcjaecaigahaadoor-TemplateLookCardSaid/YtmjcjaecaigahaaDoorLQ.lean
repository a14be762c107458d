/- The example of the chapter: the stroke, and what is so of it. No conditions. | The statements' check of the chapter's examples. No conditions. | The contracts of the statements' pick and turned. Conditions: ints; bounds. | The contracts of pick (the reference's and the statements') and of the reference's Made. Conditions: ints. | What the laws of strokes need: made strokes, results of a call named. Conditions: the slices read. -/
import Derived.Shelf.Abstract
import Derived.Deep.CutRange
import Derived.Deep.CutBlock
import Derived.Test.YtmjcjaecaigahaaDoorLM
import Derived.Test.YtmjcjaecaigahaaDoorLN
import Derived.Test.YtmjcjaecaigahaaDoorLO
import Derived.Test.YtmjcjaecaigahaaDoorLP
import Derived.Test.YtmjcjaecaigahaaDoorLL
import Derived.Test.YtmjcjaecaigahaaDoorLE
import Derived.Test.YtmjcjaecaigahaaDoorLC
namespace Go.Proofs.YtmjcjaecaigahaaDoor
open Go.RowKit Go.Lib Go.Shelf

theorem wy_inv {B : Nat → Nat → Prop} {k : Nat} {l : List Nat} (h : Wy B k l) : (k = 0 ∧ l = [0]) ∨ ∃ i r, i < k ∧ Wy B i r ∧ B i k ∧ l = r ++ [k] := by
  cases h with
  | base => exact .inl ⟨rfl, rfl⟩
  | step h1 h2 h3 => exact .inr ⟨_, _, h2, h1, h3, rfl⟩
theorem wy0 {B : Nat → Nat → Prop} {l : List Nat} (h : Wy B 0 l) : l = [0] := by
  rcases wy_inv h with ⟨_, h⟩ | ⟨i, r, h1, _⟩
  · exact h
  · omega
theorem wy1 {B : Nat → Nat → Prop} {l : List Nat} (h : Wy B 1 l) : l = [0, 1] ∧ B 0 1 := by
  rcases wy_inv h with ⟨h, _⟩ | ⟨i, r, h1, h2, h3, rfl⟩
  · omega
  · obtain rfl : i = 0 := by omega
    rw [wy0 h2]; exact ⟨rfl, h3⟩
theorem wy2 {B : Nat → Nat → Prop} {l : List Nat} (h : Wy B 2 l) : (l = [0, 2] ∧ B 0 2) ∨ (l = [0, 1, 2] ∧ B 0 1 ∧ B 1 2) := by
  rcases wy_inv h with ⟨h, _⟩ | ⟨i, r, h1, h2, h3, rfl⟩
  · omega
  · have h : i = 0 ∨ i = 1 := by omega
    rcases h with rfl | rfl
    · rw [wy0 h2]; exact .inl ⟨rfl, h3⟩
    · rw [(wy1 h2).1]; exact .inr ⟨rfl, (wy1 h2).2, h3⟩
theorem wy3 {B : Nat → Nat → Prop} {l : List Nat} (h : Wy B 3 l) : (l = [0, 3] ∧ B 0 3) ∨ (l = [0, 1, 3] ∧ B 0 1 ∧ B 1 3) ∨ (l = [0, 2, 3] ∧ B 0 2 ∧ B 2 3) ∨ (l = [0, 1, 2, 3] ∧ B 0 1 ∧ B 1 2 ∧ B 2 3) := by
  rcases wy_inv h with ⟨h, _⟩ | ⟨i, r, h1, h2, h3, rfl⟩
  · omega
  · have h : i = 0 ∨ i = 1 ∨ i = 2 := by omega
    rcases h with rfl | rfl | rfl
    · rw [wy0 h2]; exact .inl ⟨rfl, h3⟩
    · rw [(wy1 h2).1]; exact .inr (.inl ⟨rfl, (wy1 h2).2, h3⟩)
    · rcases wy2 h2 with ⟨rfl, h4⟩ | ⟨rfl, h4, h5⟩
      · exact .inr (.inr (.inl ⟨rfl, h4, h3⟩))
      · exact .inr (.inr (.inr ⟨rfl, h4, h5, h3⟩))
theorem wy4 {B : Nat → Nat → Prop} {l : List Nat} (h : Wy B 4 l) : (l = [0, 4] ∧ B 0 4) ∨ (l = [0, 1, 4] ∧ B 0 1 ∧ B 1 4) ∨ (l = [0, 2, 4] ∧ B 0 2 ∧ B 2 4) ∨ (l = [0, 1, 2, 4] ∧ B 0 1 ∧ B 1 2 ∧ B 2 4) ∨
    (l = [0, 3, 4] ∧ B 0 3) ∨ (l = [0, 1, 3, 4] ∧ B 1 3) ∨ (l = [0, 2, 3, 4] ∧ B 0 2) ∨ l = [0, 1, 2, 3, 4] := by
  rcases wy_inv h with ⟨h, _⟩ | ⟨i, r, h1, h2, h3, rfl⟩
  · omega
  · have h : i = 0 ∨ i = 1 ∨ i = 2 ∨ i = 3 := by omega
    rcases h with rfl | rfl | rfl | rfl
    · rw [wy0 h2]; exact .inl ⟨rfl, h3⟩
    · rw [(wy1 h2).1]; exact .inr (.inl ⟨rfl, (wy1 h2).2, h3⟩)
    · rcases wy2 h2 with ⟨rfl, h4⟩ | ⟨rfl, h4, h5⟩
      · exact .inr (.inr (.inl ⟨rfl, h4, h3⟩))
      · exact .inr (.inr (.inr (.inl ⟨rfl, h4, h5, h3⟩)))
    · rcases wy3 h2 with ⟨rfl, h4⟩ | ⟨rfl, h4, h5⟩ | ⟨rfl, h4, h5⟩ | ⟨rfl, h4⟩
      · exact .inr (.inr (.inr (.inr (.inl ⟨rfl, h4⟩))))
      · exact .inr (.inr (.inr (.inr (.inr (.inl ⟨rfl, h5⟩)))))
      · exact .inr (.inr (.inr (.inr (.inr (.inr (.inl ⟨rfl, h4⟩))))))
      · exact .inr (.inr (.inr (.inr (.inr (.inr (.inr rfl))))))
end Go.Proofs.YtmjcjaecaigahaaDoor
namespace Go.Proofs.YtmjcjaecaigahaaDoor
open Go.RowKit Go.Lib Go.Shelf

end Go.Proofs.YtmjcjaecaigahaaDoor
namespace Go.Proofs.YtmjcjaecaigahaaDoor
open Go.RowKit Go.Lib Go.Shelf

end Go.Proofs.YtmjcjaecaigahaaDoor
namespace Go.Proofs.YtmjcjaecaigahaaDoor
open Go.RowKit Go.Lib Go.Shelf

set_option maxRecDepth 100000 in
theorem rpick_any (c n : Int) (w : World) (hc0 : -9223372036854775808 ≤ c ∧ c ≤ 9223372036854775807) (hn : 0 < n ∧ n ≤ 9223372036854775807) :
    Calls Tryd.prog 70 #[.int .i64 c, .int .i64 n] w fun e w' => ∃ k : Nat, (k : Int) < n ∧ e = .returned (.int .i64 (k : Nat)) ∧ w = w' := by
  obtain ⟨c0, c1⟩ := hc0
  obtain ⟨n0, n1⟩ := hn
  obtain ⟨k, hk⟩ : ∃ k : Nat, (k : Int) = (if c < 0 then -(c + 1) else c) % n := ⟨((if c < 0 then -(c + 1) else c) % n).toNat, by
    have := Int.emod_nonneg (if c < 0 then -(c + 1) else c) (show n ≠ 0 by omega); omega⟩
  have hk2 : (k : Int) < n := by
    have := Int.emod_lt_of_pos (if c < 0 then -(c + 1) else c) n0; omega
  have HK2 := Lib.hid hk2
  have hnz : (n == 0) = false := by rw [beq_eq_false_iff_ne]; omega
  have hn1 : (n == -1) = false := by rw [beq_eq_false_iff_ne]; omega
  by_cases h : c < 0
  · rw [if_pos h] at hk
    have h2 : (-(c + 1)).tmod n = (k : Int) := by rw [Int.tmod_eq_emod_of_nonneg (by omega), hk]
    have h3 : -((c + 1).tmod n) = (k : Int) := by rw [← Int.neg_tmod]; exact h2
    have HK := Lib.hid h3
    clear hk hk2 h2 h3
    go_enter Tryd.func70, Tryd.ntmps70
    go_wp2
    go_ret
    exact ⟨k, HK2.out, ret_int HK.out, rfl⟩
  · rw [if_neg h] at hk
    have HK := Lib.hid hk
    clear hk hk2
    go_enter Tryd.func70, Tryd.ntmps70
    go_wp2
    go_ret
    exact ⟨k, HK2.out, ret_int HK.out.symm, rfl⟩
/-- Triples of ints in memory. -/
def Tz (w : World) (A : Option Addr) (n : Nat) : Prop := 0 < n → ∃ b o, A = some ⟨b, o, none⟩ ∧ b < w.heap.size ∧ ∀ i, i < n → ∃ u0 u1 u2 : Int, (-9223372036854775808 ≤ u0 ∧ u0 ≤ 9223372036854775807) ∧ (-9223372036854775808 ≤ u1 ∧ u1 ≤ 9223372036854775807) ∧ (-9223372036854775808 ≤ u2 ∧ u2 ≤ 9223372036854775807) ∧
  w.cell? ⟨b, o + i * 3, none⟩ = some (.int .i64 u0) ∧ w.cell? ⟨b, o + i * 3 + 1, none⟩ = some (.int .i64 u1) ∧ w.cell? ⟨b, o + i * 3 + 2, none⟩ = some (.int .i64 u2)
theorem wrap_int (n : Int) : -9223372036854775808 ≤ IntKind.i64.wrap n ∧ IntKind.i64.wrap n ≤ 9223372036854775807 := by rw [IntKind.wrap_i64]; omega
/-- Dots as Made lays them. -/
def MadeD (ds : List Dt) : Prop := (∀ d ∈ ds, d.ok) ∧ ∀ i d e, ds[i]? = some d → ds[i + 1]? = some e → d.t ≤ e.t
theorem MadeD.snoc {ds : List Dt} {d e : Dt} (h : MadeD (ds ++ [d])) (he : e.ok) (ht : d.t ≤ e.t) : MadeD (ds ++ [d] ++ [e]) := by
  refine ⟨fun x hx => ?_, fun i x y hx hy => ?_⟩
  · rw [List.mem_append, List.mem_singleton] at hx
    rcases hx with hx | rfl
    · exact h.1 x hx
    · exact he
  · by_cases hi : i + 1 < (ds ++ [d]).length
    · rw [List.getElem?_append_left (by omega)] at hx
      rw [List.getElem?_append_left hi] at hy
      exact h.2 i x y hx hy
    · have hl : i + 1 = (ds ++ [d]).length := by
        have := (List.getElem?_eq_some_iff.1 hy).1
        simp only [List.length_append, List.length_singleton] at this hi ⊢; omega
      rw [hl] at hy
      simp only [List.length_append, List.length_singleton] at hl
      have h1 : i = ds.length := by omega
      subst h1
      rw [List.append_assoc] at hx
      simp at hx hy
      subst hx; subst hy; exact ht
theorem MadeD.vd {P N : Int} {ds : List Dt} (h : MadeD ds) (hP : 0 ≤ P ∧ P ≤ 39) (hN : 1 ≤ N ∧ N ≤ 999) (hl : 1 ≤ ds.length ∧ ds.length ≤ 200) : Vd P N ds := ⟨hP, hN, hl, fun i hi d hd => ⟨h.1 d (List.mem_of_getElem? hd), fun e he => by
  cases i with
  | zero =>
    rw [Nat.zero_sub] at he
    rw [hd] at he
    cases he
    exact Int.le_refl _
  | succ j => exact h.2 j e d he hd⟩⟩
set_option maxRecDepth 100000 in
set_option maxHeartbeats 4000000 in
theorem rmade_any (pe nu : Int) (A : Option Addr) (n c : Nat) (w : World) (hA : Tz w A n) (hz : n ≤ 9223372036854775807) (hp : -9223372036854775808 ≤ pe ∧ pe ≤ 9223372036854775807) (hn : -9223372036854775808 ≤ nu ∧ nu ≤ 9223372036854775807) :
    Calls Tryd.prog 37 #[.int .i64 pe, .int .i64 nu, .slice A n c] w fun e w' => ∃ P N ds v, e = .returned (.agg #[.int .i64 P, .int .i64 N, v]) ∧ Vd P N ds ∧ ds.length ≤ 24 ∧ w'.ownsRow w.heap.size 69 4 v ds.length (flat ds) ∧ Below w.heap.size w w' := by
  have hm := wrap_int (pe * 37)
  obtain ⟨m, hmm⟩ : ∃ m, IntKind.i64.wrap (pe * 37) = m := ⟨_, rfl⟩
  rw [hmm] at hm
  have HP1 := Lib.hid (fun W => rpick_any pe 40 W hp (by omega)); have HP2 := Lib.hid (fun W => rpick_any nu 999 W hn (by omega)); have HP3 := Lib.hid (fun W => rpick_any nu 2000 W hn (by omega))
  have HP4 := Lib.hid (fun W => rpick_any m 2000 W hm (by omega)); have HP5 := Lib.hid (fun W => rpick_any pe 500 W hp (by omega))
  have HA : Hid (∀ W, Below w.heap.size w W → 0 < n → ∃ b o, A = some ⟨b, o, none⟩ ∧ ∀ i, i < n → ∃ u0 u1 u2 : Int, (-9223372036854775808 ≤ u0 ∧ u0 ≤ 9223372036854775807) ∧ (-9223372036854775808 ≤ u1 ∧ u1 ≤ 9223372036854775807) ∧ (-9223372036854775808 ≤ u2 ∧ u2 ≤ 9223372036854775807) ∧
      ∀ W2, Below w.heap.size W W2 → W2.cell? ⟨b, o + i * 3, none⟩ = some (.int .i64 u0) ∧ W2.cell? ⟨b, o + i * 3 + 1, none⟩ = some (.int .i64 u1) ∧ W2.cell? ⟨b, o + i * 3 + 2, none⟩ = some (.int .i64 u2)) := fun W hb h0 => by
    obtain ⟨b, o, he, hl, hc⟩ := hA h0
    refine ⟨b, o, he, fun i hi => ?_⟩
    obtain ⟨u0, u1, u2, r0, r1, r2, c0, c1, c2⟩ := hc i hi
    exact ⟨u0, u1, u2, r0, r1, r2, fun W2 hb2 => ⟨((hb.trans hb2).cell (p := ⟨b, _, none⟩) hl).trans c0, ((hb.trans hb2).cell (p := ⟨b, _, none⟩) hl).trans c1, ((hb.trans hb2).cell (p := ⟨b, _, none⟩) hl).trans c2⟩⟩
  have HZ := Lib.hid hz
  clear hm hp hn hA hz
  go_enter Tryd.func37, Tryd.ntmps37
  go_wp2_with fail
  refine (HP1.out _).mono ?_
  rintro e w1 ⟨k1, hk1, rfl, rfl⟩
  go_wp2_with fail
  refine (HP2.out _).mono ?_
  rintro e w1 ⟨k2, hk2, rfl, rfl⟩
  go_wp2_with fail
  refine (HP3.out _).mono ?_
  rintro e w1 ⟨k3, hk3, rfl, rfl⟩
  go_wp2_with fail
  refine (HP4.out _).mono ?_
  rintro e w1 ⟨k4, hk4, rfl, rfl⟩
  go_wp2_with fail
  refine (HP5.out _).mono ?_
  rintro e w1 ⟨k5, hk5, rfl, rfl⟩
  have HPN : Hid ((0 ≤ ((k1 : Nat) : Int) ∧ ((k1 : Nat) : Int) ≤ 39) ∧ (1 ≤ (1 + (k2 : Nat) : Int) ∧ (1 + (k2 : Nat) : Int) ≤ 999)) := Lib.hid ⟨by omega, by omega⟩
  have hok : Dt.ok ⟨1000 + (k3 : Nat), 1000 + (k4 : Nat), (k5 : Nat), 0⟩ := by unfold Dt.ok; simp only; omega
  have HOK : Hid (MadeD ([] ++ [⟨1000 + (k3 : Nat), 1000 + (k4 : Nat), (k5 : Nat), 0⟩])) := Lib.hid ⟨fun x hx => by simp at hx; rw [hx]; exact hok, fun i x y hx hy => by have := (List.getElem?_eq_some_iff.1 hy).1; simp at this⟩
  have HTT : Hid (((k5 : Nat) : Int) ≤ 499) := Lib.hid (by omega)
  clear hok hk1 hk2 hk3 hk4 hk5 hmm
  have HR := Lib.hid (allocs_blk [(#[.int .i64 0, .int .i64 0, .slice none 0 0], 26), (#[.int .i64 (k1 : Nat), .int .i64 (1 + (k2 : Nat)), .slice none 0 0], 26), (#[.int .i64 (1000 + (k3 : Nat)), .int .i64 (1000 + (k4 : Nat)), .int .i64 (k5 : Nat), .int .i64 0], 69)] w 0 _ rfl)
  have HS := Lib.hid (allocs_blk [(#[.int .i64 0, .int .i64 0, .slice none 0 0], 26), (#[.int .i64 (k1 : Nat), .int .i64 (1 + (k2 : Nat)), .slice none 0 0], 26), (#[.int .i64 (1000 + (k3 : Nat)), .int .i64 (1000 + (k4 : Nat)), .int .i64 (k5 : Nat), .int .i64 0], 69)] w 1 _ rfl)
  have HD := Lib.hid (allocs_blk [(#[.int .i64 0, .int .i64 0, .slice none 0 0], 26), (#[.int .i64 (k1 : Nat), .int .i64 (1 + (k2 : Nat)), .slice none 0 0], 26), (#[.int .i64 (1000 + (k3 : Nat)), .int .i64 (1000 + (k4 : Nat)), .int .i64 (k5 : Nat), .int .i64 0], 69)] w 2 _ rfl)
  have HB := Lib.hid (allocs_below [(#[.int .i64 0, .int .i64 0, .slice none 0 0], 26), (#[.int .i64 (k1 : Nat), .int .i64 (1 + (k2 : Nat)), .slice none 0 0], 26), (#[.int .i64 (1000 + (k3 : Nat)), .int .i64 (1000 + (k4 : Nat)), .int .i64 (k5 : Nat), .int .i64 0], 69)] w (Below.refl w.heap.size w) (Nat.le_refl _))
  have z0 := HS.out.cell (i := 2) (v := .slice none 0 0) rfl; have z1 := HD.out.cell (i := 0) (v := .int .i64 (1000 + (k3 : Nat))) rfl; have z2 := HD.out.cell (i := 1) (v := .int .i64 (1000 + (k4 : Nat))) rfl; have z3 := HD.out.cell (i := 2) (v := .int .i64 (k5 : Nat)) rfl; have z4 := HD.out.cell (i := 3) (v := .int .i64 0) rfl
  have HN := Lib.hid (allocs_blk [(#[.int .i64 0, .int .i64 0, .slice none 0 0], 26), (#[.int .i64 (k1 : Nat), .int .i64 (1 + (k2 : Nat)), .slice none 0 0], 26), (#[.int .i64 (1000 + (k3 : Nat)), .int .i64 (1000 + (k4 : Nat)), .int .i64 (k5 : Nat), .int .i64 0], 69), (#[.int .i64 (1000 + (k3 : Nat)), .int .i64 (1000 + (k4 : Nat)), .int .i64 (k5 : Nat), .int .i64 0], 69)] w 3 _ rfl)
  have HSZ := Lib.hid (allocs_size [(#[.int .i64 0, .int .i64 0, .slice none 0 0], 26), (#[.int .i64 (k1 : Nat), .int .i64 (1 + (k2 : Nat)), .slice none 0 0], 26), (#[.int .i64 (1000 + (k3 : Nat)), .int .i64 (1000 + (k4 : Nat)), .int .i64 (k5 : Nat), .int .i64 0], 69)] w)
  go_wp2_with (at_builtin; go_loud (refine wpList_append_dot rfl _ _ rfl (w.heap.size + 3) (.slice none 0 0) 0 [] rfl (own_none _ _) _ ⟨1000 + (k3 : Nat), 1000 + (k4 : Nat), (k5 : Nat), 0⟩ rfl HN.out (by omega) (by simp) ?_; intro v1 w1 hown1 hgrow1; obtain ⟨g1, c1, rfl, hg1⟩ := own_pos hown1; have HG1 := Lib.hid hg1; have HOWN := Lib.hid hown1; have HS1 := Lib.hid ((HS.out.alloc _).only hgrow1 (by simp [Value.ownBlock])); have HR1 := Lib.hid ((HR.out.alloc _).only hgrow1 (by simp [Value.ownBlock])); have HD1 := Lib.hid ((HD.out.alloc _).only hgrow1 (by simp [Value.ownBlock])); have HB1 := Lib.hid ((HB.out.alloc HB.out.size _).grown hgrow1 (HB.out.alloc HB.out.size _).size (by intro g h; simp [Value.ownBlock] at h)); have y0 := HS1.out.cell (i := 2) (v := .slice none 0 0) rfl; have y1 := HS1.out.frozen 2; clear hown1 hgrow1; skip))
  clear y0 y1 z0 z1 z2 z3 z4
  go_loopw [9] (fun ii wr => ∃ (i : Nat) (ds : List Dt) (d : Dt) (g cc : Nat), ii = .int .i64 i ∧ i ≤ n ∧ i ≤ 23 ∧ ds.length = i ∧ MadeD (ds ++ [d]) ∧ d.t ≤ 499 + 49 * (i : Int) ∧ Blk wr w.heap.size 26 #[.int .i64 0, .int .i64 0, .slice none 0 0] ∧ Blk wr (w.heap.size + 1) 26 #[.int .i64 (k1 : Nat), .int .i64 (1 + (k2 : Nat)), .slice (some ⟨g, 0, none⟩) (i + 1) cc] ∧ Blk wr (w.heap.size + 2) 69 #[.int .i64 d.x, .int .i64 d.y, .int .i64 d.t, .int .i64 d.p] ∧ wr.ownsRow (w.heap.size + 3) 69 4 (.slice (some ⟨g, 0, none⟩) (i + 1) cc) (i + 1) (flat (ds ++ [d])) ∧ Below w.heap.size w wr) (fun ii _ => n - (intOf ii).toNat)
  case atStart =>
    have hne : w.heap.size + 1 ≠ g1 := by have := HG1.out; omega
    refine ⟨0, [], _, g1, c1, rfl, Nat.zero_le _, Nat.zero_le _, rfl, HOK.out, by have := HTT.out; simp only; omega, HR1.out.far (by show w.heap.size ≠ w.heap.size + 1; omega) _, HS1.out.set 2 _, HD1.out.far (by show w.heap.size + 2 ≠ w.heap.size + 1; omega) _, own_far HOWN.out (by simpa [Value.ownBlock] using Ne.symm hne) _, HB1.out.setCell (p := ⟨w.heap.size + 1, 2, none⟩) (by show w.heap.size ≤ w.heap.size + 1; omega) _⟩
  case round =>
    obtain ⟨i, ds, d, g, cc, rfl, hin, hi23, hdl, hmd, hdt, hR, hS, hD, hO, hB⟩ := hrel
    clear HR HS HD HN HB HR1 HS1 HD1 HB1 HOWN HG1
    have HR := Lib.hid hR; have HS := Lib.hid hS; have HD := Lib.hid hD; have HO := Lib.hid hO; have HB := Lib.hid hB; have HMD := Lib.hid hmd; have HDT := Lib.hid hdt; have HDL := Lib.hid hdl
    clear hR hS hD hO hB hmd hdt hdl
    by_cases hlt : i < n
    case neg =>
      have hni : ¬ ((i : Int) < (n : Int)) := by omega
      have y0 := HS.out.cell (i := 0) (v := .int .i64 (k1 : Nat)) rfl; have y1 := HS.out.cell (i := 1) (v := .int .i64 (1 + (k2 : Nat))) rfl; have y2 := HS.out.cell (i := 2) (v := .slice (some ⟨g, 0, none⟩) (i + 1) cc) rfl
      have z0 := HR.out.cell (i := 0) (v := .int .i64 0) rfl; have z1 := HR.out.cell (i := 1) (v := .int .i64 0) rfl; have z2 := HR.out.cell (i := 2) (v := .slice none 0 0) rfl
      have f0 := HR.out.frozen 0; have f1 := HR.out.frozen 1; have f2 := HR.out.frozen 2
      have HF := Lib.hid (((HR.out.set 0 (.int .i64 (k1 : Nat))).set 1 (.int .i64 (1 + (k2 : Nat)))).set 2 (.slice (some ⟨g, 0, none⟩) (i + 1) cc))
      have r0 := HF.out.cell (i := 0) (v := .int .i64 (k1 : Nat)) rfl; have r1 := HF.out.cell (i := 1) (v := .int .i64 (1 + (k2 : Nat))) rfl; have r2 := HF.out.cell (i := 2) (v := .slice (some ⟨g, 0, none⟩) (i + 1) cc) rfl
      have HG : Hid (w.heap.size + 3 ≤ g) := by obtain ⟨g9, c9, he, hg9⟩ := own_pos HO.out; simp only [Value.slice.injEq, Option.some.injEq, Addr.mk.injEq] at he; have := he.1.1; show _ ≤ _; omega
      have HI3 : Hid (ds.length = i ∧ i ≤ 23) := Lib.hid ⟨HDL.out, by omega⟩
      go_wp2_with fail
      refine bodyPost_ret (v := .agg #[.int .i64 (k1 : Nat), .int .i64 (1 + (k2 : Nat)), .slice (some ⟨g, 0, none⟩) (i + 1) cc]) (by simp [results, Tryd.results37, go_sem, r0, r1, r2]) rfl ⟨_, _, ds ++ [d], _, rfl, HMD.out.vd HPN.out.1 HPN.out.2 (by have := HI3.out; simp; omega), by have := HI3.out; simp; omega, ?_, ?_⟩
      · have e : (ds ++ [d]).length = i + 1 := by have := HI3.out; simp; omega
        rw [e]
        exact own_base_le (own_far (own_far (own_far HO.out (by have := HG.out; simp [Value.ownBlock]; omega) _) (by have := HG.out; simp [Value.ownBlock]; omega) _) (by have := HG.out; simp [Value.ownBlock]; omega) _) (by omega)
      · exact ((HB.out.setCell (Nat.le_refl _) _).setCell (Nat.le_refl _) _).setCell (Nat.le_refl _) _
    case pos =>
      by_cases h23 : i < 23
      case neg =>
        have hni : ¬ ((i : Int) < 23) := by omega
        have hnj : (i : Int) < (n : Int) := by omega
        have y0 := HS.out.cell (i := 0) (v := .int .i64 (k1 : Nat)) rfl; have y1 := HS.out.cell (i := 1) (v := .int .i64 (1 + (k2 : Nat))) rfl; have y2 := HS.out.cell (i := 2) (v := .slice (some ⟨g, 0, none⟩) (i + 1) cc) rfl
        have z0 := HR.out.cell (i := 0) (v := .int .i64 0) rfl; have z1 := HR.out.cell (i := 1) (v := .int .i64 0) rfl; have z2 := HR.out.cell (i := 2) (v := .slice none 0 0) rfl
        have f0 := HR.out.frozen 0; have f1 := HR.out.frozen 1; have f2 := HR.out.frozen 2
        have HF := Lib.hid (((HR.out.set 0 (.int .i64 (k1 : Nat))).set 1 (.int .i64 (1 + (k2 : Nat)))).set 2 (.slice (some ⟨g, 0, none⟩) (i + 1) cc))
        have r0 := HF.out.cell (i := 0) (v := .int .i64 (k1 : Nat)) rfl; have r1 := HF.out.cell (i := 1) (v := .int .i64 (1 + (k2 : Nat))) rfl; have r2 := HF.out.cell (i := 2) (v := .slice (some ⟨g, 0, none⟩) (i + 1) cc) rfl
        have HG : Hid (w.heap.size + 3 ≤ g) := by obtain ⟨g9, c9, he, hg9⟩ := own_pos HO.out; simp only [Value.slice.injEq, Option.some.injEq, Addr.mk.injEq] at he; have := he.1.1; show _ ≤ _; omega
        have HI3 : Hid (ds.length = i ∧ i ≤ 23) := Lib.hid ⟨HDL.out, by omega⟩
        go_wp2_with fail
        refine bodyPost_ret (v := .agg #[.int .i64 (k1 : Nat), .int .i64 (1 + (k2 : Nat)), .slice (some ⟨g, 0, none⟩) (i + 1) cc]) (by simp [results, Tryd.results37, go_sem, r0, r1, r2]) rfl ⟨_, _, ds ++ [d], _, rfl, HMD.out.vd HPN.out.1 HPN.out.2 (by have := HI3.out; simp; omega), by have := HI3.out; simp; omega, ?_, ?_⟩
        · have e : (ds ++ [d]).length = i + 1 := by have := HI3.out; simp; omega
          rw [e]
          exact own_base_le (own_far (own_far (own_far HO.out (by have := HG.out; simp [Value.ownBlock]; omega) _) (by have := HG.out; simp [Value.ownBlock]; omega) _) (by have := HG.out; simp [Value.ownBlock]; omega) _) (by omega)
        · exact ((HB.out.setCell (Nat.le_refl _) _).setCell (Nat.le_refl _) _).setCell (Nat.le_refl _) _
      case pos =>
        obtain ⟨b, o, rfl, hc⟩ := HA.out w (Below.refl _ _) (by omega)
        obtain ⟨u0, u1, u2, r0, r1, r2, hcell⟩ := hc i hlt
        have HC := Lib.hid hcell
        have HQ0 := Lib.hid (fun W => rpick_any u0 401 W r0 (by omega)); have HQ1 := Lib.hid (fun W => rpick_any u1 401 W r1 (by omega)); have HQ2 := Lib.hid (fun W => rpick_any u2 50 W r2 (by omega)); have HQ3 := Lib.hid (fun W => rpick_any u2 101 W r2 (by omega))
        have hdk := HMD.out.1 d (by simp)
        unfold Dt.ok at hdk
        have HDK := Lib.hid hdk
        have HI := Lib.hid (And.intro hlt (And.intro h23 hin))
        have q1 : (0 : Int) ≤ (i : Int) := by omega
        have q2 : (i : Int) < (n : Int) := by omega
        have q3 : (i : Int) < 23 := by omega
        clear hc hcell r0 r1 r2 hlt h23 hin hi23 hdk
        have HG : Hid (w.heap.size + 3 ≤ g) := by obtain ⟨g9, c9, he, hg9⟩ := own_pos HO.out; simp only [Value.slice.injEq, Option.some.injEq, Addr.mk.injEq] at he; have := he.1.1; show _ ≤ _; omega
        have HDX : Hid (0 ≤ d.x ∧ d.x ≤ 4095 ∧ 0 ≤ d.y ∧ d.y ≤ 4095 ∧ 0 ≤ d.t) := Lib.hid ⟨HDK.out.1.1, HDK.out.1.2.1, HDK.out.1.2.2.1, HDK.out.1.2.2.2, HDK.out.2.1.1⟩
        go_upto_region 7 with fail
        go_cut [] from 42 to 53 (fun wx => ∃ x' : Int, (0 ≤ x' ∧ x' ≤ 4095) ∧ Blk wx w.heap.size 26 #[.int .i64 0, .int .i64 0, .slice none 0 0] ∧ Blk wx (w.heap.size + 1) 26 #[.int .i64 (k1 : Nat), .int .i64 (1 + (k2 : Nat)), .slice (some ⟨g, 0, none⟩) (i + 1) cc] ∧ Blk wx (w.heap.size + 2) 69 #[.int .i64 x', .int .i64 d.y, .int .i64 d.t, .int .i64 d.p] ∧ wx.ownsRow (w.heap.size + 3) 69 4 (.slice (some ⟨g, 0, none⟩) (i + 1) cc) (i + 1) (flat (ds ++ [d])) ∧ Below w.heap.size w wx)
        case first =>
          have hdk := HDX.out; have hdt := HDT.out
          have HWR : Hid (Below w.heap.size w wr.drew) := Lib.hid HB.out.drew
          refine wp_region_goes (Sp := fun _ => True) (Se := (fun w' => w'.cell? ⟨w.heap.size + 2, 0, none⟩ = some (.int .i64 d.x) ∧ w'.cell? ⟨b, o + i * 3, none⟩ = some (.int .i64 u0))) (Z := (([13] : List Nat).contains ·)) (by kernel_rfl) ?_
          have hw : Holds (fun _ => True) (fun w' => w'.cell? ⟨w.heap.size + 2, 0, none⟩ = some (.int .i64 d.x) ∧ w'.cell? ⟨b, o + i * 3, none⟩ = some (.int .i64 u0)) (([13] : List Nat).contains ·) (Array.replicate 14 false) wr.drew := ⟨trivial, fun _ => ⟨HD.out.cell (i := 0) (v := .int .i64 d.x) rfl, (HC.out _ HWR.out).1⟩⟩
          refine goes_take (t := [(13, [0, 1, 2, 3, 4, 5, 6, 7, 8, 9, 10, 11, 12])]) (es := [1, 6]) (zs := [13]) 0 (some 42) ?_ (by kernel_rfl) rfl rfl (by kernel_rfl) (fun _ _ _ h => h) (by kernel_rfl) ?_ hw (fun hw2 => ?_)
          rotate_left
          · intro wS hS; clear hS; go_simp <;> with_reducible rfl
          clear hw; have hw := hw2; clear hw2
          try simp only [Act.put, List.setIfInBounds_toArray, List.set_cons_zero, List.set_cons_succ]
          refine goes_take (t := [(13, [0, 1, 2, 3, 4, 5, 6, 7, 8, 9, 10, 11, 12])]) (es := [1, 6]) (zs := [13]) 1 (some 43) ?_ (by kernel_rfl) rfl rfl (by kernel_rfl) (fun _ _ _ h => h) (by kernel_rfl) ?_ hw (fun hw2 => ?_)
          rotate_left
          · intro wS hS; have hE := hS.2 rfl; clear hS; (try dsimp only at hE); go_simp <;> with_reducible rfl
          clear hw; have hw := hw2; clear hw2
          try simp only [Act.put, List.setIfInBounds_toArray, List.set_cons_zero, List.set_cons_succ]
          refine goes_take (t := [(13, [0, 1, 2, 3, 4, 5, 6, 7, 8, 9, 10, 11, 12])]) (es := [1, 6]) (zs := [13]) 2 (some 44) ?_ (by kernel_rfl) rfl rfl (by kernel_rfl) (fun _ _ _ h => h) (by kernel_rfl) ?_ hw (fun hw2 => ?_)
          rotate_left
          · intro wS hS; clear hS; go_simp <;> with_reducible rfl
          clear hw; have hw := hw2; clear hw2
          try simp only [Act.put, List.setIfInBounds_toArray, List.set_cons_zero, List.set_cons_succ]
          refine goes_take (t := [(13, [0, 1, 2, 3, 4, 5, 6, 7, 8, 9, 10, 11, 12])]) (es := [1, 6]) (zs := [13]) 3 (some 45) ?_ (by kernel_rfl) rfl rfl (by kernel_rfl) (fun _ _ _ h => h) (by kernel_rfl) ?_ hw (fun hw2 => ?_)
          rotate_left
          · intro wS hS; clear hS; go_simp <;> with_reducible rfl
          clear hw; have hw := hw2; clear hw2
          try simp only [Act.put, List.setIfInBounds_toArray, List.set_cons_zero, List.set_cons_succ]
          refine goes_take (t := [(13, [0, 1, 2, 3, 4, 5, 6, 7, 8, 9, 10, 11, 12])]) (es := [1, 6]) (zs := [13]) 4 (some 46) ?_ (by kernel_rfl) rfl rfl (by kernel_rfl) (fun _ _ _ h => h) (by kernel_rfl) ?_ hw (fun hw2 => ?_)
          rotate_left
          · intro wS hS; clear hS; go_simp <;> with_reducible rfl
          clear hw; have hw := hw2; clear hw2
          try simp only [Act.put, List.setIfInBounds_toArray, List.set_cons_zero, List.set_cons_succ]
          refine goes_take (t := [(13, [0, 1, 2, 3, 4, 5, 6, 7, 8, 9, 10, 11, 12])]) (es := [1, 6]) (zs := [13]) 5 (some 47) ?_ (by kernel_rfl) rfl rfl (by kernel_rfl) (fun _ _ _ h => h) (by kernel_rfl) ?_ hw (fun hw2 => ?_)
          rotate_left
          · intro wS hS; clear hS; go_simp <;> with_reducible rfl
          clear hw; have hw := hw2; clear hw2
          try simp only [Act.put, List.setIfInBounds_toArray, List.set_cons_zero, List.set_cons_succ]
          refine goes_take (t := [(13, [0, 1, 2, 3, 4, 5, 6, 7, 8, 9, 10, 11, 12])]) (es := [1, 6]) (zs := [13]) 6 (some 48) ?_ (by kernel_rfl) rfl rfl (by kernel_rfl) (fun _ _ _ h => h) (by kernel_rfl) ?_ hw (fun hw2 => ?_)
          rotate_left
          · intro wS hS; have hE := hS.2 rfl; clear hS; (try dsimp only at hE); go_simp <;> with_reducible rfl
          clear hw; have hw := hw2; clear hw2
          try simp only [Act.put, List.setIfInBounds_toArray, List.set_cons_zero, List.set_cons_succ]
          refine goes_call 7 (some 49) 70 [.tmp 48, .const (Go.Value.int Go.IntKind.i64 401)] #[3, 3] rfl rfl (by kernel_rfl) (by kernel_rfl) rfl (enters_of Tryd.func70 (by kernel_rfl) rfl) (HQ0.out _) (by kernel_rfl) ?_
          rintro e wq ⟨k, hk, rfl, rfl⟩
          have a1 : IntKind.i64.wrap (d.x + (k : Nat)) = d.x + (k : Nat) := IntWalk.i64_in _ (by omega)
          have a2 : IntKind.i64.wrap (d.x + (k : Nat) - 200) = d.x + (k : Nat) - 200 := IntWalk.i64_in _ (by omega)
          refine ⟨_, rfl, ⟨trivial, fun _ => ⟨HD.out.cell (i := 0) (v := .int .i64 d.x) rfl, (HC.out _ HWR.out).1⟩⟩, fun hw2 => ?_⟩
          clear hw; have hw := hw2; clear hw2
          try simp only [Act.put, List.setIfInBounds_toArray, List.set_cons_zero, List.set_cons_succ]
          refine goes_take (t := [(13, [0, 1, 2, 3, 4, 5, 6, 7, 8, 9, 10, 11, 12])]) (es := [1, 6]) (zs := [13]) 8 (some 50) ?_ (by kernel_rfl) rfl rfl (by kernel_rfl) (fun _ _ _ h => h) (by kernel_rfl) ?_ hw (fun hw2 => ?_)
          rotate_left
          · intro wS hS; clear hS; go_simp <;> with_reducible rfl
          clear hw; have hw := hw2; clear hw2
          try simp only [Act.put, List.setIfInBounds_toArray, List.set_cons_zero, List.set_cons_succ]
          refine goes_take (t := [(13, [0, 1, 2, 3, 4, 5, 6, 7, 8, 9, 10, 11, 12])]) (es := [1, 6]) (zs := [13]) 9 (some 51) ?_ (by kernel_rfl) rfl rfl (by kernel_rfl) (fun _ _ _ h => h) (by kernel_rfl) ?_ hw (fun hw2 => ?_)
          rotate_left
          · intro wS hS; clear hS; go_simp <;> with_reducible rfl
          clear hw; have hw := hw2; clear hw2
          try simp only [Act.put, List.setIfInBounds_toArray, List.set_cons_zero, List.set_cons_succ]
          refine goes_take (t := [(13, [0, 1, 2, 3, 4, 5, 6, 7, 8, 9, 10, 11, 12])]) (es := [1, 6]) (zs := [13]) 10 (some 52) ?_ (by kernel_rfl) rfl rfl (by kernel_rfl) (fun _ _ _ h => h) (by kernel_rfl) ?_ hw (fun hw2 => ?_)
          rotate_left
          · intro wS hS; clear hS; go_simp <;> with_reducible rfl
          clear hw; have hw := hw2; clear hw2
          try simp only [Act.put, List.setIfInBounds_toArray, List.set_cons_zero, List.set_cons_succ]
          refine goes_take (t := [(13, [0, 1, 2, 3, 4, 5, 6, 7, 8, 9, 10, 11, 12])]) (es := [1, 6]) (zs := [13]) 11 (some 53) ?_ (by kernel_rfl) rfl rfl (by kernel_rfl) (fun _ _ _ h => h) (by kernel_rfl) ?_ hw (fun hw2 => ?_)
          rotate_left
          · intro wS hS; clear hS; go_simp <;> with_reducible rfl
          clear hw; have hw := hw2; clear hw2
          try simp only [Act.put, List.setIfInBounds_toArray, List.set_cons_zero, List.set_cons_succ]
          refine goes_take (t := [(13, [0, 1, 2, 3, 4, 5, 6, 7, 8, 9, 10, 11, 12])]) (es := [1, 6]) (zs := [13]) 12 (some 54) ?_ (by kernel_rfl) rfl rfl (by kernel_rfl) (fun _ _ _ h => h) (by kernel_rfl) ?_ hw (fun hw2 => ?_)
          rotate_left
          · intro wS hS; clear hS; go_simp <;> with_reducible rfl
          clear hw; have hw := hw2; clear hw2
          try simp only [Act.put, List.setIfInBounds_toArray, List.set_cons_zero, List.set_cons_succ]
          refine goes_late 13 rfl (by kernel_rfl) (by kernel_rfl) (by kernel_rfl) (fun _ => trivial) (fun K hK => ?_)
          have y0 := HD.out.drew.cell (i := 0) (v := .int .i64 d.x) rfl; have y1 := HD.out.drew.frozen 0
          go_simp
          refine hK.out _ _ ?_
          clear hK K
          try simp only [Act.put, List.setIfInBounds_toArray, List.set_cons_zero, List.set_cons_succ]
          refine Goes.done (by kernel_rfl) ?_ _
          go_wp2_with fail
          all_goals
            go_meet
            exact ⟨_, by omega, (HR.out.far (p := ⟨w.heap.size + 2, 0, none⟩) (by show w.heap.size ≠ w.heap.size + 2; omega) _), (HS.out.far (p := ⟨w.heap.size + 2, 0, none⟩) (by show w.heap.size + 1 ≠ w.heap.size + 2; omega) _), (HD.out.set 0 _), (own_far (p := ⟨w.heap.size + 2, 0, none⟩) HO.out (by have := HG.out; simp only [Value.ownBlock, ne_eq, Option.some.injEq]; omega) _), (HB.out.setCell (p := ⟨w.heap.size + 2, 0, none⟩) (by show w.heap.size ≤ w.heap.size + 2; omega) _).drew⟩
        case rest =>
          obtain ⟨x', hx, hR, hS, hD, hO, hB⟩ := hcut
          rename World => wX
          have HX2 := Lib.hid hx
          clear HR HS HD HO HB hx
          have HR := Lib.hid hR; have HS := Lib.hid hS; have HD := Lib.hid hD; have HO := Lib.hid hO; have HB := Lib.hid hB
          clear hR hS hD hO hB
          go_upto_region 8 with fail
          go_cut [] from 55 to 66 (fun wx => ∃ y' : Int, (0 ≤ y' ∧ y' ≤ 4095) ∧ Blk wx w.heap.size 26 #[.int .i64 0, .int .i64 0, .slice none 0 0] ∧ Blk wx (w.heap.size + 1) 26 #[.int .i64 (k1 : Nat), .int .i64 (1 + (k2 : Nat)), .slice (some ⟨g, 0, none⟩) (i + 1) cc] ∧ Blk wx (w.heap.size + 2) 69 #[.int .i64 x', .int .i64 y', .int .i64 d.t, .int .i64 d.p] ∧ wx.ownsRow (w.heap.size + 3) 69 4 (.slice (some ⟨g, 0, none⟩) (i + 1) cc) (i + 1) (flat (ds ++ [d])) ∧ Below w.heap.size w wx)
          case first =>
            have hdk := HDX.out; have hdt := HDT.out
            have HWR : Hid (Below w.heap.size w wX.drew) := Lib.hid HB.out.drew
            refine wp_region_goes (Sp := fun _ => True) (Se := (fun w' => w'.cell? ⟨w.heap.size + 2, 1, none⟩ = some (.int .i64 d.y) ∧ w'.cell? ⟨b, o + i * 3 + 1, none⟩ = some (.int .i64 u1))) (Z := (([13] : List Nat).contains ·)) (by kernel_rfl) ?_
            have hw : Holds (fun _ => True) (fun w' => w'.cell? ⟨w.heap.size + 2, 1, none⟩ = some (.int .i64 d.y) ∧ w'.cell? ⟨b, o + i * 3 + 1, none⟩ = some (.int .i64 u1)) (([13] : List Nat).contains ·) (Array.replicate 14 false) wX.drew := ⟨trivial, fun _ => ⟨HD.out.cell (i := 1) (v := .int .i64 d.y) rfl, (HC.out _ HWR.out).2.1⟩⟩
            refine goes_take (t := [(13, [0, 1, 2, 3, 4, 5, 6, 7, 8, 9, 10, 11, 12])]) (es := [1, 6]) (zs := [13]) 0 (some 55) ?_ (by kernel_rfl) rfl rfl (by kernel_rfl) (fun _ _ _ h => h) (by kernel_rfl) ?_ hw (fun hw2 => ?_)
            rotate_left
            · intro wS hS; clear hS; go_simp <;> with_reducible rfl
            clear hw; have hw := hw2; clear hw2
            try simp only [Act.put, List.setIfInBounds_toArray, List.set_cons_zero, List.set_cons_succ]
            refine goes_take (t := [(13, [0, 1, 2, 3, 4, 5, 6, 7, 8, 9, 10, 11, 12])]) (es := [1, 6]) (zs := [13]) 1 (some 56) ?_ (by kernel_rfl) rfl rfl (by kernel_rfl) (fun _ _ _ h => h) (by kernel_rfl) ?_ hw (fun hw2 => ?_)
            rotate_left
            · intro wS hS; have hE := hS.2 rfl; clear hS; (try dsimp only at hE); go_simp <;> with_reducible rfl
            clear hw; have hw := hw2; clear hw2
            try simp only [Act.put, List.setIfInBounds_toArray, List.set_cons_zero, List.set_cons_succ]
            refine goes_take (t := [(13, [0, 1, 2, 3, 4, 5, 6, 7, 8, 9, 10, 11, 12])]) (es := [1, 6]) (zs := [13]) 2 (some 57) ?_ (by kernel_rfl) rfl rfl (by kernel_rfl) (fun _ _ _ h => h) (by kernel_rfl) ?_ hw (fun hw2 => ?_)
            rotate_left
            · intro wS hS; clear hS; go_simp <;> with_reducible rfl
            clear hw; have hw := hw2; clear hw2
            try simp only [Act.put, List.setIfInBounds_toArray, List.set_cons_zero, List.set_cons_succ]
            refine goes_take (t := [(13, [0, 1, 2, 3, 4, 5, 6, 7, 8, 9, 10, 11, 12])]) (es := [1, 6]) (zs := [13]) 3 (some 58) ?_ (by kernel_rfl) rfl rfl (by kernel_rfl) (fun _ _ _ h => h) (by kernel_rfl) ?_ hw (fun hw2 => ?_)
            rotate_left
            · intro wS hS; clear hS; go_simp <;> with_reducible rfl
            clear hw; have hw := hw2; clear hw2
            try simp only [Act.put, List.setIfInBounds_toArray, List.set_cons_zero, List.set_cons_succ]
            refine goes_take (t := [(13, [0, 1, 2, 3, 4, 5, 6, 7, 8, 9, 10, 11, 12])]) (es := [1, 6]) (zs := [13]) 4 (some 59) ?_ (by kernel_rfl) rfl rfl (by kernel_rfl) (fun _ _ _ h => h) (by kernel_rfl) ?_ hw (fun hw2 => ?_)
            rotate_left
            · intro wS hS; clear hS; go_simp <;> with_reducible rfl
            clear hw; have hw := hw2; clear hw2
            try simp only [Act.put, List.setIfInBounds_toArray, List.set_cons_zero, List.set_cons_succ]
            refine goes_take (t := [(13, [0, 1, 2, 3, 4, 5, 6, 7, 8, 9, 10, 11, 12])]) (es := [1, 6]) (zs := [13]) 5 (some 60) ?_ (by kernel_rfl) rfl rfl (by kernel_rfl) (fun _ _ _ h => h) (by kernel_rfl) ?_ hw (fun hw2 => ?_)
            rotate_left
            · intro wS hS; clear hS; go_simp <;> with_reducible rfl
            clear hw; have hw := hw2; clear hw2
            try simp only [Act.put, List.setIfInBounds_toArray, List.set_cons_zero, List.set_cons_succ]
            refine goes_take (t := [(13, [0, 1, 2, 3, 4, 5, 6, 7, 8, 9, 10, 11, 12])]) (es := [1, 6]) (zs := [13]) 6 (some 61) ?_ (by kernel_rfl) rfl rfl (by kernel_rfl) (fun _ _ _ h => h) (by kernel_rfl) ?_ hw (fun hw2 => ?_)
            rotate_left
            · intro wS hS; have hE := hS.2 rfl; clear hS; (try dsimp only at hE); go_simp <;> with_reducible rfl
            clear hw; have hw := hw2; clear hw2
            try simp only [Act.put, List.setIfInBounds_toArray, List.set_cons_zero, List.set_cons_succ]
            refine goes_call 7 (some 62) 70 [.tmp 61, .const (Go.Value.int Go.IntKind.i64 401)] #[3, 3] rfl rfl (by kernel_rfl) (by kernel_rfl) rfl (enters_of Tryd.func70 (by kernel_rfl) rfl) (HQ1.out _) (by kernel_rfl) ?_
            rintro e wq ⟨k, hk, rfl, rfl⟩
            have a1 : IntKind.i64.wrap (d.y + (k : Nat)) = d.y + (k : Nat) := IntWalk.i64_in _ (by omega)
            have a2 : IntKind.i64.wrap (d.y + (k : Nat) - 200) = d.y + (k : Nat) - 200 := IntWalk.i64_in _ (by omega)
            refine ⟨_, rfl, ⟨trivial, fun _ => ⟨HD.out.cell (i := 1) (v := .int .i64 d.y) rfl, (HC.out _ HWR.out).2.1⟩⟩, fun hw2 => ?_⟩
            clear hw; have hw := hw2; clear hw2
            try simp only [Act.put, List.setIfInBounds_toArray, List.set_cons_zero, List.set_cons_succ]
            refine goes_take (t := [(13, [0, 1, 2, 3, 4, 5, 6, 7, 8, 9, 10, 11, 12])]) (es := [1, 6]) (zs := [13]) 8 (some 63) ?_ (by kernel_rfl) rfl rfl (by kernel_rfl) (fun _ _ _ h => h) (by kernel_rfl) ?_ hw (fun hw2 => ?_)
            rotate_left
            · intro wS hS; clear hS; go_simp <;> with_reducible rfl
            clear hw; have hw := hw2; clear hw2
            try simp only [Act.put, List.setIfInBounds_toArray, List.set_cons_zero, List.set_cons_succ]
            refine goes_take (t := [(13, [0, 1, 2, 3, 4, 5, 6, 7, 8, 9, 10, 11, 12])]) (es := [1, 6]) (zs := [13]) 9 (some 64) ?_ (by kernel_rfl) rfl rfl (by kernel_rfl) (fun _ _ _ h => h) (by kernel_rfl) ?_ hw (fun hw2 => ?_)
            rotate_left
            · intro wS hS; clear hS; go_simp <;> with_reducible rfl
            clear hw; have hw := hw2; clear hw2
            try simp only [Act.put, List.setIfInBounds_toArray, List.set_cons_zero, List.set_cons_succ]
            refine goes_take (t := [(13, [0, 1, 2, 3, 4, 5, 6, 7, 8, 9, 10, 11, 12])]) (es := [1, 6]) (zs := [13]) 10 (some 65) ?_ (by kernel_rfl) rfl rfl (by kernel_rfl) (fun _ _ _ h => h) (by kernel_rfl) ?_ hw (fun hw2 => ?_)
            rotate_left
            · intro wS hS; clear hS; go_simp <;> with_reducible rfl
            clear hw; have hw := hw2; clear hw2
            try simp only [Act.put, List.setIfInBounds_toArray, List.set_cons_zero, List.set_cons_succ]
            refine goes_take (t := [(13, [0, 1, 2, 3, 4, 5, 6, 7, 8, 9, 10, 11, 12])]) (es := [1, 6]) (zs := [13]) 11 (some 66) ?_ (by kernel_rfl) rfl rfl (by kernel_rfl) (fun _ _ _ h => h) (by kernel_rfl) ?_ hw (fun hw2 => ?_)
            rotate_left
            · intro wS hS; clear hS; go_simp <;> with_reducible rfl
            clear hw; have hw := hw2; clear hw2
            try simp only [Act.put, List.setIfInBounds_toArray, List.set_cons_zero, List.set_cons_succ]
            refine goes_take (t := [(13, [0, 1, 2, 3, 4, 5, 6, 7, 8, 9, 10, 11, 12])]) (es := [1, 6]) (zs := [13]) 12 (some 67) ?_ (by kernel_rfl) rfl rfl (by kernel_rfl) (fun _ _ _ h => h) (by kernel_rfl) ?_ hw (fun hw2 => ?_)
            rotate_left
            · intro wS hS; clear hS; go_simp <;> with_reducible rfl
            clear hw; have hw := hw2; clear hw2
            try simp only [Act.put, List.setIfInBounds_toArray, List.set_cons_zero, List.set_cons_succ]
            refine goes_late 13 rfl (by kernel_rfl) (by kernel_rfl) (by kernel_rfl) (fun _ => trivial) (fun K hK => ?_)
            have y0 := HD.out.drew.cell (i := 1) (v := .int .i64 d.y) rfl; have y1 := HD.out.drew.frozen 1
            go_simp
            refine hK.out _ _ ?_
            clear hK K
            try simp only [Act.put, List.setIfInBounds_toArray, List.set_cons_zero, List.set_cons_succ]
            refine Goes.done (by kernel_rfl) ?_ _
            go_wp2_with fail
            all_goals
              go_meet
              exact ⟨_, by omega, (HR.out.far (p := ⟨w.heap.size + 2, 1, none⟩) (by show w.heap.size ≠ w.heap.size + 2; omega) _), (HS.out.far (p := ⟨w.heap.size + 2, 1, none⟩) (by show w.heap.size + 1 ≠ w.heap.size + 2; omega) _), (HD.out.set 1 _), (own_far (p := ⟨w.heap.size + 2, 1, none⟩) HO.out (by have := HG.out; simp only [Value.ownBlock, ne_eq, Option.some.injEq]; omega) _), (HB.out.setCell (p := ⟨w.heap.size + 2, 1, none⟩) (by show w.heap.size ≤ w.heap.size + 2; omega) _).drew⟩
          case rest =>
            obtain ⟨y', hy, hR, hS, hD, hO, hB⟩ := hcut
            rename World => wY
            have HY2 := Lib.hid hy
            clear HR HS HD HO HB hy
            have HR := Lib.hid hR; have HS := Lib.hid hS; have HD := Lib.hid hD; have HO := Lib.hid hO; have HB := Lib.hid hB
            clear hR hS hD hO hB
            go_upto_region 9 with fail
            go_cut [] from 68 to 76 (fun wx => ∃ t' : Int, (d.t ≤ t' ∧ t' ≤ 499 + 49 * ((i : Int) + 1)) ∧ Blk wx w.heap.size 26 #[.int .i64 0, .int .i64 0, .slice none 0 0] ∧ Blk wx (w.heap.size + 1) 26 #[.int .i64 (k1 : Nat), .int .i64 (1 + (k2 : Nat)), .slice (some ⟨g, 0, none⟩) (i + 1) cc] ∧ Blk wx (w.heap.size + 2) 69 #[.int .i64 x', .int .i64 y', .int .i64 t', .int .i64 d.p] ∧ wx.ownsRow (w.heap.size + 3) 69 4 (.slice (some ⟨g, 0, none⟩) (i + 1) cc) (i + 1) (flat (ds ++ [d])) ∧ Below w.heap.size w wx)
            case first =>
              have hdk := HDX.out; have hdt := HDT.out
              have HWR : Hid (Below w.heap.size w wY.drew) := Lib.hid HB.out.drew
              refine wp_region_goes (Sp := fun _ => True) (Se := (fun w' => w'.cell? ⟨w.heap.size + 2, 2, none⟩ = some (.int .i64 d.t) ∧ w'.cell? ⟨b, o + i * 3 + 2, none⟩ = some (.int .i64 u2))) (Z := (([10] : List Nat).contains ·)) (by kernel_rfl) ?_
              have hw : Holds (fun _ => True) (fun w' => w'.cell? ⟨w.heap.size + 2, 2, none⟩ = some (.int .i64 d.t) ∧ w'.cell? ⟨b, o + i * 3 + 2, none⟩ = some (.int .i64 u2)) (([10] : List Nat).contains ·) (Array.replicate 11 false) wY.drew := ⟨trivial, fun _ => ⟨HD.out.cell (i := 2) (v := .int .i64 d.t) rfl, (HC.out _ HWR.out).2.2⟩⟩
              refine goes_take (t := [(10, [0, 1, 2, 3, 4, 5, 6, 7, 8, 9])]) (es := [1, 6]) (zs := [10]) 0 (some 68) ?_ (by kernel_rfl) rfl rfl (by kernel_rfl) (fun _ _ _ h => h) (by kernel_rfl) ?_ hw (fun hw2 => ?_)
              rotate_left
              · intro wS hS; clear hS; go_simp <;> with_reducible rfl
              clear hw; have hw := hw2; clear hw2
              try simp only [Act.put, List.setIfInBounds_toArray, List.set_cons_zero, List.set_cons_succ]
              refine goes_take (t := [(10, [0, 1, 2, 3, 4, 5, 6, 7, 8, 9])]) (es := [1, 6]) (zs := [10]) 1 (some 69) ?_ (by kernel_rfl) rfl rfl (by kernel_rfl) (fun _ _ _ h => h) (by kernel_rfl) ?_ hw (fun hw2 => ?_)
              rotate_left
              · intro wS hS; have hE := hS.2 rfl; clear hS; (try dsimp only at hE); go_simp <;> with_reducible rfl
              clear hw; have hw := hw2; clear hw2
              try simp only [Act.put, List.setIfInBounds_toArray, List.set_cons_zero, List.set_cons_succ]
              refine goes_take (t := [(10, [0, 1, 2, 3, 4, 5, 6, 7, 8, 9])]) (es := [1, 6]) (zs := [10]) 2 (some 70) ?_ (by kernel_rfl) rfl rfl (by kernel_rfl) (fun _ _ _ h => h) (by kernel_rfl) ?_ hw (fun hw2 => ?_)
              rotate_left
              · intro wS hS; clear hS; go_simp <;> with_reducible rfl
              clear hw; have hw := hw2; clear hw2
              try simp only [Act.put, List.setIfInBounds_toArray, List.set_cons_zero, List.set_cons_succ]
              refine goes_take (t := [(10, [0, 1, 2, 3, 4, 5, 6, 7, 8, 9])]) (es := [1, 6]) (zs := [10]) 3 (some 71) ?_ (by kernel_rfl) rfl rfl (by kernel_rfl) (fun _ _ _ h => h) (by kernel_rfl) ?_ hw (fun hw2 => ?_)
              rotate_left
              · intro wS hS; clear hS; go_simp <;> with_reducible rfl
              clear hw; have hw := hw2; clear hw2
              try simp only [Act.put, List.setIfInBounds_toArray, List.set_cons_zero, List.set_cons_succ]
              refine goes_take (t := [(10, [0, 1, 2, 3, 4, 5, 6, 7, 8, 9])]) (es := [1, 6]) (zs := [10]) 4 (some 72) ?_ (by kernel_rfl) rfl rfl (by kernel_rfl) (fun _ _ _ h => h) (by kernel_rfl) ?_ hw (fun hw2 => ?_)
              rotate_left
              · intro wS hS; clear hS; go_simp <;> with_reducible rfl
              clear hw; have hw := hw2; clear hw2
              try simp only [Act.put, List.setIfInBounds_toArray, List.set_cons_zero, List.set_cons_succ]
              refine goes_take (t := [(10, [0, 1, 2, 3, 4, 5, 6, 7, 8, 9])]) (es := [1, 6]) (zs := [10]) 5 (some 73) ?_ (by kernel_rfl) rfl rfl (by kernel_rfl) (fun _ _ _ h => h) (by kernel_rfl) ?_ hw (fun hw2 => ?_)
              rotate_left
              · intro wS hS; clear hS; go_simp <;> with_reducible rfl
              clear hw; have hw := hw2; clear hw2
              try simp only [Act.put, List.setIfInBounds_toArray, List.set_cons_zero, List.set_cons_succ]
              refine goes_take (t := [(10, [0, 1, 2, 3, 4, 5, 6, 7, 8, 9])]) (es := [1, 6]) (zs := [10]) 6 (some 74) ?_ (by kernel_rfl) rfl rfl (by kernel_rfl) (fun _ _ _ h => h) (by kernel_rfl) ?_ hw (fun hw2 => ?_)
              rotate_left
              · intro wS hS; have hE := hS.2 rfl; clear hS; (try dsimp only at hE); go_simp <;> with_reducible rfl
              clear hw; have hw := hw2; clear hw2
              try simp only [Act.put, List.setIfInBounds_toArray, List.set_cons_zero, List.set_cons_succ]
              refine goes_call 7 (some 75) 70 [.tmp 74, .const (Go.Value.int Go.IntKind.i64 50)] #[3, 3] rfl rfl (by kernel_rfl) (by kernel_rfl) rfl (enters_of Tryd.func70 (by kernel_rfl) rfl) (HQ2.out _) (by kernel_rfl) ?_
              rintro e wq ⟨k, hk, rfl, rfl⟩
              have a1 : IntKind.i64.wrap (d.t + (k : Nat)) = d.t + (k : Nat) := IntWalk.i64_in _ (by omega)
              refine ⟨_, rfl, ⟨trivial, fun _ => ⟨HD.out.cell (i := 2) (v := .int .i64 d.t) rfl, (HC.out _ HWR.out).2.2⟩⟩, fun hw2 => ?_⟩
              clear hw; have hw := hw2; clear hw2
              try simp only [Act.put, List.setIfInBounds_toArray, List.set_cons_zero, List.set_cons_succ]
              refine goes_take (t := [(10, [0, 1, 2, 3, 4, 5, 6, 7, 8, 9])]) (es := [1, 6]) (zs := [10]) 8 (some 76) ?_ (by kernel_rfl) rfl rfl (by kernel_rfl) (fun _ _ _ h => h) (by kernel_rfl) ?_ hw (fun hw2 => ?_)
              rotate_left
              · intro wS hS; clear hS; go_simp <;> with_reducible rfl
              clear hw; have hw := hw2; clear hw2
              try simp only [Act.put, List.setIfInBounds_toArray, List.set_cons_zero, List.set_cons_succ]
              refine goes_take (t := [(10, [0, 1, 2, 3, 4, 5, 6, 7, 8, 9])]) (es := [1, 6]) (zs := [10]) 9 (some 77) ?_ (by kernel_rfl) rfl rfl (by kernel_rfl) (fun _ _ _ h => h) (by kernel_rfl) ?_ hw (fun hw2 => ?_)
              rotate_left
              · intro wS hS; clear hS; go_simp <;> with_reducible rfl
              clear hw; have hw := hw2; clear hw2
              try simp only [Act.put, List.setIfInBounds_toArray, List.set_cons_zero, List.set_cons_succ]
              refine goes_late 10 rfl (by kernel_rfl) (by kernel_rfl) (by kernel_rfl) (fun _ => trivial) (fun K hK => ?_)
              have y0 := HD.out.drew.cell (i := 2) (v := .int .i64 d.t) rfl; have y1 := HD.out.drew.frozen 2
              go_simp
              refine hK.out _ _ ?_
              clear hK K
              try simp only [Act.put, List.setIfInBounds_toArray, List.set_cons_zero, List.set_cons_succ]
              refine Goes.done (by kernel_rfl) ?_ _
              go_wp2_with fail
              all_goals
                go_meet
                exact ⟨_, by omega, (HR.out.far (p := ⟨w.heap.size + 2, 2, none⟩) (by show w.heap.size ≠ w.heap.size + 2; omega) _), (HS.out.far (p := ⟨w.heap.size + 2, 2, none⟩) (by show w.heap.size + 1 ≠ w.heap.size + 2; omega) _), (HD.out.set 2 _), (own_far (p := ⟨w.heap.size + 2, 2, none⟩) HO.out (by have := HG.out; simp only [Value.ownBlock, ne_eq, Option.some.injEq]; omega) _), (HB.out.setCell (p := ⟨w.heap.size + 2, 2, none⟩) (by show w.heap.size ≤ w.heap.size + 2; omega) _).drew⟩
            case rest =>
              obtain ⟨t', ht, hR, hS, hD, hO, hB⟩ := hcut
              rename World => wT
              have HT2 := Lib.hid ht
              clear HR HS HD HO HB ht
              have HR := Lib.hid hR; have HS := Lib.hid hS; have HD := Lib.hid hD; have HO := Lib.hid hO; have HB := Lib.hid hB
              clear hR hS hD hO hB
              have hcc := HC.out wT HB.out
              obtain ⟨e0, e1, e2⟩ := hcc
              go_wp2_with fail
              refine (HQ3.out _).mono ?_
              rintro e w1 ⟨k6, hk6, rfl, rfl⟩
              clear e0 e1 e2
              have hx := HX2.out; have hy := HY2.out; have ht := HT2.out; have hdx := HDX.out; have hi := HI.out
              have hok : Dt.ok ⟨x', y', t', (k6 : Nat)⟩ := by unfold Dt.ok; simp only; omega
              have HMD2 : Hid (MadeD (ds ++ [d] ++ [⟨x', y', t', (k6 : Nat)⟩])) := Lib.hid (HMD.out.snoc hok ht.1)
              clear hk6 hx hy ht hdx hi hok
              have y0 := HD.out.cell (i := 3) (v := .int .i64 d.p) rfl; have y1 := HD.out.frozen 3
              have HD3 := Lib.hid (HD.out.set 3 (.int .i64 (k6 : Nat)))
              have HS3 := Lib.hid (HS.out.far (p := ⟨w.heap.size + 2, 3, none⟩) (by show w.heap.size + 1 ≠ w.heap.size + 2; omega) (.int .i64 (k6 : Nat)))
              have HR3 := Lib.hid (HR.out.far (p := ⟨w.heap.size + 2, 3, none⟩) (by show w.heap.size ≠ w.heap.size + 2; omega) (.int .i64 (k6 : Nat)))
              have HO3 := Lib.hid (own_far (p := ⟨w.heap.size + 2, 3, none⟩) HO.out (by have := HG.out; simp only [Value.ownBlock, ne_eq, Option.some.injEq]; omega) (.int .i64 (k6 : Nat)))
              have HB3 := Lib.hid (HB.out.setCell (p := ⟨w.heap.size + 2, 3, none⟩) (by show w.heap.size ≤ w.heap.size + 2; omega) (.int .i64 (k6 : Nat)))
              have HN : Hid (Blk ((wT.setCell ⟨w.heap.size + 2, 3, none⟩ (.int .i64 (k6 : Nat))).alloc (.cells #[.int .i64 x', .int .i64 y', .int .i64 t', .int .i64 (k6 : Nat)] 69)) wT.heap.size 69 #[.int .i64 x', .int .i64 y', .int .i64 t', .int .i64 (k6 : Nat)]) := by have h := Blk.new (wT.setCell ⟨w.heap.size + 2, 3, none⟩ (.int .i64 (k6 : Nat))) 69 #[.int .i64 x', .int .i64 y', .int .i64 t', .int .i64 (k6 : Nat)]; exact Lib.hid (by simpa using h)
              have HSZ : Hid (w.heap.size + 3 ≤ wT.heap.size) := Lib.hid HD.out.lt
              have z0 := HS3.out.cell (i := 2) (v := .slice (some ⟨g, 0, none⟩) (i + 1) cc) rfl
              have z1 := HD3.out.cell (i := 0) (v := .int .i64 x') rfl; have z2 := HD3.out.cell (i := 1) (v := .int .i64 y') rfl; have z3 := HD3.out.cell (i := 2) (v := .int .i64 t') rfl; have z4 := HD3.out.cell (i := 3) (v := .int .i64 (k6 : Nat)) rfl
              have HI2 : Hid (i + 1 ≤ 1000000) := Lib.hid (by have := HI.out; omega)
              go_wp2_with (at_builtin; go_loud (refine wpList_append_dot rfl _ _ rfl (w.heap.size + 3) (.slice (some ⟨g, 0, none⟩) (i + 1) cc) (i + 1) (ds ++ [d]) rfl (HO3.out.alloc _) wT.heap.size ⟨x', y', t', (k6 : Nat)⟩ rfl HN.out HI2.out (by have := HSZ.out; simp; omega) ?_; intro v2 w2 hown2 hgrow2; obtain ⟨g2, c2, rfl, hg2⟩ := own_pos hown2; have HG2 := Lib.hid hg2; have HO4 := Lib.hid hown2; have HS4 := Lib.hid ((HS3.out.alloc _).only hgrow2 (by have := HG.out; simp [Value.ownBlock]; omega)); have HR4 := Lib.hid ((HR3.out.alloc _).only hgrow2 (by have := HG.out; simp [Value.ownBlock]; omega)); have HD4 := Lib.hid ((HD3.out.alloc _).only hgrow2 (by have := HG.out; simp [Value.ownBlock]; omega)); have HB4 := Lib.hid ((HB3.out.alloc HB3.out.size _).grown hgrow2 (HB3.out.alloc HB3.out.size _).size (by intro q h; have := HG.out; simp [Value.ownBlock] at h; omega)); have yy0 := HS4.out.cell (i := 2) (v := .slice (some ⟨g, 0, none⟩) (i + 1) cc) rfl; have yy1 := HS4.out.frozen 2; clear hown2 hgrow2 hg2 y0 y1 z0 z1 z2 z3 z4; skip))
              have hne : w.heap.size + 1 ≠ g2 := by have := HG2.out; omega
              refine ⟨⟨i + 1, ds ++ [d], ⟨x', y', t', (k6 : Nat)⟩, g2, c2, by simp, by have := HI.out; omega, by have := HI.out; omega, by have := HDL.out; simp; omega, HMD2.out, by have := HT2.out; simp only; omega, ?_, ?_, ?_, ?_, ?_⟩, ?_⟩
              · exact HR4.out.far (p := ⟨w.heap.size + 1, 2, none⟩) (by show w.heap.size ≠ w.heap.size + 1; omega) _
              · exact HS4.out.set 2 _
              · exact HD4.out.far (p := ⟨w.heap.size + 1, 2, none⟩) (by show w.heap.size + 2 ≠ w.heap.size + 1; omega) _
              · exact own_far (p := ⟨w.heap.size + 1, 2, none⟩) HO4.out (by simpa [Value.ownBlock] using Ne.symm hne) _
              · exact HB4.out.setCell (p := ⟨w.heap.size + 1, 2, none⟩) (by show w.heap.size ≤ w.heap.size + 1; omega) _
              · have := HI.out; simp [intOf]; omega
end Go.Proofs.YtmjcjaecaigahaaDoor
namespace Go.Proofs.YtmjcjaecaigahaaDoor
open Go.RowKit Go.Lib Go.Shelf

theorem Tz.below {w w' : World} {A : Option Addr} {n B : Nat} (h : Tz w A n) (hb : Below B w w') (hB : w.heap.size ≤ B) : Tz w' A n := fun hn => by
  obtain ⟨b, o, e, hl, hc⟩ := h hn
  have hk : ∀ i, w'.cell? ⟨b, i, none⟩ = w.cell? ⟨b, i, none⟩ := fun i => hb.cell (p := ⟨b, _, none⟩) (Nat.lt_of_lt_of_le hl hB)
  refine ⟨b, o, e, Nat.lt_of_lt_of_le hl hb.size, fun i hi => ?_⟩
  obtain ⟨u0, u1, u2, h0, h1, h2, h3, h4, h5⟩ := hc i hi
  exact ⟨u0, u1, u2, h0, h1, h2, (hk _).trans h3, (hk _).trans h4, (hk _).trans h5⟩
theorem lmade_any (pe nu : Int) (A : Option Addr) (n c : Nat) (w : World) (hA : Tz w A n) (hz : n ≤ 9223372036854775807) (hp : -9223372036854775808 ≤ pe ∧ pe ≤ 9223372036854775807) (hn : -9223372036854775808 ≤ nu ∧ nu ≤ 9223372036854775807) :
    Calls Tryd.prog 37 #[.int .i64 pe, .int .i64 nu, .slice A n c] w fun e w' => ∃ P N ds A1 k1, e = .returned (.agg #[.int .i64 P, .int .i64 N, .slice A1 ds.length k1]) ∧ Vd P N ds ∧ ds.length ≤ 24 ∧ Dz w' A1 ds ∧ ds.length ≤ k1 ∧ (∀ b o, A1 = some ⟨b, o, none⟩ → w.heap.size ≤ b) ∧ Below w.heap.size w w' :=
  (rmade_any pe nu A n c w hA hz hp hn).mono fun e w' h => by
    obtain ⟨P, N, ds, v, rfl, h1, h2, h3, h4⟩ := h
    obtain ⟨_, A1, k1, rfl, hd⟩ := Dz.of_own h3
    refine ⟨P, N, ds, A1, k1, rfl, h1, h2, hd, ?_, fun b o he => (by subst he; exact own_base h3 b rfl), h4⟩
    rcases h3.2 with ⟨_, h0⟩ | ⟨g, cap, cur, he, _, _, hc, _⟩
    · omega
    · cases he; exact hc
theorem box_on {P N : Int} {ds : List Dt} {x y ww hh : Int} (hv : Vd P N ds) (hb : IsBox ds x y ww hh) : (0 ≤ x ∧ x ≤ 4095) ∧ (0 ≤ y ∧ y ≤ 4095) ∧ (0 ≤ ww ∧ ww ≤ 4095) ∧ (0 ≤ hh ∧ hh ≤ 4095) := by
  obtain ⟨h0, ⟨d1, m1, e1⟩, ⟨d2, m2, e2⟩, ⟨d3, m3, e3⟩, ⟨d4, m4, e4⟩⟩ := hb
  have a1 := (hv.mem d1 m1).1; have a2 := (hv.mem d2 m2).1; have a3 := (hv.mem d3 m3).1; have a4 := (hv.mem d4 m4).1
  have := h0 d1 m1; have := h0 d2 m2; have := h0 d3 m3; have := h0 d4 m4
  omega
/-- Thin of a valid stroke with a right tolerance. -/
theorem pthin_yes (P N : Int) (ds : List Dt) (A : Option Addr) (c : Nat) (z : Int) (w : World) (hA : Dz w A ds) (hz : ds.length ≤ 9000000000000000000) (hc : ds.length ≤ c) (hv : Vd P N ds) (ht : 0 ≤ z ∧ z ≤ 1000) :
    Calls Tryd.prog 54 #[.agg #[.int .i64 P, .int .i64 N, .slice A ds.length c], .int .i64 z] w fun e w' => ∃ (L : List Nat) (B : Option Addr) (k : Nat), e = .returned (.tuple #[.slice B L.length k, .int .i64 0]) ∧ IsThin (BetwP ds z) (ds.length - 1) L ∧ Iz w' B (L.map Int.ofNat) ∧ Below w.heap.size w w' :=
  (pthin_any P N ds A c z w hA hz hc).mono fun e w' h => by
    obtain ⟨h1 | h1, hb⟩ := h
    · obtain ⟨_, L, B, k, rfl, h2, h3, _⟩ := h1
      exact ⟨L, B, k, rfl, h2, h3, hb⟩
    · exact absurd ⟨hv, ht⟩ h1.1
end Go.Proofs.YtmjcjaecaigahaaDoor
