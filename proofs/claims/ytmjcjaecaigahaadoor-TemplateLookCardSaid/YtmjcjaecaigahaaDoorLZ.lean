/- Numbers of the call's own: appending one. No conditions. | The statements' helpers pick and directions. Conditions: ints. -/
import Derived.Test.YtmjcjaecaigahaaDoorLE
import Derived.Test.YtmjcjaecaigahaaDoorLF
import Derived.Test.YtmjcjaecaigahaaDoorLD
namespace Go.Proofs.YtmjcjaecaigahaaDoor
open Go.RowKit Go.Lib

def nv (k : Nat) : Value := .int .i64 (k : Nat)
/-- What the call owns reads as numbers. -/
theorem Iz.of_own {W : World} {B n : Nat} {v : Value} {M : List Nat} (h : W.ownsRow B 3 1 v n (M.map nv)) : n = M.length ∧ ∃ A c, v = .slice A M.length c ∧ Iz W A (M.map Int.ofNat) := by
  have hn : n = M.length := by have := h.1; rw [List.length_map] at this; omega
  subst hn
  refine ⟨rfl, ?_⟩
  rcases h.2 with ⟨rfl, h0⟩ | ⟨g, cap, cur, rfl, hB, hg, hc1, hc2, hs, ht⟩
  · exact ⟨none, 0, by rw [h0], fun hh => absurd hh (by rw [List.length_map]; omega)⟩
  · refine ⟨_, _, rfl, fun _ => ⟨g, 0, rfl, (Array.getElem?_eq_some_iff.1 hg).1, fun i hi => ?_⟩⟩
    have hi2 : i < M.length := by simpa using hi
    have h1 : (M.map nv)[i]? = some (nv M[i]) := by rw [List.getElem?_map, List.getElem?_eq_getElem hi2]; rfl
    rw [← ht, List.getElem?_take_of_lt (by omega)] at h1
    have h2 : cur[0 + i]? = some (nv M[i]) := by rw [Nat.zero_add]; simpa using h1
    rw [Blk.cell (show Blk W g 3 cur from hg) h2]
    simp [nv]
end Go.Proofs.YtmjcjaecaigahaaDoor
namespace Go.Proofs.YtmjcjaecaigahaaDoor
open Go.RowKit Go.Lib

def pk8 (c n : Int) : Int := (if c < 0 then -(c + 1) else c).tmod n
theorem pk8_in (c : Int) {n : Int} (hn : 0 < n) : 0 ≤ pk8 c n ∧ pk8 c n < n := by
  unfold pk8
  split
  · exact ⟨Int.tmod_nonneg _ (by omega), Int.tmod_lt_of_pos _ hn⟩
  · exact ⟨Int.tmod_nonneg _ (by omega), Int.tmod_lt_of_pos _ hn⟩
abbrev I8 (c : Int) : Prop := -9223372036854775808 ≤ c ∧ c ≤ 9223372036854775807
set_option maxRecDepth 100000 in
set_option maxHeartbeats 8000000 in
theorem lpick8_any (c n : Int) (w : World) (hc : I8 c) (hn : 0 < n ∧ n ≤ 1000000) : Yl 24 #[.int .i64 c, .int .i64 n] w (.int .i64 (pk8 c n)) := by
  have hb := pk8_in c hn.1
  have hn0 : (n == 0) = false := by rw [beq_eq_false_iff_ne]; omega
  have hn1 : ¬ n = 0 := by omega
  by_cases h0 : c < 0
  case pos =>
    have hp : pk8 c n = (-(c + 1)).tmod n := by unfold pk8; rw [if_pos h0]
    obtain ⟨k, hk⟩ : ∃ k, k = pk8 c n := ⟨_, rfl⟩
    rw [← hk] at hp hb ⊢
    have e1 : IntKind.i64.wrap (c + 1) = c + 1 := IntWalk.i64_in _ (by omega)
    obtain ⟨m, hm⟩ : ∃ m, m = -(c + 1) := ⟨_, rfl⟩
    have e2 : IntKind.i64.wrap (-(c + 1)) = m := by rw [hm]; exact IntWalk.i64_in _ (by omega)
    rw [← hm] at hp
    have e3 : m.tmod n = k := hp.symm
    have e4 : IntKind.i64.wrap k = k := IntWalk.i64_in _ (by omega)
    clear hp hm hk hb hc hn
    go_enter Tryd.func24, Tryd.ntmps24
    go_wp2_with fail
    go_ret
    exact ⟨rfl, Below.refl _ _⟩
  case neg =>
    have hp : pk8 c n = c.tmod n := by unfold pk8; rw [if_neg h0]
    obtain ⟨k, hk⟩ : ∃ k, k = pk8 c n := ⟨_, rfl⟩
    rw [← hk] at hp hb ⊢
    have e3 : c.tmod n = k := hp.symm
    have e4 : IntKind.i64.wrap k = k := IntWalk.i64_in _ (by omega)
    clear hp hk hb hc hn
    go_enter Tryd.func24, Tryd.ntmps24
    go_wp2_with fail
    go_ret
    exact ⟨rfl, Below.refl _ _⟩
end Go.Proofs.YtmjcjaecaigahaaDoor
