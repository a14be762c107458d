/- Numbers of the call's own: appending one. No conditions. | The statements' helpers pick and directions. Conditions: ints. -/
import Derived.Test.YtmjcjaecaigahaaDoorLE
import Derived.Test.YtmjcjaecaigahaaDoorLF
import Derived.Test.YtmjcjaecaigahaaDoorLD
namespace Go.Proofs.YtmjcjaecaigahaaDoor
open Go.RowKit Go.Lib

def nv (k : Nat) : Value := .int .i64 (k : Nat)
theorem info_int : (Tryd.prog.info? 3).map (fun i => (i.zero, i.size, i.bytes)) = some (some (.int .i64 0), 1, 8) := by kernel_rfl
/-- What the call owns reads as numbers. -/
theorem Iz.of_own {W : World} {B n : Nat} {v : Value} {M : List Nat} (h : W.ownsRow B 3 1 v n (M.map nv)) : n = M.length ∧ ∃ A c, v = .slice A M.length c ∧ Iz W A (M.map Int.ofNat) := by
  have hn : n = M.length := by have := h.1; rw [List.length_map] at this; omega
  subst hn
  refine ⟨rfl, ?_⟩
  rcases h.2 with ⟨rfl, h0⟩ | ⟨g, cap, cur, rfl, hB, hg, hc1, hc2, hs, ht⟩
  · exact ⟨none, 0, by rw [h0], fun hh => absurd hh (by rw [List.length_map]; omega)⟩
  · refine ⟨_, _, rfl, fun _ => ⟨g, 0, rfl, (Array.getElem?_eq_some_iff.1 hg).1, fun i hi => ?_⟩⟩
    have hi2 : i < M.length := by simpa using hi
    have h1 : (M.map nv)[i]? = some (nv M[i]) := by rw [List.getElem?_map, List.getElem?_eq_getElem hi2]; rfl
    rw [← ht, List.getElem?_take_of_lt (by omega)] at h1
    have h2 : cur[0 + i]? = some (nv M[i]) := by rw [Nat.zero_add]; simpa using h1
    rw [Blk.cell (show Blk W g 3 cur from hg) h2]
    simp [nv]
theorem owni_none (W : World) (B : Nat) : W.ownsRow B 3 1 (.slice none 0 0) 0 (([] : List Nat).map nv) := ⟨rfl, Or.inl ⟨rfl, rfl⟩⟩
theorem wpList_append_nat {w : World} {ops : Array Oper} {rest : List Oper} {o : Oper} {a : Act} {Q : Exit → Act → World → Prop} (hgd : o.guard = none) (s x : Operand)
    (ho : o.op = .call { callee := .builtin .append, args := #[s, x], argTypes := #[23, 23] }) (base : Nat) (v : Value) (n : Nat) (M : List Nat) (hs : a.eval s = v) (hown : w.ownsRow base 3 1 v n (M.map nv))
    (g : Nat) (d : Nat) (hx : a.eval x = .slice (some ⟨g, 0, none⟩) 1 1) (hg : Blk w g 3 #[.int .i64 (d : Nat)]) (hn : n ≤ 1000000) (hbase : base ≤ w.heap.size)
    (h : ∀ v' w', w'.ownsRow base 3 1 v' (n + 1) ((M ++ [d]).map nv) → w.grownBy w' v.ownBlock → wpList Tryd.prog ops Q rest (a.put o.dst v') w') : wpList Tryd.prog ops Q (o :: rest) a w := by
  obtain ⟨i, hi, hz, hsz, hb⟩ := info_of info_int
  refine wpList_append_own w hgd s x 23 ho base 3 i _ 1 8 Tryd.underlying23 hi hz hsz hb rfl (by decide) v n _ hs hown ⟨g, 0, none⟩ 1 1 [nv d] hx rfl (fun j u hj => ?_) (fun u hu => ?_) (by unfold maxLen; omega) (by omega) hbase fun v' w' h1 h2 _ => h v' w' (by rw [List.map_append]; exact h1) h2
  · have e : (⟨g, 0, none⟩ : Addr).add j = ⟨g, j, none⟩ := by unfold Addr.add; split <;> simp_all
    rw [e]; exact hg.cell (by simpa [nv] using hj)
  · simp only [List.mem_cons, List.not_mem_nil, or_false] at hu
    rcases hu with rfl
    rfl
end Go.Proofs.YtmjcjaecaigahaaDoor
namespace Go.Proofs.YtmjcjaecaigahaaDoor
open Go.RowKit Go.Lib

def pk8 (c n : Int) : Int := (if c < 0 then -(c + 1) else c).tmod n
theorem pk8_in (c : Int) {n : Int} (hn : 0 < n) : 0 ≤ pk8 c n ∧ pk8 c n < n := by
  unfold pk8
  split
  · exact ⟨Int.tmod_nonneg _ (by omega), Int.tmod_lt_of_pos _ hn⟩
  · exact ⟨Int.tmod_nonneg _ (by omega), Int.tmod_lt_of_pos _ hn⟩
abbrev I8 (c : Int) : Prop := -9223372036854775808 ≤ c ∧ c ≤ 9223372036854775807
set_option maxRecDepth 100000 in
set_option maxHeartbeats 8000000 in
theorem lpick8_any (c n : Int) (w : World) (hc : I8 c) (hn : 0 < n ∧ n ≤ 1000000) : Yl 24 #[.int .i64 c, .int .i64 n] w (.int .i64 (pk8 c n)) := by
  have hb := pk8_in c hn.1
  have hn0 : (n == 0) = false := by rw [beq_eq_false_iff_ne]; omega
  have hn1 : ¬ n = 0 := by omega
  by_cases h0 : c < 0
  case pos =>
    have hp : pk8 c n = (-(c + 1)).tmod n := by unfold pk8; rw [if_pos h0]
    obtain ⟨k, hk⟩ : ∃ k, k = pk8 c n := ⟨_, rfl⟩
    rw [← hk] at hp hb ⊢
    have e1 : IntKind.i64.wrap (c + 1) = c + 1 := IntWalk.i64_in _ (by omega)
    obtain ⟨m, hm⟩ : ∃ m, m = -(c + 1) := ⟨_, rfl⟩
    have e2 : IntKind.i64.wrap (-(c + 1)) = m := by rw [hm]; exact IntWalk.i64_in _ (by omega)
    rw [← hm] at hp
    have e3 : m.tmod n = k := hp.symm
    have e4 : IntKind.i64.wrap k = k := IntWalk.i64_in _ (by omega)
    clear hp hm hk hb hc hn
    go_enter Tryd.func24, Tryd.ntmps24
    go_wp2_with fail
    go_ret
    exact ⟨rfl, Below.refl _ _⟩
  case neg =>
    have hp : pk8 c n = c.tmod n := by unfold pk8; rw [if_neg h0]
    obtain ⟨k, hk⟩ : ∃ k, k = pk8 c n := ⟨_, rfl⟩
    rw [← hk] at hp hb ⊢
    have e3 : c.tmod n = k := hp.symm
    have e4 : IntKind.i64.wrap k = k := IntWalk.i64_in _ (by omega)
    clear hp hk hb hc hn
    go_enter Tryd.func24, Tryd.ntmps24
    go_wp2_with fail
    go_ret
    exact ⟨rfl, Below.refl _ _⟩
def dn8 (x z : Int) : Nat := ((pk8 x 8 + z).tmod 8).toNat
def drs8 (xs : List Int) (z : Int) : List Nat := (xs.take 12).map fun x => dn8 x z
theorem dn8_lt (x : Int) {z : Int} (hz : 0 ≤ z) : dn8 x z < 8 := by
  have h := pk8_in x (n := 8) (by omega)
  unfold dn8
  rw [Int.tmod_eq_emod_of_nonneg (by omega)]
  omega
theorem drs8_len (xs : List Int) (z : Int) : (drs8 xs z).length ≤ 12 := by unfold drs8; rw [List.length_map, List.length_take]; omega
theorem take_snoc8 {α : Type} (xs : List α) (i : Nat) (h : i < xs.length) : xs.take (i + 1) = xs.take i ++ [xs[i]] := by
  rw [List.take_add_one, List.getElem?_eq_getElem h]; rfl
set_option maxRecDepth 100000 in
set_option maxHeartbeats 8000000 in
theorem directions_any (xs : List Int) (A : Option Addr) (c : Nat) (z : Int) (w : World) (hA : Iz w A xs) (hx : ∀ x ∈ xs, I8 x) (hl : xs.length ≤ 9223372036854775807) (hz : 0 ≤ z ∧ z ≤ 7) :
    Calls Tryd.prog 31 #[.slice A xs.length c, .int .i64 z] w fun e w' => (∃ A2 c2, e = .returned (.slice A2 (drs8 xs z).length c2) ∧ Iz w' A2 ((drs8 xs z).map Int.ofNat)) ∧ Below w.heap.size w w' := by
  have HA := Lib.hid hA
  have HP := Lib.hid (fun (i : Nat) (hi : i < xs.length) W => lpick8_any xs[i] 8 W (hx _ (List.getElem_mem hi)) (by omega))
  have HL := Lib.hid hl; have HZ := Lib.hid hz
  obtain ⟨D, hD⟩ : ∃ D, D = drs8 xs z := ⟨_, rfl⟩
  rw [← hD]
  have HD := Lib.hid hD
  clear hA hx hl hz hD
  go_enter Tryd.func31, Tryd.ntmps31
  go_wp2_with fail
  go_loopw [5, 6] (fun oo ii wr => ∃ (i : Nat) (M : List Nat) (A2 : Option Addr) (c2 : Nat), oo = .slice A2 M.length c2 ∧ ii = .int .i64 i ∧ (i ≤ xs.length ∧ i ≤ 12) ∧ M = (xs.take i).map (fun x => dn8 x z) ∧ wr.ownsRow w.heap.size 3 1 (.slice A2 M.length c2) M.length (M.map nv) ∧ Below w.heap.size w wr) (fun _ ii _ => 12 - (intOf ii).toNat)
  case atStart => exact ⟨0, [], none, 0, rfl, rfl, by omega, rfl, owni_none _ _, Below.refl _ _⟩
  case round =>
    obtain ⟨i, M, A2, c2, rfl, rfl, hi, hM, ho, hB⟩ := hrel
    rename World => wr
    have HB := Lib.hid hB; have HO := Lib.hid ho; clear hB ho
    by_cases h1 : i < xs.length ∧ i < 12
    case neg =>
      have hd : D = M := by
        rw [HD.out, hM]; unfold drs8
        rcases (show xs.length ≤ i ∨ i = 12 by omega) with h2 | h2
        · rw [List.take_of_length_le h2, List.take_of_length_le (by omega)]
        · rw [h2]
      obtain ⟨-, A9, c9, hv9, him⟩ := Iz.of_own HO.out
      obtain ⟨rfl, -, rfl⟩ : A2 = A9 ∧ M.length = M.length ∧ c2 = c9 := by simpa using hv9
      have HIM := Lib.hid him
      have hundef := un_none
      clear hM hv9 him HD
      subst hd
      by_cases h2 : i < xs.length
      case pos =>
        obtain rfl : i = 12 := by omega
        have q1 : ((12 : Nat) : Int) < (xs.length : Int) := by omega
        clear hi h1 h2
        go_wp2_with fail
        go_ret
        exact ⟨⟨_, _, rfl, HIM.out⟩, HB.out⟩
      case neg =>
        have q1 : ¬ ((i : Int) < (xs.length : Int)) := by omega
        clear hi h1 h2
        go_wp2_with fail
        go_ret
        exact ⟨⟨_, ⟨_, rfl⟩, HIM.out⟩, HB.out⟩
    case pos =>
      obtain ⟨b, o, rfl, hb, hc⟩ := HA.out (by omega)
      have hcx : ∀ W, Below w.heap.size w W → W.cell? ⟨b, o + i, none⟩ = some (.int .i64 xs[i]) := fun W hW => (hW.cell (p := ⟨b, o + i, none⟩) hb).trans (hc i h1.1)
      have HCX := Lib.hid hcx
      have y0 := hcx wr HB.out
      have HPI := Lib.hid (HP.out i h1.1 wr)
      have hk := pk8_in xs[i] (n := 8) (by omega)
      have hdn : ((pk8 xs[i] 8 + z).tmod 8) = ((dn8 xs[i] z : Nat) : Int) := by
        unfold dn8
        rw [Int.tmod_eq_emod_of_nonneg (by have := HZ.out; omega)]; omega
      have HMS : Hid ((xs.take (i + 1)).map (fun x => dn8 x z) = M ++ [dn8 xs[i] z]) := Lib.hid (by rw [take_snoc8 _ _ h1.1, List.map_append, hM]; rfl)
      have HML : Hid (M.length ≤ 1000000) := Lib.hid (by rw [hM, List.length_map, List.length_take]; omega)
      obtain ⟨d, hd⟩ : ∃ d, d = dn8 xs[i] z := ⟨_, rfl⟩
      obtain ⟨k, hkk⟩ : ∃ k, k = pk8 xs[i] 8 := ⟨_, rfl⟩
      rw [← hd] at hdn HMS
      rw [← hkk] at hdn hk HPI
      have e1 : IntKind.i64.wrap (k + z) = k + z := IntWalk.i64_in _ (by have := HZ.out; omega)
      have hdb : 0 ≤ (k + z).tmod 8 ∧ (k + z).tmod 8 < 8 := ⟨Int.tmod_nonneg _ (by have := HZ.out; omega), Int.tmod_lt_of_pos _ (by omega)⟩
      have e2 : IntKind.i64.wrap (d : Int) = (d : Int) := IntWalk.i64_in _ (by omega)
      have e3 : IntKind.i64.wrap ((k + z).tmod 8) = (d : Int) := by rw [hdn]; exact e2
      have q1 : (0 : Int) ≤ (i : Int) := by omega
      have q2 : (i : Int) < (xs.length : Int) := by omega
      have q3 : (i : Int) < 12 := by omega
      have HI := Lib.hid h1; have HM := Lib.hid hM
      generalize xs[i] = x at *
      clear hM hb hc hcx hk hd hkk hdb hi h1 HCX
      go_wp2_with fail
      refine HPI.out.mono ?_
      rintro e v0 ⟨rfl, hb0⟩
      clear y0
      have HB0 := Lib.hid (HB.out.trans (hb0.mono HB.out.size))
      have HO0 := Lib.hid (own_below HO.out (hb0))
      clear hb0
      have HOA : Hid ((v0.alloc (.cells #[.int .i64 (d : Nat)] 3)).ownsRow w.heap.size 3 1 (.slice A2 M.length c2) M.length (M.map nv)) := Lib.hid (HO0.out.alloc _)
      have HNB : Hid (Blk (v0.alloc (.cells #[.int .i64 (d : Nat)] 3)) v0.heap.size 3 #[.int .i64 (d : Nat)]) := Lib.hid (Blk.new _ _ _)
      have HUA : Hid (Below w.heap.size w (v0.alloc (.cells #[.int .i64 (d : Nat)] 3))) := Lib.hid (HB0.out.alloc HB0.out.size _)
      go_wp2_with (at_builtin; go_loud (refine wpList_append_nat rfl _ _ rfl w.heap.size (.slice A2 M.length c2) M.length M rfl HOA.out v0.heap.size d rfl HNB.out HML.out HUA.out.size ?_; intro v2 w2 hown2 hgrow2; obtain ⟨-, A3, c3, rfl, -⟩ := Iz.of_own hown2; have HG2 : Hid (Below w.heap.size w w2) := Lib.hid (HUA.out.grown hgrow2 HUA.out.size (fun g hg => own_base HOA.out g hg)); have HO2 := Lib.hid hown2; clear hown2 hgrow2))
      go_roundw
      case rel => exact ⟨i + 1, M ++ [d], A3, c3, by simp, by go_num, by have := HI.out; omega, HMS.out.symm, (by have h := HO2.out; rwa [show M.length + 1 = (M ++ [d]).length by simp] at h), HG2.out⟩
      case measure => have := HI.out; simp [intOf]; omega
end Go.Proofs.YtmjcjaecaigahaaDoor
