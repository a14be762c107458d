/- WireSequence for slices as they come in, and how a slice of integers and a slice of strings that came in read. -/
import Derived.Test.YtolpkbjbklcdgaaDoorLift
import Derived.Test.YtolpkbjbklcdgaaDoorLaw6
import Derived.SliceStrings
namespace Go.Proofs.YtolpkbjbklcdgaaDoor
open Go.ChangeShapes Go.WideShapes Go.ChangeAt Go.WideMaps Go.WideElems Go.RowKit Go.ChangeMaps Go.Lib

theorem open_ints_reads {P : Program} {H : Type} {enc : TypeId × Value → H} {W : World} {b0 bs : Nat} {r : Reach} {sp : Nat → Bool} {held : Bool} {t e : TypeId} {v : Value} {d : DataW H} {p : List MemPlace}
    (ht : P.underlying t = some (.slice e)) (he : P.underlying e = some (.int .i64)) (hc : P.cellsOf e = 1) (hval : Value.okWide P W r b0 t v) (hd : DataW.Trod enc P W bs sp held t v d p) :
    ∃ (A : Option Addr) (n c : Nat) (zs : List Int), v = .slice A n c ∧ ∀ i, i < n → ∃ ad, A = some ad ∧ W.cell? (ad.add i) = some (.int .i64 (zs.getD i 0)) ∧ -9223372036854775808 ≤ zs.getD i 0 ∧ zs.getD i 0 ≤ 9223372036854775807 := by
  obtain ⟨a0, len, cap, rfl⟩ := okWide_slice ht hval
  obtain ⟨fuel, hf⟩ := hd
  rcases open_ints ht he hc hf with ⟨hcs, hx⟩ | ⟨a, len', cap', zs, hcs, _, hl, hm, hz, hx, hcell, hwz⟩
  · simp [Value.cells] at hcs
    obtain ⟨rfl, rfl, rfl⟩ := hcs
    exact ⟨none, 0, 0, [], rfl, fun i hi => absurd hi (Nat.not_lt_zero _)⟩
  · simp [Value.cells] at hcs
    obtain ⟨rfl, rfl, rfl⟩ := hcs
    have hzl : len ≤ zs.length := by rw [hz]; split <;> omega
    refine ⟨some a, len, cap, zs, rfl, fun i hi => ⟨a, rfl, hcell i (by omega), ?_⟩⟩
    have hmem : zs.getD i 0 ∈ zs := by
      rw [List.getD_eq_getElem?_getD, List.getElem?_eq_getElem (show i < zs.length by omega)]
      exact List.getElem_mem _
    exact wf_int (hwz _ hmem)

theorem open_strs_reads {P : Program} {H : Type} {enc : TypeId × Value → H} {W : World} {b0 bs : Nat} {r : Reach} {sp : Nat → Bool} {held : Bool} {t e : TypeId} {v : Value} {d : DataW H} {p : List MemPlace}
    (ht : P.underlying t = some (.slice e)) (he : P.underlying e = some .string) (hc : P.cellsOf e = 1) (hval : Value.okWide P W r b0 t v) (hd : DataW.Trod enc P W bs sp held t v d p) :
    ∃ (A : Option Addr) (n c : Nat) (ss : List ByteArray), v = .slice A n c ∧ ∀ i, i < n → ∃ ad, A = some ad ∧ W.cell? (ad.add i) = some (.string (ss.getD i ByteArray.empty)) := by
  obtain ⟨a0, len, cap, rfl⟩ := okWide_slice ht hval
  obtain ⟨fuel, hf⟩ := hd
  rcases open_strings ht he hc hf with ⟨hcs, hx⟩ | ⟨a, len', cap', ss, hcs, _, hl, hm, hz, hx, hcell, _⟩
  · simp [Value.cells] at hcs
    obtain ⟨rfl, rfl, rfl⟩ := hcs
    exact ⟨none, 0, 0, [], rfl, fun i hi => absurd hi (Nat.not_lt_zero _)⟩
  · simp [Value.cells] at hcs
    obtain ⟨rfl, rfl, rfl⟩ := hcs
    have hzl : len ≤ ss.length := by rw [hz]; split <;> omega
    exact ⟨some a, len, cap, ss, rfl, fun i hi => ⟨a, rfl, hcell i (by omega)⟩⟩

theorem add_plain (b o i : Nat) : (⟨b, o, none⟩ : Addr).add i = ⟨b, o + i, none⟩ := by unfold Addr.add; split <;> simp_all

set_option maxRecDepth 100000 in
set_option maxHeartbeats 1000000 in
theorem law6_zero (A B : Option Addr) (nl cl nt ct : Nat) (w : World) (hn : nl = 0 ∨ nt = 0) (hT : Tab w) :
    Calls Tryd.prog 6 #[.slice A nl cl, .slice B nt ct] w fun e w' => e = .returned (.bool true) ∧ Below w.heap.size w w' := by
  have hif : ∀ (ts : Array TypeId) (t : TypeId) (w : World), (Builtin.min_ ts t #[.int .i64 nl, .int .i64 nt, .int .i64 20]).run Tryd.prog w = .ok (.int .i64 0) w := fun ts t w => by
    rw [run_min3]; congr 2; omega
  have q := seq_end ⟨#[]⟩ (by decide)
  have Q : Hid (∀ w, Calls Tryd.prog 15 #[.string ⟨#[]⟩, .int .i64 0] w fun e w' => e = .returned (.tuple #[.int .i64 0, .int .i64 0, .int .i64 10]) ∧ w = w') := q
  have HT := Lib.hid hT; clear hT hn q
  go_enter Tryd.func6, Tryd.ntmps6
  go_wp2_with fail
  refine (sane_any _ HT.out).mono ?_
  rintro e w1 ⟨rfl, bA⟩
  go_wp2_with fail
  refine wp_loop_rounds 1 ?_
  rw [rounds_succ]
  go_wp2_with fail
  refine wp_loop_rounds 1 ?_
  rw [rounds_succ]
  go_wp2_with fail
  refine (Q.out _).mono ?_
  rintro e w' ⟨rfl, rfl⟩
  go_wp2_with fail
  go_ret
  exact ⟨rfl, bA⟩

theorem law6_reads (A B : Option Addr) (nl cl nt ct : Nat) (zs : List Int) (ss : List ByteArray) (w : World)
    (hA : ∀ i, i < nl → ∃ ad, A = some ad ∧ w.cell? (ad.add i) = some (.int .i64 (zs.getD i 0)) ∧ -9223372036854775808 ≤ zs.getD i 0 ∧ zs.getD i 0 ≤ 9223372036854775807)
    (hB : ∀ i, i < nt → ∃ ad, B = some ad ∧ w.cell? (ad.add i) = some (.string (ss.getD i ByteArray.empty))) (hT : Tab w) :
    Calls Tryd.prog 6 #[.slice A nl cl, .slice B nt ct] w fun e w' => e = .returned (.bool true) ∧ Below w.heap.size w w' := by
  by_cases h0 : nl = 0 ∨ nt = 0
  · exact law6_zero A B nl cl nt ct w h0 hT
  · obtain ⟨⟨b1, o1, s1⟩, rfl, hc1, _⟩ := hA 0 (by omega)
    obtain ⟨⟨b2, o2, s2⟩, rfl, hc2⟩ := hB 0 (by omega)
    have hs1 : s1 = none := by simpa [Addr.add] using World.cell?_spot hc1
    have hs2 : s2 = none := by simpa [Addr.add] using World.cell?_spot hc2
    subst hs1; subst hs2
    have l1 : b1 < w.heap.size := by have := World.block_lt_of_cell? w _ hc1; rw [add_plain] at this; exact this
    have l2 : b2 < w.heap.size := by have := World.block_lt_of_cell? w _ hc2; rw [add_plain] at this; exact this
    refine law6_any b1 o1 b2 o2 nl cl nt ct (min (min nl nt) 20) zs ss w (by omega) l1 l2 (fun i hi => ?_) (fun i hi => ?_) hT
    · obtain ⟨ad, hx, hc, hr⟩ := hA i (by omega)
      obtain rfl := Option.some.inj hx
      rw [add_plain] at hc
      exact ⟨hc, hr⟩
    · obtain ⟨ad, hx, hc⟩ := hB i (by omega)
      obtain rfl := Option.some.inj hx
      rw [add_plain] at hc
      exact hc
end Go.Proofs.YtolpkbjbklcdgaaDoor
