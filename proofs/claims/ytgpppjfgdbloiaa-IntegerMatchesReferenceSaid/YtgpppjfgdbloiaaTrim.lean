/- The contracts of trimmed, of carried and of what it folds by. Conditions: the slices read, and are not longer than 3,000 groups. -/
import Derived.Test.YtgpppjfgdbloiaaMem
namespace Go.Proofs.Ytgpppjfgdbloiaa
open Go.RowKit Go.Lib

/-- A slice expression 's[:k]' of a slice of ints. -/
theorem run_upto (t : TypeId) (ht : Try.prog.underlying t = some (.slice 3)) (b o n c k : Nat) (hk : k ≤ c) (w : World) :
    (Instr.slice t (.slice (some ⟨b, o, none⟩) n c) none (some (.int .i64 (k : Nat))) none).run Try.prog w = .ok (.slice (some ⟨b, o, none⟩) k c) w := by
  obtain ⟨i, hi, hz, hs, hb⟩ := info_of info_i64
  have h1 : (k : Int) ≤ c := by omega
  have h3 : (⟨b, o, none⟩ : Addr).add 0 = ⟨b, o, none⟩ := by unfold Addr.add; rfl
  simp [Instr.slice, run_underlying ht, Instr.sliceBounds, run_sliceBound, h1, sizeOf, typeInfo, hi, h3]

/-- The length of a slice value. -/
def lenV : Value → Nat
  | .slice _ n _ => n
  | _ => 0

set_option maxRecDepth 100000 in
theorem trimmed_any (A : Option Addr) (n c V : Nat) (w : World) (hA : Am w A n c V) (hV : V < 10000 ^ n) (hn : n ≤ 3000) :
    Calls Try.prog 71 #[.slice A n c] w fun e w' => e = .returned (.slice A (glen V) c) ∧ w = w' := by
  have HA := Lib.hid hA; have HV := Lib.hid hV; have hnc := hA.1; clear hA hV
  go_enter Try.func71, Try.ntmps71
  go_wp2
  go_loop [0] (fun a => ∃ m, a = .slice A m c ∧ m ≤ n ∧ Hid (V < 10000 ^ m)) (fun a => lenV a)
  case atStart => exact ⟨n, rfl, Nat.le_refl _, HV.out⟩
  case round =>
    obtain ⟨m, rfl, hm, HM⟩ := hrel
    by_cases h0 : 0 < m
    · obtain ⟨b, o, rfl, hb, hc⟩ := HA.out.2 (by omega)
      obtain ⟨k, rfl⟩ : ∃ k, m = k + 1 := ⟨m - 1, by omega⟩
      have hcell := hc k (by omega)
      clear hc
      have hs := run_upto 51 Try.underlying51 b o (k + 1) c k (by omega)
      have p1 : (0 : Int) < ((k + 1 : Nat) : Int) := by omega
      have p2 : ((k + 1 : Nat) : Int) - 1 = (k : Int) := by omega
      rw [show ((k + 1 : Nat) : Int) = (k : Int) + 1 from by omega] at p1 p2
      have p3 : ((k : Int) + 1 - 1).toNat = k := by omega
      by_cases hz : dg4 V k = 0
      · have HM2 := Lib.hid (lt_pred4 HM.out hz)
        rw [hz] at hcell
        have HZ := Lib.hid hz; clear hz
        go_wp2
        go_round
        case rel => exact ⟨k, rfl, by omega, HM2.out⟩
        case measure => simp [lenV]
      · have hz2 : ((dg4 V k : Int) == 0) = false := by rw [beq_eq_false_iff_ne]; omega
        have HE := Lib.hid (glen_eq HM.out (.inr (by rw [Nat.add_sub_cancel]; exact hz)))
        clear hz
        go_wp2
        go_ret
        exact ⟨by rw [HE.out]; rfl, rfl⟩
    · have HE := Lib.hid (glen_eq HM.out (.inl (by omega)))
      obtain rfl : m = 0 := by omega
      go_wp2
      go_ret
      exact ⟨by rw [HE.out]; rfl, rfl⟩
end Go.Proofs.Ytgpppjfgdbloiaa
