/- The contract of the statements' helper cut. No conditions. -/
import Derived.Test.YtgokpdidhpogdaaGreatGJ
namespace Go.Proofs.YtgokpdidhpogdaaGreat
open Go.RowKit Go.Lib

/-- 's[:min(len(s), N)]'. -/
def cutN (N : Nat) (s : ByteArray) : ByteArray := s.extract 0 (min s.size N)
theorem cutN_size (N : Nat) (s : ByteArray) : (cutN N s).size ≤ N := by unfold cutN; rw [ByteArray.size_extract]; omega
theorem cutN_at {P : Program} (t : TypeId) (ht : P.underlying t = some .string) (s : ByteArray) (N : Nat) :
    ∃ m : Nat, (if (N : Int) < (s.size : Int) then (N : Int) else (s.size : Int)) = (m : Int) ∧ m ≤ s.size ∧
      ∀ w, (Instr.slice t (.string s) none (some (.int .i64 (m : Int))) none).run P w = .ok (.string (cutN N s)) w := by
  refine ⟨min s.size N, by split <;> omega, by omega, fun w => ?_⟩
  unfold cutN
  obtain ⟨m, hm⟩ : ∃ m, m = min s.size N := ⟨_, rfl⟩
  rw [← hm, run_slice_string_h w t s ht .i64 m (by omega) (by omega)]
  simp
set_option maxRecDepth 100000 in
set_option maxHeartbeats 4000000 in
theorem cut_any (a b : ByteArray) (w : World) : Calls Tryz.prog 5 #[.agg #[.string a, .string b]] w fun e w' => e = .returned (.agg #[.string (cutN 210 a), .string (cutN 210 b)]) ∧ Below w.heap.size w w' := by
  obtain ⟨ma, hif1, hm1, hsl1⟩ := cutN_at (P := Tryz.prog) 9 Tryz.underlying9 a 210
  obtain ⟨mb, hif2, hm2, hsl2⟩ := cutN_at (P := Tryz.prog) 9 Tryz.underlying9 b 210
  rw [show ((210 : Nat) : Int) = 210 from rfl] at hif1 hif2
  obtain ⟨x, hx⟩ : ∃ x, x = cutN 210 a := ⟨_, rfl⟩
  obtain ⟨y, hy⟩ : ∃ y, y = cutN 210 b := ⟨_, rfl⟩
  rw [← hx] at hsl1 ⊢
  rw [← hy] at hsl2 ⊢
  have HA : Hid (Blk ((w.alloc (.cells #[.string a, .string b] 23)).alloc (.cells #[.string ⟨#[]⟩, .string ⟨#[]⟩] 23)) w.heap.size 23 #[.string a, .string b]) := (Blk.new w _ _).alloc _
  have HR : Hid (Blk ((w.alloc (.cells #[.string a, .string b] 23)).alloc (.cells #[.string ⟨#[]⟩, .string ⟨#[]⟩] 23)) (w.heap.size + 1) 23 #[.string ⟨#[]⟩, .string ⟨#[]⟩]) := by
    have := Blk.new (w.alloc (.cells #[.string a, .string b] 23)) 23 #[.string ⟨#[]⟩, .string ⟨#[]⟩]
    exact Lib.hid (by simpa using this)
  have x0 := HR.out.cell (i := 0) (v := .string ⟨#[]⟩) rfl; have x1 := HR.out.cell (i := 1) (v := .string ⟨#[]⟩) rfl
  have a0 := HA.out.cell (i := 0) (v := .string a) rfl; have a1 := HA.out.cell (i := 1) (v := .string b) rfl
  have f0 := HR.out.frozen 0; have f1 := HR.out.frozen 1
  clear hx hy
  go_enter Tryz.func5, Tryz.ntmps5
  go_upto_region 1 with fail
  go_region
  all_goals
    go_wp2_with fail
    exact bodyPost_ret (v := .agg #[.string x, .string y]) (by simp [results, Tryz.results5, go_sem]) rfl ⟨rfl, (((Below.refl _ _).alloc (Nat.le_refl _) _).alloc (by simp) _).drew⟩
end Go.Proofs.YtgokpdidhpogdaaGreat
