/- A fraction is read from its text. No conditions. | The contract of the statements' helper cut. No conditions. -/
import Derived.Test.YtnacgdkihkfjkaaGO
import Derived.Test.YtnacgdkihkfjkaaGH
import Derived.Test.YtnacgdkihkfjkaaGJ
namespace Go.Proofs.Ytnacgdkihkfjkaa
open Go.RowKit Go.Lib

theorem zL_no {z : Int} : ∀ c ∈ zL z, c ≠ 47 := fun c hc h => by
  subst h
  unfold zL at hc
  split at hc
  · simp at hc
  · rcases List.mem_append.1 hc with h | h
    · split at h
      · simp at h
      · simp at h
    · have := dec10_is _ _ h
      unfold IsD at this
      simp at this
theorem sp_print {n d : Int} : spA (zL n ++ 47 :: zL d) = zL n ∧ spB (zL n ++ 47 :: zL d) = zL d := by
  have h : ∀ L : List UInt8, (∀ c ∈ L, c ≠ 47) → (L ++ 47 :: zL d).takeWhile (· != 47) = L ∧ (L ++ 47 :: zL d).dropWhile (· != 47) = 47 :: zL d := by
    intro L
    induction L with
    | nil => intro _; exact ⟨rfl, rfl⟩
    | cons c r ih =>
      intro h
      obtain ⟨h1, h2⟩ := ih (fun x hx => h x (by simp [hx]))
      have hc : (c != 47) = true := by simp [h c (by simp)]
      rw [List.cons_append, List.takeWhile_cons, List.dropWhile_cons, hc]
      simp only [if_true]
      exact ⟨by rw [h1], h2⟩
  obtain ⟨h1, h2⟩ := h (zL n) zL_no
  exact ⟨h1, by unfold spB; rw [h2]⟩
theorem parse_print {p : Int × Int} (hp : Good p) : parseQ (printQ (some p)).data.toList = some p := by
  obtain ⟨n, d⟩ := p
  have hr := good_rd hp
  have key : rdQ (spA (printQ (some (n, d))).data.toList) (spB (printQ (some (n, d))).data.toList) = some (n, d) := by
    by_cases h1 : d = 1
    · subst h1
      have e : printQ (some (n, 1)) = zS n := by show (if (1 : Int) = 1 then zS n else zS n ++ ⟨#[47]⟩ ++ zS 1) = _; exact if_pos rfl
      have h49 : ([49] : List UInt8) = (zS 1).data.toList := by rw [zS_one]
      obtain ⟨a, b⟩ := sp_no (L := zL n) zL_no
      rw [e, zS_list, a, b, h49]
      exact hr
    · have e : printQ (some (n, d)) = zS n ++ ⟨#[47]⟩ ++ zS d := if_neg h1
      have e2 : (zS n ++ ⟨#[47]⟩ ++ zS d).data.toList = zL n ++ 47 :: zL d := by
        rw [ByteArray.data_append, ByteArray.data_append, Array.toList_append, Array.toList_append, zS_list, zS_list]
        simp
      obtain ⟨a, b⟩ := @sp_print n d
      rw [e, e2, a, b]
      exact hr
  unfold parseQ
  rw [key]
  exact if_pos rfl
theorem zL_ne {z : Int} : zL z ≠ [] := by
  unfold zL
  split
  · simp
  · rename_i h
    have := dec10_length z.natAbs
    have h2 := dl_pos (V := z.natAbs) (by omega)
    intro h3
    rw [List.append_eq_nil_iff] at h3
    rw [h3.2] at this
    simp at this; omega
theorem print_ne {p : Int × Int} : (printQ (some p)).data.toList ≠ [] := by
  by_cases h1 : p.2 = 1
  · rw [show printQ (some p) = zS p.1 from if_pos h1]; exact zL_ne
  · rw [show printQ (some p) = zS p.1 ++ ⟨#[47]⟩ ++ zS p.2 from if_neg h1, ByteArray.data_append, ByteArray.data_append, Array.toList_append, Array.toList_append]
    simp
theorem parse_some {L : List UInt8} {q : Int × Int} (h : parseQ L = some q) : Good q ∧ (printQ (some q)).data.toList = L := by
  unfold parseQ at h
  cases hr : rdQ (spA L) (spB L) with
  | none => rw [hr] at h; cases h
  | some p =>
    rw [hr] at h
    have h2 : (if (printQ (some p)).data.toList = L then some p else none) = some q := h
    split at h2
    · cases h2
      obtain ⟨a, b, c⟩ := rdQ_some hr
      exact ⟨⟨c, (rd_some a).2.1, (rd_some b).2.1⟩, by assumption⟩
    · cases h2
theorem parse_nil : parseQ [] = none := by decide +kernel
theorem print_size {p : Int × Int} (hp : Good p) : (printQ (some p)).size ≤ 90000000000000 := by
  have h1 := zS_small hp.2.1; have h2 := zS_small hp.2.2
  by_cases h : p.2 = 1
  · rw [show printQ (some p) = zS p.1 from if_pos h]; omega
  · rw [show printQ (some p) = zS p.1 ++ ⟨#[47]⟩ ++ zS p.2 from if_neg h, ByteArray.size_append, ByteArray.size_append]
    have : (⟨#[47]⟩ : ByteArray).size = 1 := rfl
    omega
theorem gdO_rdQ {a b : List UInt8} : GdO (rdQ a b) := fun q h => by
  obtain ⟨x, y, z⟩ := rdQ_some h
  exact ⟨z, (rd_some x).2.1, (rd_some y).2.1⟩
theorem gdO_parse {L : List UInt8} : GdO (parseQ L) := fun _ h => (parse_some h).1
end Go.Proofs.Ytnacgdkihkfjkaa
namespace Go.Proofs.Ytnacgdkihkfjkaa
open Go.RowKit Go.Lib

/-- 's[:min(len(s), N)]'. -/
def cutN (N : Nat) (s : ByteArray) : ByteArray := s.extract 0 (min s.size N)
theorem cutN_size (N : Nat) (s : ByteArray) : (cutN N s).size ≤ N := by unfold cutN; rw [ByteArray.size_extract]; omega
theorem cutN_at {P : Program} (t : TypeId) (ht : P.underlying t = some .string) (s : ByteArray) (N : Nat) :
    ∃ m : Nat, (if (N : Int) < (s.size : Int) then (N : Int) else (s.size : Int)) = (m : Int) ∧ m ≤ s.size ∧
      ∀ w, (Instr.slice t (.string s) none (some (.int .i64 (m : Int))) none).run P w = .ok (.string (cutN N s)) w := by
  refine ⟨min s.size N, by split <;> omega, by omega, fun w => ?_⟩
  unfold cutN
  obtain ⟨m, hm⟩ : ∃ m, m = min s.size N := ⟨_, rfl⟩
  rw [← hm, run_slice_string_h w t s ht .i64 m (by omega) (by omega)]
  simp
set_option maxRecDepth 100000 in
set_option maxHeartbeats 4000000 in
theorem cut_any (a b : ByteArray) (w : World) : Calls Try.prog 12 #[.agg #[.string a, .string b]] w fun e w' => e = .returned (.agg #[.string (cutN 210 a), .string (cutN 210 b)]) ∧ Below w.heap.size w w' := by
  obtain ⟨ma, hif1, hm1, hsl1⟩ := cutN_at (P := Try.prog) 9 Try.underlying9 a 210
  obtain ⟨mb, hif2, hm2, hsl2⟩ := cutN_at (P := Try.prog) 9 Try.underlying9 b 210
  rw [show ((210 : Nat) : Int) = 210 from rfl] at hif1 hif2
  obtain ⟨x, hx⟩ : ∃ x, x = cutN 210 a := ⟨_, rfl⟩
  obtain ⟨y, hy⟩ : ∃ y, y = cutN 210 b := ⟨_, rfl⟩
  rw [← hx] at hsl1 ⊢
  rw [← hy] at hsl2 ⊢
  have HA : Hid (Blk ((w.alloc (.cells #[.string a, .string b] 23)).alloc (.cells #[.string ⟨#[]⟩, .string ⟨#[]⟩] 23)) w.heap.size 23 #[.string a, .string b]) := (Blk.new w _ _).alloc _
  have HR : Hid (Blk ((w.alloc (.cells #[.string a, .string b] 23)).alloc (.cells #[.string ⟨#[]⟩, .string ⟨#[]⟩] 23)) (w.heap.size + 1) 23 #[.string ⟨#[]⟩, .string ⟨#[]⟩]) := by
    have := Blk.new (w.alloc (.cells #[.string a, .string b] 23)) 23 #[.string ⟨#[]⟩, .string ⟨#[]⟩]
    exact Lib.hid (by simpa using this)
  have x0 := HR.out.cell (i := 0) (v := .string ⟨#[]⟩) rfl; have x1 := HR.out.cell (i := 1) (v := .string ⟨#[]⟩) rfl
  have a0 := HA.out.cell (i := 0) (v := .string a) rfl; have a1 := HA.out.cell (i := 1) (v := .string b) rfl
  have f0 := HR.out.frozen 0; have f1 := HR.out.frozen 1
  clear hx hy
  go_enter Try.func12, Try.ntmps12
  go_upto_region 1 with fail
  go_region
  all_goals
    go_wp2_with fail
    exact bodyPost_ret (v := .agg #[.string x, .string y]) (by simp [results, Try.results12, go_sem]) rfl ⟨rfl, (((Below.refl _ _).alloc (Nat.le_refl _) _).alloc (by simp) _).drew⟩
end Go.Proofs.Ytnacgdkihkfjkaa
