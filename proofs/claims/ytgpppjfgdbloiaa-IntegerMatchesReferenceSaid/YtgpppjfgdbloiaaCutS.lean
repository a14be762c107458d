/- The contracts of cutSign, allDecimal, valueOf and Valid. Condition: a string's length is an int's. -/
import Derived.Test.YtgpppjfgdbloiaaDec
import Derived.Test.YtgpppjfgdbloiaaNdiv
import Derived.Lib.Strings
import Derived.Laws.IdiomStrings
namespace Go.Proofs.Ytgpppjfgdbloiaa
open Go.RowKit Go.Lib

/-- A list of bytes as a string. -/
def bs (L : List UInt8) : ByteArray := ⟨L.toArray⟩
theorem bs_self (s : ByteArray) : bs s.data.toList = s := by unfold bs; exact mk_data s
theorem bs_data (L : List UInt8) : (bs L).data.toList = L := rfl
theorem bs_size (L : List UInt8) : (bs L).size = L.length := rfl
/-- The sign and the rest have been returned. -/
def OutCut (L : List UInt8) (w : World) (e : Ending) (w' : World) : Prop := e = .returned (.tuple #[.bool (cutB L), .string (bs (cutR L))]) ∧ ∃ k, w' = w.drewN k
set_option maxRecDepth 100000 in
theorem cutSign_any (s : ByteArray) (w : World) (hs : s.size ≤ 9000000000000000000) : Calls Try.prog 59 #[.string s] w (OutCut s.data.toList w) := by
  by_cases h0 : s.size = 0
  · obtain rfl : s = ⟨#[]⟩ := by
      have : s.data.toList = [] := by rw [← List.length_eq_zero_iff]; exact h0
      rw [← bs_self s, this]; rfl
    clear hs h0
    go_enter Try.func59, Try.ntmps59
    go_wp2
    go_ret2
    exact ⟨rfl, 0, rfl⟩
  · have hp : 0 < s.size := by omega
    have h1 : s.toList ≠ [] := by rw [toList_data, ne_eq, ← List.length_eq_zero_iff]; exact h0
    have h2 : (!s.toList.isEmpty) = true := by simp [h1]
    have hL : s.data.toList = s[0] :: s.data.toList.tail := by
      cases hq : s.data.toList with
      | nil => rw [← List.length_eq_zero_iff] at hq; exact absurd hq h0
      | cons c R =>
        have : s[0] = c := by
          have h4 : s[0] = s.data.toList[0]'(by rw [hq]; simp) := rfl
          rw [h4]; simp [hq]
        rw [this]; rfl
    by_cases hc : s[0] = 45
    · have h3 : ((s[0].toNat : Int) == 45) = true := by rw [hc]; rfl
      have hcb : cutB s.data.toList = true := by rw [hL, hc]; rfl
      have hcr : bs (cutR s.data.toList) = s.extract 1 s.size := by
        rw [extract_eq]
        have : cutR s.data.toList = s.data.toList.tail := by rw [hL, hc]; rfl
        rw [this, ← List.drop_one, List.take_of_length_le (by rw [List.length_drop, size_eq]; exact Nat.le_refl _)]; rfl
      have hsl := fun w => run_slice_string_l (P := Try.prog) w 9 s Try.underlying9 .i64 1 (by omega) (by omega)
      rw [show (1 : Int).toNat = 1 from rfl] at hsl
      unfold OutCut
      rw [hcb, hcr]
      clear hL hc hcb hcr h0
      go_enter Try.func59, Try.ntmps59
      go_wp2_with fail
      go_quiet (fail)
      all_goals
        go_wp2
        go_ret2
        exact ⟨rfl, _, rfl⟩
    · have h3 : ((s[0].toNat : Int) == 45) = false := by
        rw [beq_eq_false_iff_ne]; intro h; exact hc (UInt8.toNat_inj.1 (show s[0].toNat = (45 : UInt8).toNat from Int.ofNat.inj h))
      have hcb : cutB s.data.toList = false := by
        rw [hL]; unfold cutB; split
        · rename_i h; injection h with h _; exact absurd h hc
        · rfl
      have hcr : bs (cutR s.data.toList) = s := by
        have : cutR s.data.toList = s.data.toList := by
          rw [hL]; unfold cutR; split
          · rename_i h; injection h with h _; exact absurd h hc
          · rfl
        rw [this, bs_self]
      unfold OutCut
      rw [hcb, hcr]
      clear hL hc hcb hcr h0
      go_enter Try.func59, Try.ntmps59
      go_wp2
      go_ret2
      exact ⟨rfl, 0, rfl⟩

theorem all_false {s : ByteArray} {k : Nat} (h : k < s.size) (hc : ¬ IsD s[k]) : allD s.data.toList = false := by
  rw [Bool.eq_false_iff]
  intro h2
  rw [allD_iff] at h2
  exact hc (h2 _ (by have : s[k] = s.data.toList[k]'(by rw [← size_eq]; exact h) := rfl
                     rw [this]; exact List.getElem_mem _))
set_option maxRecDepth 100000 in
theorem alldec_any (s : ByteArray) (w : World) (hs : s.size ≤ 9000000000000000000) : Calls Try.prog 61 #[.string s] w fun e w' => e = .returned (.bool (allD s.data.toList)) ∧ w = w' := by
  obtain ⟨r, hr⟩ : ∃ r, r = allD s.data.toList := ⟨_, rfl⟩
  rw [← hr]
  have HR := Lib.hid hr
  clear hr
  go_enter Try.func61, Try.ntmps61
  go_wp2
  go_loop [6] (fun i => ∃ k : Nat, k ≤ s.size ∧ i = .int .i64 k ∧ Hid (∀ j (h : j < k) (h2 : j < s.size), IsD s[j])) (fun i => s.size - (intOf i).toNat)
  case atStart => exact ⟨0, Nat.zero_le _, rfl, fun j h => absurd h (Nat.not_lt_zero _)⟩
  case round =>
    obtain ⟨k, hk, rfl, HK⟩ := hrel
    by_cases hlt : k < s.size
    · by_cases hd : IsD s[k]
      · have HK2 : Hid (∀ j (h : j < k + 1) (h2 : j < s.size), IsD s[j]) := fun j h h2 => by
          rcases Nat.lt_succ_iff_lt_or_eq.1 h with h3 | h3
          · exact HK.out j h3 h2
          · subst h3; exact hd
        unfold IsD at hd
        obtain ⟨d1, d2⟩ := hd
        have d3 : (48 : Int) ≤ (s[k].toNat : Int) := by omega
        have d4 : (s[k].toNat : Int) ≤ 57 := by omega
        go_wp2
        go_round
        case rel => exact ⟨k + 1, by omega, by go_num, HK2⟩
        case measure => simp [intOf]; omega
      · have hf := all_false hlt hd
        unfold IsD at hd
        obtain rfl : r = false := HR.out.trans hf
        rcases Nat.lt_or_ge s[k].toNat 48 with h | h
        · have d3 : (s[k].toNat : Int) < 48 := by omega
          clear hf hd HK
          go_wp2
          go_ret
          exact ⟨rfl, rfl⟩
        · have d3 : (48 : Int) ≤ (s[k].toNat : Int) := by omega
          have d4 : (57 : Int) < (s[k].toNat : Int) := by omega
          clear hf hd HK
          go_wp2
          go_ret
          exact ⟨rfl, rfl⟩
    · have ht : allD s.data.toList = true := by
        rw [allD_iff]
        intro c hc
        obtain ⟨i, hi, rfl⟩ := List.mem_iff_getElem.1 hc
        exact HK.out i (by rw [← size_eq] at hi; omega) (by rw [← size_eq] at hi; omega)
      obtain rfl : r = true := HR.out.trans ht
      clear ht HK
      go_wp2
      go_ret
      exact ⟨rfl, rfl⟩

theorem wrap_step (N d : Int) : wrap64 (wrap64 (10 * wrap64 N) + d) = wrap64 (10 * N + d) := by unfold wrap64; omega
set_option maxRecDepth 100000 in
theorem vstep_any (N : Int) (c : UInt8) (hc : IsD c) (w : World) : Calls Try.prog 73 #[.int .i64 (wrap64 N), .int .u8 c.toNat] w fun e w' => e = .returned (.int .i64 (wrap64 (10 * N + (c.toNat - 48 : Nat)))) ∧ w = w' := by
  unfold IsD at hc
  obtain ⟨h1, h2⟩ := hc
  obtain ⟨d, hd⟩ : ∃ d : Nat, d = c.toNat - 48 := ⟨_, rfl⟩
  have e1 : (c.toNat : Int) - 48 = (d : Int) := by omega
  have e2 := wrap_step N d
  have hd9 : d ≤ 9 := by omega
  rw [← hd, ← e2]
  have q1 : (48 : Int) ≤ (c.toNat : Int) := by omega
  have q2 : (c.toNat : Int) ≤ 57 := by omega
  obtain ⟨M, hM⟩ : ∃ M, M = wrap64 N := ⟨_, rfl⟩
  rw [← hM]
  have q3 : -9223372036854775808 ≤ M ∧ M ≤ 9223372036854775807 := by rw [hM]; unfold wrap64; omega
  obtain ⟨q3, q4⟩ := q3
  clear hd e2 hM h1 h2
  go_enter Try.func73, Try.ntmps73
  go_wp2
  go_ret
  exact ⟨rfl, rfl⟩

theorem dval_take_succ {L : List UInt8} {j : Nat} (h : j < L.length) : dval (L.take (j + 1)) = 10 * dval (L.take j) + (L[j].toNat - 48) := by
  rw [List.take_succ_eq_append_getElem h, dval_snoc]
set_option maxRecDepth 100000 in
theorem vfold_any (g cap : Nat) (L : List UInt8) (w : World) (hc : ∀ j (h : j < L.length), w.cell? ⟨g, j, none⟩ = some (.int .u8 L[j].toNat)) (hL : ∀ c ∈ L, IsD c) (hn : L.length ≤ 9000000000000000000) :
    Calls Try.prog 72 #[.slice (some ⟨g, 0, none⟩) L.length cap, .int .i64 0, .func (.func 73) #[] #[]] w fun e w' => e = .returned (.int .i64 (wrap64 (dval L : Nat))) ∧ w = w' := by
  obtain ⟨n, hnl⟩ : ∃ n, n = L.length := ⟨_, rfl⟩
  have HC := Lib.hid hc; have HL := Lib.hid hL
  have h00 : wrap64 ((dval (L.take 0) : Nat) : Int) = 0 := by simp [dval, wrap64]
  have HV := Lib.hid (show dval (L.take n) = dval L by rw [hnl, List.take_length])
  rw [← hnl] at hn ⊢
  have HN := Lib.hid hnl
  have H00 := Lib.hid h00
  clear hc hL hnl h00
  go_enter Try.func72, Try.ntmps72
  go_wp2
  go_loop [7, 13] (fun s i => ∃ j : Nat, j ≤ n ∧ i = .int .i64 j ∧ s = .int .i64 (wrap64 (dval (L.take j) : Nat))) (fun _ i => n - (intOf i).toNat)
  case atStart => exact ⟨0, Nat.zero_le _, rfl, (by rw [H00.out])⟩
  case round =>
    obtain ⟨j, hj, rfl, rfl⟩ := hrel
    by_cases hlt : j < n
    · have hl : j < L.length := by rw [← HN.out]; exact hlt
      have c0 := HC.out j hl
      have HD := Lib.hid (dval_take_succ hl)
      have hd := HL.out L[j] (List.getElem_mem _)
      obtain ⟨c, hc⟩ : ∃ c, c = L[j] := ⟨_, rfl⟩
      rw [← hc] at c0 HD hd
      have HST := Lib.hid (vstep_any (dval (L.take j) : Nat) c hd w)
      have q1 : (0 : Int) ≤ (j : Int) := by omega
      have q2 : (j : Int) < (n : Int) := by omega
      obtain ⟨N, hN⟩ : ∃ N, N = dval (L.take j) := ⟨_, rfl⟩
      rw [← hN] at HST HD ⊢
      obtain ⟨x, hx⟩ : ∃ x, x = wrap64 (N : Nat) := ⟨_, rfl⟩
      rw [← hx] at HST ⊢
      have HE := Lib.hid (show wrap64 ((dval (L.take (j + 1)) : Nat) : Int) = wrap64 (10 * (N : Int) + (c.toNat - 48 : Nat)) by rw [HD.out]; push_cast; rfl)
      clear hc hN hx hd
      go_wp2_with (go_at_call 73; refine HST.out.mono ?_; rintro e w' ⟨rfl, rfl⟩; rw [← HE.out])
      go_round
      case rel => exact ⟨j + 1, by omega, by go_num, rfl⟩
      case measure => simp [intOf]; omega
    · obtain rfl : j = n := by omega
      rw [HV.out]
      go_wp2
      go_ret
      exact ⟨rfl, rfl⟩
set_option maxRecDepth 100000 in
theorem valueOf_any (s : ByteArray) (w : World) (hL : ∀ c ∈ s.data.toList, IsD c) (hn : s.size ≤ 1000) :
    Calls Try.prog 60 #[.string s] w fun e w' => e = .returned (.int .i64 (wrap64 (dval s.data.toList : Nat))) ∧ Below w.heap.size w w' := by
  obtain ⟨cap, N, cs, W1, hrun, hb, -, hN, hcs, hbl⟩ : ∃ (cap N : Nat) (cs : Array Value) (W1 : World), (convert 9 76 (.string s)).run Try.prog w = .ok (.slice (some ⟨w.heap.size, 0, none⟩) s.size cap) W1 ∧ W1.heap[w.heap.size]? = some (.cells cs 5 (N, N + 1)) ∧ cs.size = N ∧ s.size ≤ N ∧
      (∀ j (h : j < s.data.toList.length), cs[j]? = some (.int .u8 (s.data.toList[j].toNat))) ∧ Below w.heap.size w W1 := by
    refine ⟨grownCap w s.size 0 5, _, bytesRow s (grownCap w s.size 0 5), _, run_bytes_of_string w 9 76 5 s Try.underlying9 Try.underlying76 Try.underlying5, ?_, rfl, ?_, ?_, ((Below.refl _ w).drew).alloc (Nat.le_refl _) _⟩
    · exact heap_alloc_new w.drew _
    · unfold bytesRow
      rw [Array.size_append, Array.size_map]
      exact Nat.le_add_right _ _
    · intro j hj
      exact bytesRow_at s _ j (by simpa using hj)
  have hv := vfold_any w.heap.size cap s.data.toList W1 (fun j h => by
    have h2 := hcs j h
    simp [World.cell?, hb, h2]) hL (by rw [← size_eq]; omega)
  rw [← size_eq] at hv
  have HV := Lib.hid hv; have HB := Lib.hid hbl
  clear hv hbl hb hcs hL hN
  go_enter Try.func60, Try.ntmps60
  go_wp2_with (go_at_call 72; refine HV.out.mono ?_; rintro e w' ⟨rfl, rfl⟩)
  go_ret
  exact ⟨rfl, HB.out⟩
end Go.Proofs.Ytgpppjfgdbloiaa
