/- The contracts of PutString and String: what they return for every string and offset; nothing that lay in memory has changed. Condition: the string is no longer than Go's strings can be. -/
import Derived.Test.YtolpkbjbklcdgaaDoorInt
namespace Go.Proofs.YtolpkbjbklcdgaaDoor
open Go.RowKit Go.Lib

/-- What PutString returns. -/
def putSS (s : ByteArray) : ByteArray := if s.size ≤ 65536 then ⟨(enc s.size).toArray⟩ ++ s else ⟨#[]⟩
def putSE (s : ByteArray) : Int := if s.size ≤ 65536 then 0 else 10

theorem putstring_any (s : ByteArray) (w : World) (hs : s.size ≤ maxLen) :
    Calls Tryd.prog 19 #[.string s] w fun e w' => e = .returned (.tuple #[.string (putSS s), .int .i64 (putSE s)]) ∧ Below w.heap.size w w' := by
  unfold putSS putSE
  unfold maxLen at hs
  by_cases h : s.size ≤ 65536
  · rw [if_pos h, if_pos h]
    have hlen : (⟨(enc s.size).toArray⟩ : ByteArray).size ≤ 9 := enc_length (by unfold okI; omega)
    obtain ⟨p, hp⟩ : ∃ p : ByteArray, p = ⟨(enc s.size).toArray⟩ := ⟨_, rfl⟩
    have hcall := putint_ok s.size w (by omega) (by omega)
    rw [← hp] at hlen hcall ⊢
    have HC := Lib.hid hcall; clear hcall hp
    go_enter Tryd.func19, Tryd.ntmps19
    go_wp2_with (go_at_call 12; refine HC.out.mono ?_; rintro e w' ⟨rfl, hb⟩)
    go_ret2
    exact ⟨rfl, hb⟩
  · rw [if_neg h, if_neg h]
    go_enter Tryd.func19, Tryd.ntmps19
    go_wp2
    go_ret2
    exact ⟨rfl, Below.refl _ _⟩

/-- Decoding a string at the head of the bytes: its bytes and the count of all bytes of the encoding. -/
def decS (l : List UInt8) : Option (Nat × Nat) :=
  match dec l with
  | some (n, j) => if 0 ≤ n ∧ n ≤ 65536 ∧ n ≤ (l.length : Int) - j then some (n.toNat, j) else none
  | none => none
/-- What String returns. -/
def strV (s : ByteArray) (k : Nat) : Option (Nat × Nat) → Ending
  | some (n, j) => .returned (.tuple #[.string (s.extract (k + j) (k + j + n)), .int .i64 (k + j + n), .int .i64 0])
  | none => .returned (.tuple #[.string ⟨#[]⟩, .int .i64 0, .int .i64 10])

/-- A slice expression of a string. -/
theorem run_slice_str {P : Program} (t : TypeId) (ht : P.underlying t = some .string) (s : ByteArray) {x y : Int} (a b : Nat) (hx : x = a) (hy : y = b) (hab : a ≤ b) (hb : b ≤ s.size) (w : World) :
    (Instr.slice t (.string s) (some (.int .i64 x)) (some (.int .i64 y)) none).run P w = .ok (.string (s.extract a b)) w := by
  subst hx; subst hy
  have h1 : (a : Int) ≤ b := by omega
  have h2 : (b : Int) ≤ s.size := by omega
  simp [Instr.slice, run_underlying ht, Instr.sliceBounds, run_sliceBound, h1, h2]
/-- string([]byte(s)) is s, in a new block. -/
theorem bytes_and_back {P : Program} (src dst e : TypeId) (s : ByteArray) (hs : P.underlying src = some .string) (hd : P.underlying dst = some (.slice e)) (he : P.underlying e = some (.int .u8)) (w : World) :
    ∃ V W1, (convert src dst (.string s)).run P w = .ok V W1 ∧ (convert dst src V).run P W1 = .ok (.string s) W1 ∧ Below w.heap.size w W1 := by
  refine ⟨_, _, run_bytes_of_string w src dst e s hs hd he, ?_, ?_⟩
  · have h := run_convert_bytes_back (P := P) (w.drew.alloc (.cells (bytesRow s (grownCap w s.size 0 e)) e ((bytesRow s (grownCap w s.size 0 e)).size, (bytesRow s (grownCap w s.size 0 e)).size + 1)))
      dst src e ⟨w.heap.size, 0, none⟩ (grownCap w s.size 0 e) s.data.toList hd he hs (fun j hj => by
        have e1 : (⟨w.heap.size, 0, none⟩ : Addr).add j = ⟨w.heap.size, j, none⟩ := by unfold Addr.add; split <;> simp_all
        rw [e1]
        have := World.cell?_alloc_mark w.drew (bytesRow s (grownCap w s.size 0 e)) e ((bytesRow s (grownCap w s.size 0 e)).size, (bytesRow s (grownCap w s.size 0 e)).size + 1) j
        exact this.trans (bytesRow_at s _ j (by simpa using hj)))
    exact h
  · exact ((Below.refl _ w).drew).alloc (Nat.le_refl _) _

theorem string_out (s : ByteArray) (a : Int) (w : World) (h : ¬ (0 ≤ a ∧ a ≤ s.size)) :
    Calls Tryd.prog 17 #[.string s, .int .i64 a] w fun e w' => e = .returned (.tuple #[.string ⟨#[]⟩, .int .i64 0, .int .i64 2]) ∧ Below w.heap.size w w' := by
  have HC := Lib.hid (int_out s a w h); clear h
  go_enter Tryd.func17, Tryd.ntmps17
  go_wp2_with (go_at_call 15; refine HC.out.mono ?_; rintro e w' ⟨rfl, rfl⟩)
  go_ret3
  exact ⟨rfl, Below.refl _ _⟩

theorem string_any (s : ByteArray) (k : Nat) (w : World) (hs : s.size ≤ maxLen) (hk : k ≤ s.size) :
    Calls Tryd.prog 17 #[.string s, .int .i64 k] w fun e w' => e = strV s k (decS (s.data.toList.drop k)) ∧ Below w.heap.size w w' := by
  have hc := int_any s k w hs hk
  have hm : s.size ≤ 9223372036854775807 := by unfold maxLen at hs; omega
  have hll : (s.data.toList.drop k).length = s.size - k := by rw [List.length_drop]; rfl
  rcases h : dec (s.data.toList.drop k) with _ | ⟨n, j⟩
  · have hd : decS (s.data.toList.drop k) = none := by unfold decS; rw [h]
    rw [h] at hc
    dsimp only [intV] at hc
    rw [hd]
    have HC := Lib.hid hc; clear hc h hd hll
    go_enter Tryd.func17, Tryd.ntmps17
    go_wp2_with (go_at_call 15; refine HC.out.mono ?_; rintro e w' ⟨rfl, rfl⟩)
    go_ret3
    exact ⟨rfl, Below.refl _ _⟩
  · have hj : k + j ≤ s.size := by
      obtain ⟨_, r, hl, hj⟩ := dec_sound h
      have h2 := congrArg List.length hl
      rw [hll, List.length_append] at h2
      omega
    have hokI := (dec_sound h).1
    unfold okI at hokI
    rw [h] at hc
    dsimp only [intV] at hc
    by_cases h3 : 0 ≤ n ∧ n ≤ 65536 ∧ n ≤ ((s.data.toList.drop k).length : Int) - j
    · have hd : decS (s.data.toList.drop k) = some (n.toNat, j) := by unfold decS; rw [h]; simp only; rw [if_pos h3]
      rw [hd]
      rw [hll] at h3
      obtain ⟨m, rfl⟩ := Int.eq_ofNat_of_zero_le h3.1
      have hm1 : k + j + m ≤ s.size := by omega
      have hm2 : m ≤ 65536 := by omega
      have hsl := run_slice_str (P := Tryd.prog) 9 Tryd.underlying9 s (x := (k : Int) + j) (y := (k : Int) + j + m) (k + j) (k + j + m) (by omega) (by omega) (by omega) hm1 w
      obtain ⟨V, W1, hr1, hr2, hb⟩ := bytes_and_back (P := Tryd.prog) 9 38 5 (s.extract (k + j) (k + j + m)) Tryd.underlying9 Tryd.underlying38 Tryd.underlying5 w
      have HC := Lib.hid hc; clear hc h hd hll h3
      go_enter Tryd.func17, Tryd.ntmps17
      go_wp2_with (go_at_call 15; refine HC.out.mono ?_; rintro e w' ⟨rfl, rfl⟩)
      go_ret3
      exact ⟨rfl, hb⟩
    · have hd : decS (s.data.toList.drop k) = none := by unfold decS; rw [h]; simp only; rw [if_neg h3]
      rw [hd]
      rw [hll] at h3
      have h3' : n < 0 ∨ 65536 < n ∨ ((s.size : Int) - (k + j) < n) := by omega
      have HC := Lib.hid hc; clear hc h hd hll h3
      by_cases hn0 : n < 0
      · go_enter Tryd.func17, Tryd.ntmps17
        go_wp2_with (go_at_call 15; refine HC.out.mono ?_; rintro e w' ⟨rfl, rfl⟩)
        go_ret3
        exact ⟨rfl, Below.refl _ _⟩
      · by_cases hn1 : 65536 < n
        · go_enter Tryd.func17, Tryd.ntmps17
          go_wp2_with (go_at_call 15; refine HC.out.mono ?_; rintro e w' ⟨rfl, rfl⟩)
          go_ret3
          exact ⟨rfl, Below.refl _ _⟩
        · have hn2 : (s.size : Int) - (k + j) < n := by omega
          clear h3'
          go_enter Tryd.func17, Tryd.ntmps17
          go_wp2_with (go_at_call 15; refine HC.out.mono ?_; rintro e w' ⟨rfl, rfl⟩)
          go_ret3
          exact ⟨rfl, Below.refl _ _⟩
end Go.Proofs.YtolpkbjbklcdgaaDoor
