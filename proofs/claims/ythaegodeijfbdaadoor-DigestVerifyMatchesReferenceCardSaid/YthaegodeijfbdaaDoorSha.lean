/- SHA-256 as plain mathematics on lists of bytes: words, the schedule of a block, the rounds, the padding, the blocks of a string; and the digests of the examples. No conditions. -/
import Derived.Test.YthaegodeijfbdaaDoorRows
namespace Go.Proofs.YthaegodeijfbdaaDoor

/-- A word turned to the right by n bits. -/
def rotr (x n : Nat) : Nat := x / 2 ^ n ||| x * 2 ^ (32 - n) % 4294967296
/-- The words that are added in the rounds. -/
def kk : List Nat := [
  1116352408, 1899447441, 3049323471, 3921009573, 961987163, 1508970993, 2453635748, 2870763221,
  3624381080, 310598401, 607225278, 1426881987, 1925078388, 2162078206, 2614888103, 3248222580,
  3835390401, 4022224774, 264347078, 604807628, 770255983, 1249150122, 1555081692, 1996064986,
  2554220882, 2821834349, 2952996808, 3210313671, 3336571891, 3584528711, 113926993, 338241895,
  666307205, 773529912, 1294757372, 1396182291, 1695183700, 1986661051, 2177026350, 2456956037,
  2730485921, 2820302411, 3259730800, 3345764771, 3516065817, 3600352804, 4094571909, 275423344,
  430227734, 506948616, 659060556, 883997877, 958139571, 1322822218, 1537002063, 1747873779,
  1955562222, 2024104815, 2227730452, 2361852424, 2428436474, 2756734187, 3204031479, 3329325298]
/-- The eight words. -/
structure S8 where
  (a b c d e f g h : Nat)
deriving DecidableEq
def s8 : S8 := ⟨1779033703, 3144134277, 1013904242, 2773480762, 1359893119, 2600822924, 528734635, 1541459225⟩
def sx (x : Nat) : Nat := rotr x 7 ^^^ rotr x 18 ^^^ x / 8
def sy (x : Nat) : Nat := rotr x 17 ^^^ rotr x 19 ^^^ x / 1024
/-- The next word of a schedule. -/
def nextW (w : List Nat) (i : Nat) : Nat := (w.getD (i - 16) 0 + sx (w.getD (i - 15) 0) + w.getD (i - 7) 0 + sy (w.getD (i - 2) 0)) % 4294967296
/-- A word of a block. -/
def word (l : List UInt8) (i : Nat) : Nat := (l.getD (4 * i) 0).toNat * 16777216 + (l.getD (4 * i + 1) 0).toNat * 65536 + (l.getD (4 * i + 2) 0).toNat * 256 + (l.getD (4 * i + 3) 0).toNat
/-- The first words of a block's schedule. -/
def sched (l : List UInt8) : Nat → List Nat
  | 0 => []
  | k + 1 => sched l k ++ [if k < 16 then word l k else nextW (sched l k) k]
def tW (s : S8) (k w : Nat) : Nat := (s.h + (rotr s.e 6 ^^^ rotr s.e 11 ^^^ rotr s.e 25) + ((s.e &&& s.f) ^^^ ((4294967295 - s.e) &&& s.g)) + k + w) % 4294967296
def uW (s : S8) : Nat := ((rotr s.a 2 ^^^ rotr s.a 13 ^^^ rotr s.a 22) + ((s.a &&& s.b) ^^^ (s.a &&& s.c) ^^^ (s.b &&& s.c))) % 4294967296
/-- One round. -/
def rnd (s : S8) (k w : Nat) : S8 := ⟨(tW s k w + uW s) % 4294967296, s.a, s.b, s.c, (s.d + tW s k w) % 4294967296, s.e, s.f, s.g⟩
def rnds (s : S8) (w : List Nat) : Nat → S8
  | 0 => s
  | n + 1 => rnd (rnds s w n) (kk.getD n 0) (w.getD n 0)
def add8 (s t : S8) : S8 := ⟨(s.a + t.a) % 4294967296, (s.b + t.b) % 4294967296, (s.c + t.c) % 4294967296, (s.d + t.d) % 4294967296, (s.e + t.e) % 4294967296, (s.f + t.f) % 4294967296, (s.g + t.g) % 4294967296, (s.h + t.h) % 4294967296⟩
/-- The eight words behind a block. -/
def mixS (s : S8) (b : List UInt8) : S8 := add8 s (rnds s (sched b 64) 64)
def be4 (x : Nat) : List UInt8 := [(x / 16777216).toUInt8, (x / 65536).toUInt8, (x / 256).toUInt8, x.toUInt8]
def S8.words (s : S8) : List Nat := [s.a, s.b, s.c, s.d, s.e, s.f, s.g, s.h]
def out8 (s : S8) : List UInt8 := s.words.flatMap be4
/-- A number in eight bytes, the highest one first. -/
def be8 (n : Nat) : List UInt8 := [(n / 72057594037927936).toUInt8, (n / 281474976710656).toUInt8, (n / 1099511627776).toUInt8, (n / 4294967296).toUInt8, (n / 16777216).toUInt8, (n / 65536).toUInt8, (n / 256).toUInt8, n.toUInt8]
/-- What is added to n bytes. -/
def padding (n : Nat) : List UInt8 := 128 :: (List.replicate ((119 - n % 64) % 64) 0 ++ be8 (8 * n))
def chunks : Nat → List UInt8 → List (List UInt8)
  | 0, _ => []
  | n + 1, l => l.take 64 :: chunks n (l.drop 64)
/-- The blocks of a string with its padding. -/
def blocksOf (l : List UInt8) : List (List UInt8) := chunks ((l.length + 72) / 64) (l ++ padding l.length)
def mixAll (s : S8) (bs : List (List UInt8)) : S8 := bs.foldl mixS s
def sha (l : List UInt8) : List UInt8 := out8 (mixAll s8 (blocksOf l))

theorem rotr_lt {x n : Nat} (h : x < 4294967296) : rotr x n < 4294967296 :=
  Nat.or_lt_two_pow (n := 32) (Nat.lt_of_le_of_lt (Nat.div_le_self _ _) h) (Nat.mod_lt _ (by decide))
theorem xor_lt {x y : Nat} (h : x < 4294967296) (k : y < 4294967296) : x ^^^ y < 4294967296 := Nat.xor_lt_two_pow (n := 32) h k
theorem and_lt {x y : Nat} (h : x < 4294967296) : x &&& y < 4294967296 := Nat.lt_of_le_of_lt Nat.and_le_left h
theorem sx_lt {x : Nat} (h : x < 4294967296) : sx x < 4294967296 := xor_lt (xor_lt (rotr_lt h) (rotr_lt h)) (by omega)
theorem sy_lt {x : Nat} (h : x < 4294967296) : sy x < 4294967296 := xor_lt (xor_lt (rotr_lt h) (rotr_lt h)) (by omega)
theorem word_lt (l : List UInt8) (i : Nat) : word l i < 4294967296 := by
  have a := (l.getD (4 * i) 0).toNat_lt
  have b := (l.getD (4 * i + 1) 0).toNat_lt
  have c := (l.getD (4 * i + 2) 0).toNat_lt
  have d := (l.getD (4 * i + 3) 0).toNat_lt
  unfold word; omega
theorem sched_length (l : List UInt8) : ∀ k, (sched l k).length = k
  | 0 => rfl
  | k + 1 => by rw [sched, List.length_append, sched_length l k]; rfl
theorem sched_lt (l : List UInt8) : ∀ k, ∀ x ∈ sched l k, x < 4294967296
  | 0, x, h => by simp [sched] at h
  | k + 1, x, h => by
    rw [sched, List.mem_append] at h
    rcases h with h | h
    · exact sched_lt l k x h
    · rw [List.mem_singleton] at h
      subst h
      split
      · exact word_lt l k
      · exact Nat.mod_lt _ (by decide)
theorem sched_at (l : List UInt8) (k i : Nat) : (sched l k).getD i 0 < 4294967296 := by
  rw [List.getD_eq_getElem?_getD]
  by_cases h : i < (sched l k).length
  · rw [List.getElem?_eq_getElem h]; exact sched_lt l k _ (List.getElem_mem h)
  · rw [List.getElem?_eq_none (by omega)]; decide
/-- A word of the schedule once it is there. -/
theorem sched_stable (l : List UInt8) {i : Nat} : ∀ {k m : Nat}, i < k → k ≤ m → (sched l m).getD i 0 = (sched l k).getD i 0
  | k, 0, h1, h2 => by omega
  | k, m + 1, h1, h2 => by
    by_cases h : k = m + 1
    · rw [h]
    · rw [sched, List.getD_eq_getElem?_getD, List.getElem?_append_left (by rw [sched_length]; omega), ← List.getD_eq_getElem?_getD]
      exact sched_stable l h1 (by omega)
theorem sched_next (l : List UInt8) (k : Nat) : (sched l (k + 1)).getD k 0 = if k < 16 then word l k else nextW (sched l k) k := by
  rw [sched, List.getD_eq_getElem?_getD, List.getElem?_append_right (by rw [sched_length]; omega), sched_length, Nat.sub_self]; rfl
theorem kk_lt : ∀ k : Fin 64, kk.getD k.val 0 < 4294967296 := by decide
theorem kk_at (k : Nat) : kk.getD k 0 < 4294967296 := by
  by_cases h : k < 64
  · exact kk_lt ⟨k, h⟩
  · rw [List.getD_eq_getElem?_getD, List.getElem?_eq_none (by simp [kk]; omega)]; decide

/-- All eight are words. -/
def S8.ok (s : S8) : Prop := s.a < 4294967296 ∧ s.b < 4294967296 ∧ s.c < 4294967296 ∧ s.d < 4294967296 ∧ s.e < 4294967296 ∧ s.f < 4294967296 ∧ s.g < 4294967296 ∧ s.h < 4294967296
theorem s8_ok : s8.ok := by unfold S8.ok; decide
theorem rnd_ok {s : S8} (h : s.ok) (k w : Nat) : (rnd s k w).ok := by
  unfold S8.ok at h
  unfold S8.ok rnd
  exact ⟨Nat.mod_lt _ (by decide), h.1, h.2.1, h.2.2.1, Nat.mod_lt _ (by decide), h.2.2.2.2.1, h.2.2.2.2.2.1, h.2.2.2.2.2.2.1⟩
theorem rnds_ok {s : S8} (h : s.ok) (w : List Nat) : ∀ n, (rnds s w n).ok
  | 0 => h
  | n + 1 => rnd_ok (rnds_ok h w n) _ _
theorem mixS_ok (s : S8) (b : List UInt8) : (mixS s b).ok := by
  unfold mixS add8 S8.ok
  refine ⟨?_, ?_, ?_, ?_, ?_, ?_, ?_, ?_⟩ <;> exact Nat.mod_lt _ (by decide)
theorem mixAll_ok {s : S8} (h : s.ok) : ∀ bs, (mixAll s bs).ok
  | [] => h
  | b :: bs => mixAll_ok (mixS_ok s b) bs
theorem mixAll_snoc (s : S8) (bs : List (List UInt8)) (b : List UInt8) : mixAll s (bs ++ [b]) = mixS (mixAll s bs) b := by simp [mixAll]
theorem out8_length (s : S8) : (out8 s).length = 32 := rfl
theorem sha_length (l : List UInt8) : (sha l).length = 32 := out8_length _

theorem chunks_append (r : List UInt8) (m : Nat) : ∀ pre : List (List UInt8), (∀ b ∈ pre, b.length = 64) → chunks (pre.length + m) (pre.flatten ++ r) = pre ++ chunks m r
  | [], _ => by simp
  | b :: pre, h => by
    have hb : b.length = 64 := h b (by simp)
    rw [List.length_cons, show pre.length + 1 + m = (pre.length + m) + 1 from by omega, chunks, List.flatten_cons, List.append_assoc, List.take_append_of_le_length (by omega), List.drop_append_of_le_length (by omega),
      List.take_of_length_le (by omega), List.drop_of_length_le (by omega), List.nil_append, chunks_append r m pre (fun x hx => h x (by simp [hx]))]
    rfl
theorem flatten_length : ∀ {pre : List (List UInt8)}, (∀ b ∈ pre, b.length = 64) → pre.flatten.length = 64 * pre.length
  | [], _ => rfl
  | b :: pre, h => by
    rw [List.flatten_cons, List.length_append, h b (by simp), flatten_length (fun x hx => h x (by simp [hx])), List.length_cons]; omega
theorem chunks_mem (m : Nat) : ∀ r : List UInt8, 64 * m ≤ r.length → ∀ b ∈ chunks m r, b.length = 64 := by
  induction m with
  | zero => intro r _ b hb; simp [chunks] at hb
  | succ m ih =>
    intro r hr b hb
    rw [chunks, List.mem_cons] at hb
    rcases hb with rfl | hb
    · rw [List.length_take]; omega
    · exact ih _ (by rw [List.length_drop]; omega) b hb
/-- A full block in the middle. -/
theorem blocksOf_mid {pre : List (List UInt8)} (h : ∀ b ∈ pre, b.length = 64) {b s : List UInt8} (hb : b.length = 64) :
    ∃ rest, blocksOf (pre.flatten ++ (b ++ s)) = pre ++ b :: rest := by
  have hl : (pre.flatten ++ (b ++ s)).length = 64 * pre.length + 64 + s.length := by rw [List.length_append, List.length_append, flatten_length h, hb]; omega
  refine ⟨chunks ((s.length + 72) / 64) (s ++ padding (pre.flatten ++ (b ++ s)).length), ?_⟩
  unfold blocksOf
  rw [show ((pre.flatten ++ (b ++ s)).length + 72) / 64 = pre.length + ((s.length + 72) / 64 + 1) from by rw [hl]; omega]
  rw [List.append_assoc, chunks_append _ _ _ h, chunks, List.append_assoc, List.take_append_of_le_length (by omega), List.take_of_length_le (by omega), List.drop_append_of_le_length (by omega), List.drop_of_length_le (by omega), List.nil_append]
/-- The last block, if the length still fits. -/
theorem blocksOf_short {pre : List (List UInt8)} (h : ∀ b ∈ pre, b.length = 64) {r : List UInt8} (hr : r.length < 56) :
    blocksOf (pre.flatten ++ r) = pre ++ [r ++ 128 :: (List.replicate (55 - r.length) 0 ++ be8 (8 * (pre.flatten ++ r).length))] := by
  have hl : (pre.flatten ++ r).length = 64 * pre.length + r.length := by rw [List.length_append, flatten_length h]
  unfold blocksOf padding
  rw [show ((pre.flatten ++ r).length + 72) / 64 = pre.length + 1 from by rw [hl]; omega, show (119 - (pre.flatten ++ r).length % 64) % 64 = 55 - r.length from by rw [hl]; omega,
    List.append_assoc, chunks_append _ _ _ h, chunks, chunks, List.take_of_length_le (by simp [be8]; omega)]
/-- The last two blocks, if it does not. -/
theorem blocksOf_long {pre : List (List UInt8)} (h : ∀ b ∈ pre, b.length = 64) {r : List UInt8} (hr : 56 ≤ r.length) (hr2 : r.length < 64) :
    blocksOf (pre.flatten ++ r) = pre ++ [r ++ 128 :: List.replicate (63 - r.length) 0, List.replicate 56 0 ++ be8 (8 * (pre.flatten ++ r).length)] := by
  have hl : (pre.flatten ++ r).length = 64 * pre.length + r.length := by rw [List.length_append, flatten_length h]
  have e : r ++ 128 :: (List.replicate (119 - r.length) (0 : UInt8) ++ be8 (8 * (pre.flatten ++ r).length)) = (r ++ 128 :: List.replicate (63 - r.length) 0) ++ (List.replicate 56 0 ++ be8 (8 * (pre.flatten ++ r).length)) := by
    rw [show 119 - r.length = (63 - r.length) + 56 from by omega, ← List.replicate_append_replicate]; simp
  have h1 : (r ++ (128 : UInt8) :: List.replicate (63 - r.length) 0).length = 64 := by simp; omega
  unfold blocksOf padding
  rw [show ((pre.flatten ++ r).length + 72) / 64 = pre.length + 2 from by rw [hl]; omega, show (119 - (pre.flatten ++ r).length % 64) % 64 = 119 - r.length from by rw [hl]; omega,
    List.append_assoc, chunks_append _ _ _ h, e, chunks, chunks, chunks, List.take_append_of_le_length (by omega), List.take_of_length_le (by omega), List.drop_append_of_le_length (by omega), List.drop_of_length_le (by omega), List.nil_append, List.take_of_length_le (by simp [be8])]
theorem blocksOf_mem (l : List UInt8) : ∀ b ∈ blocksOf l, b.length = 64 := by
  unfold blocksOf
  refine chunks_mem _ _ ?_
  rw [List.length_append]; unfold padding
  rw [List.length_cons, List.length_append, List.length_replicate]
  show 64 * ((l.length + 72) / 64) ≤ l.length + ((119 - l.length % 64) % 64 + 8 + 1)
  omega
end Go.Proofs.YthaegodeijfbdaaDoor
