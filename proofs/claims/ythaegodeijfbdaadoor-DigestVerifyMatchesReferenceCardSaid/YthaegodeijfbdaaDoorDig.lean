/- The contracts of Sum, Leaf, Node and Chain. Conditions: the strings are not longer than 2^50 bytes, the table holds what its text says. -/
import Derived.Test.YthaegodeijfbdaaDoorSumOf
import Derived.Test.YthaegodeijfbdaaDoorExt
namespace Go.Proofs.YthaegodeijfbdaaDoor
open Go.RowKit Go.Lib

/-- No longer than 2^50 bytes. -/
def Small (s : ByteArray) : Prop := s.size ≤ 1125899906842624
theorem small_dg (l : List UInt8) : Small (dg l) := by unfold Small; rw [dg_size]; omega
theorem small_32 {s : ByteArray} (h : s.size ≤ 32) : Small s := by unfold Small; omega
theorem bytesOf_one (s : ByteArray) : bytesOf [s] = s.data.toList := by simp [bytesOf]
theorem bytesOf_two (s t : ByteArray) : bytesOf [s, t] = s.data.toList ++ t.data.toList := by simp [bytesOf]
theorem bytesOf_three (s t u : ByteArray) : bytesOf [s, t, u] = s.data.toList ++ (t.data.toList ++ u.data.toList) := by simp [bytesOf]

/-- The parts of a call in a new block. -/
theorem parts_new (w : World) (L : List ByteArray) (t : TypeId) (i : Nat) (h : i < L.length) : (w.alloc (.cells (L.map sv).toArray t)).cell? ⟨w.heap.size, 0 + i, none⟩ = some (.string L[i]) := by
  refine (Blk.new w t _).cell ?_
  rw [List.getElem?_toArray, List.getElem?_map, Nat.zero_add, List.getElem?_eq_getElem h]; rfl

/-- sumOf of parts that a call lays. -/
theorem sumOf_new (L : List ByteArray) (m c : Nat) (t : TypeId) (w : World) (C : Array Value) (hC : C = (L.map sv).toArray) (hm : m = L.length) (hm2 : m ≤ 1000) (hL : (bytesOf L).length ≤ 1152921504606846976) (hT : Tab w) :
    Calls Tryd.prog 28 #[.slice (some ⟨w.heap.size, 0, none⟩) m c] (w.alloc (.cells C t)) fun e w' => e = .returned (.string (dg (bytesOf L))) ∧ Below w.heap.size w w' := by
  subst hC
  have h := sumOf_any w.heap.size 0 m c L (w.alloc (.cells (L.map sv).toArray t)) (by simp) hm hm2 hL (parts_new w L t) (hT.below ((Below.refl _ w).alloc (Nat.le_refl _) _) (Nat.le_refl _))
  exact h.mono fun e w' ⟨he, hb⟩ => ⟨he, ((Below.refl _ w).alloc (Nat.le_refl _) _).trans (hb.mono (by simp))⟩

theorem sumB_any (s : ByteArray) (w : World) (hs : Small s) (hT : Tab w) :
    Calls Tryd.prog 7 #[.string s] w fun e w' => e = .returned (.string (dg s.data.toList)) ∧ Below w.heap.size w w' := by
  have h := fun t C hC => sumOf_new [s] 1 1 t w C hC rfl (by omega) (by rw [bytesOf_one, str_length]; unfold Small at hs; omega) hT
  rw [bytesOf_one] at h
  have HC := Lib.hid h; clear h
  go_enter Tryd.func7, Tryd.ntmps7
  go_wp2_with fail
  refine (HC.out _ _ rfl).mono ?_
  rintro e w' ⟨rfl, hb⟩
  go_wp2
  go_ret
  exact ⟨rfl, hb⟩
theorem leafB_any (s : ByteArray) (w : World) (hs : Small s) (hT : Tab w) :
    Calls Tryd.prog 9 #[.string s] w fun e w' => e = .returned (.string (leafB s)) ∧ Below w.heap.size w w' := by
  have h := fun t C hC => sumOf_new [⟨#[0]⟩, s] 2 2 t w C hC rfl (by omega) (by rw [bytesOf_two, List.length_append, str_length, str_length]; unfold Small at hs; show 1 + s.size ≤ _; omega) hT
  rw [bytesOf_two] at h
  have HC := Lib.hid h; clear h
  go_enter Tryd.func9, Tryd.ntmps9
  go_wp2_with fail
  refine (HC.out _ _ rfl).mono ?_
  rintro e w' ⟨rfl, hb⟩
  go_wp2
  go_ret
  exact ⟨rfl, hb⟩
theorem nodeB_any (a b : ByteArray) (w : World) (ha : Small a) (hb : Small b) (hT : Tab w) :
    Calls Tryd.prog 11 #[.string a, .string b] w fun e w' => e = .returned (.string (nodeB a b)) ∧ Below w.heap.size w w' := by
  have h := fun t C hC => sumOf_new [⟨#[1]⟩, a, b] 3 3 t w C hC rfl (by omega) (by rw [bytesOf_three, List.length_append, List.length_append, str_length, str_length, str_length]; unfold Small at ha hb; show 1 + _ ≤ _; omega) hT
  rw [bytesOf_three] at h
  have HC := Lib.hid h; clear h
  go_enter Tryd.func11, Tryd.ntmps11
  go_wp2_with fail
  refine (HC.out _ _ rfl).mono ?_
  rintro e w' ⟨rfl, hb⟩
  go_wp2
  go_ret
  exact ⟨rfl, hb⟩
theorem chainB_any (a b : ByteArray) (w : World) (ha : Small a) (hb : Small b) (hT : Tab w) :
    Calls Tryd.prog 13 #[.string a, .string b] w fun e w' => e = .returned (.string (chainB a b)) ∧ Below w.heap.size w w' := by
  have h := fun t C hC => sumOf_new [⟨#[2]⟩, a, b] 3 3 t w C hC rfl (by omega) (by rw [bytesOf_three, List.length_append, List.length_append, str_length, str_length, str_length]; unfold Small at ha hb; show 1 + _ ≤ _; omega) hT
  rw [bytesOf_three] at h
  have HC := Lib.hid h; clear h
  go_enter Tryd.func13, Tryd.ntmps13
  go_wp2_with fail
  refine (HC.out _ _ rfl).mono ?_
  rintro e w' ⟨rfl, hb⟩
  go_wp2
  go_ret
  exact ⟨rfl, hb⟩
end Go.Proofs.YthaegodeijfbdaaDoor
