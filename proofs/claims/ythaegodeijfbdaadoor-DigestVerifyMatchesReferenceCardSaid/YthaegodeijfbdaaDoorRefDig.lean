/- The contracts of the reference's Leaf, Node and Chain. Conditions: the strings are no longer than 1,000 bytes. -/
import Derived.Test.YthaegodeijfbdaaDoorRefSum
namespace Go.Proofs.YthaegodeijfbdaaDoor
open Go.RowKit Go.Lib

theorem str_one (c : UInt8) (s : ByteArray) : ((⟨#[c]⟩ : ByteArray) ++ s).data.toList = c :: s.data.toList := by
  rw [ByteArray.data_append, Array.toList_append]; rfl
theorem str_two (c : UInt8) (a b : ByteArray) : ((⟨#[c]⟩ : ByteArray) ++ a ++ b).data.toList = c :: (a.data.toList ++ b.data.toList) := by
  rw [ByteArray.data_append, Array.toList_append, str_one]; rfl
theorem size_two (c : UInt8) (a b : ByteArray) : ((⟨#[c]⟩ : ByteArray) ++ a ++ b).size = 1 + a.size + b.size := by
  rw [ByteArray.size_append, ByteArray.size_append]; rfl
theorem size_one (c : UInt8) (a : ByteArray) : ((⟨#[c]⟩ : ByteArray) ++ a).size = 1 + a.size := by
  rw [ByteArray.size_append]; rfl

theorem refleaf_any (s : ByteArray) (w : World) (hs : s.size ≤ 1000) :
    Calls Tryd.prog 10 #[.string s] w fun e w' => e = .returned (.string (leafB s)) ∧ Below w.heap.size w w' := by
  have h := fun W => refsum_any (⟨#[0]⟩ ++ s) W (by rw [size_one]; omega)
  rw [str_one] at h
  have HC := Lib.hid h; clear h
  go_enter Tryd.func10, Tryd.ntmps10
  go_wp2_with fail
  refine (HC.out _).mono ?_
  rintro e w' ⟨rfl, hb⟩
  go_wp2_with fail
  go_ret
  exact ⟨rfl, hb⟩
theorem refnode_any (a b : ByteArray) (w : World) (ha : a.size ≤ 1000) (hb : b.size ≤ 1000) :
    Calls Tryd.prog 12 #[.string a, .string b] w fun e w' => e = .returned (.string (nodeB a b)) ∧ Below w.heap.size w w' := by
  have h := fun W => refsum_any (⟨#[1]⟩ ++ a ++ b) W (by rw [size_two]; omega)
  rw [str_two] at h
  have HC := Lib.hid h; clear h
  go_enter Tryd.func12, Tryd.ntmps12
  go_wp2_with fail
  refine (HC.out _).mono ?_
  rintro e w' ⟨rfl, hb⟩
  go_wp2_with fail
  go_ret
  exact ⟨rfl, hb⟩
theorem refchain_any (a b : ByteArray) (w : World) (ha : a.size ≤ 1000) (hb : b.size ≤ 1000) :
    Calls Tryd.prog 14 #[.string a, .string b] w fun e w' => e = .returned (.string (chainB a b)) ∧ Below w.heap.size w w' := by
  have h := fun W => refsum_any (⟨#[2]⟩ ++ a ++ b) W (by rw [size_two]; omega)
  rw [str_two] at h
  have HC := Lib.hid h; clear h
  go_enter Tryd.func14, Tryd.ntmps14
  go_wp2_with fail
  refine (HC.out _).mono ?_
  rintro e w' ⟨rfl, hb⟩
  go_wp2_with fail
  go_ret
  exact ⟨rfl, hb⟩
end Go.Proofs.YthaegodeijfbdaaDoor
