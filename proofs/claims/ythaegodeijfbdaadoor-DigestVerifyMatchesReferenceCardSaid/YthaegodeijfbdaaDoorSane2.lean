/- The contract of the statements' helper sane: the examples come out as they must. Condition: the table holds what its text says. -/
import Derived.Test.YthaegodeijfbdaaDoorFew
namespace Go.Proofs.YthaegodeijfbdaaDoor
open Go.RowKit Go.Lib

def sA : ByteArray := ⟨#[97]⟩
def sB : ByteArray := ⟨#[98]⟩
def sC : ByteArray := ⟨#[99]⟩
def sD : ByteArray := ⟨#[100]⟩
def L3 : List ByteArray := [sA, sB, sC]
theorem spl_two : spl 2 = 1 := by decide +kernel
theorem spl_three : spl 3 = 2 := by decide +kernel
theorem root_ab : rootB [sA, sB] = nodeB (leafB sA) (leafB sB) := by
  rw [rootB_two (by decide), show [sA, sB].length = 2 from rfl, spl_two]
  show nodeB (rootB [sA]) (rootB [sB]) = _
  rw [rootB_one, rootB_one]
theorem root_L3 : rootB L3 = nodeB (nodeB (leafB sA) (leafB sB)) (leafB sC) := by
  rw [rootB_two (by decide), show L3.length = 3 from rfl, spl_three]
  show nodeB (rootB [sA, sB]) (rootB [sC]) = _
  rw [root_ab, rootB_one]
theorem proof_L3 : proofB L3 2 = [nodeB (leafB sA) (leafB sB)] := by
  rw [proofB_hi (by decide) (by rw [show L3.length = 3 from rfl, spl_three]; omega), show L3.length = 3 from rfl, spl_three]
  show proofB [sC] 0 ++ [rootB [sA, sB]] = _
  rw [proofB_one (by decide), root_ab]; rfl
theorem ext_L3 : extB L3 1 true = [leafB sB, leafB sC] := by
  rw [extB_lo (by decide) (by decide) (by rw [show L3.length = 3 from rfl, spl_three]; omega), show L3.length = 3 from rfl, spl_three]
  show extB [sA, sB] 1 true ++ [rootB [sC]] = _
  rw [extB_lo (by decide) (by decide) (by rw [show [sA, sB].length = 2 from rfl, spl_two]; omega), show [sA, sB].length = 2 from rfl, spl_two]
  show (extB [sA] 1 true ++ [rootB [sB]]) ++ [rootB [sC]] = _
  rw [extB_all (by decide), if_pos rfl, rootB_one sB, rootB_one sC]; rfl
theorem small_L3 : ∀ s ∈ L3, Small s := by
  intro s hs
  unfold Small
  simp [L3] at hs
  rcases hs with rfl | rfl | rfl <;> decide

theorem ne_list {a b : ByteArray} (h : a.data.toList ≠ b.data.toList) : a ≠ b := fun e => h (by rw [e])
set_option maxRecDepth 100000 in
theorem hex_nil : hexL (sha []) = [101, 51, 98, 48, 99, 52, 52, 50, 57, 56, 102, 99, 49, 99, 49, 52, 57, 97, 102, 98, 102, 52, 99, 56, 57, 57, 54, 102, 98, 57, 50, 52, 50, 55, 97, 101, 52, 49, 101, 52, 54, 52, 57, 98, 57, 51, 52, 99, 97, 52, 57, 53, 57, 57, 49, 98, 55, 56, 53, 50, 98, 56, 53, 53] := by decide +kernel
set_option maxRecDepth 100000 in
theorem hex_abc : hexL (sha [97, 98, 99]) = [98, 97, 55, 56, 49, 54, 98, 102, 56, 102, 48, 49, 99, 102, 101, 97, 52, 49, 52, 49, 52, 48, 100, 101, 53, 100, 97, 101, 50, 50, 50, 51, 98, 48, 48, 51, 54, 49, 97, 51, 57, 54, 49, 55, 55, 97, 57, 99, 98, 52, 49, 48, 102, 102, 54, 49, 102, 50, 48, 48, 49, 53, 97, 100] := by decide +kernel
set_option maxRecDepth 100000 in
theorem node_cd : nodeB (nodeB (leafB sA) (leafB sB)) (leafB sD) ≠ nodeB (nodeB (leafB sA) (leafB sB)) (leafB sC) := ne_list (by decide +kernel)
set_option maxRecDepth 100000 in
theorem node_abb : nodeB (nodeB (nodeB (leafB sA) (leafB sB)) (leafB sB)) (leafB sC) ≠ nodeB (nodeB (leafB sA) (leafB sB)) (leafB sC) := ne_list (by decide +kernel)

theorem ver_c : verB (rootB L3) 3 2 sC (proofB L3 2) = true := by
  have h := verB_in (root := rootB L3) (s := sC) (P := proofB L3 2) (i := 2) (n := 3) (by omega) (all32_of (proofB_sizes 3 L3 2 (Nat.le_refl _)))
  have h2 := proofB_accepted 3 L3 2 sC rfl (Nat.le_refl _)
  rw [show L3.length = 3 from rfl] at h2
  rw [h2] at h
  rw [show (3 : Int) = ((3 : Nat) : Int) from rfl, show (2 : Int) = ((2 : Nat) : Int) from rfl, h]
  simp
theorem ver_d : verB (rootB L3) 3 2 sD (proofB L3 2) = false := by
  have h := verB_in (root := rootB L3) (s := sD) (P := proofB L3 2) (i := 2) (n := 3) (by omega) (all32_of (proofB_sizes 3 L3 2 (Nat.le_refl _)))
  rw [show (3 : Int) = ((3 : Nat) : Int) from rfl, show (2 : Int) = ((2 : Nat) : Int) from rfl, h, proof_L3, root_L3]
  have e : valueB 3 2 sD [nodeB (leafB sA) (leafB sB)] = (nodeB (nodeB (leafB sA) (leafB sB)) (leafB sD), true) := by
    have := valueB_hi (n := 3) (i := 2) (s := sD) (x := nodeB (leafB sA) (leafB sB)) (p := []) (by omega) (by rw [spl_three]; omega)
    rw [List.nil_append, spl_three] at this
    rw [this, valueB_one]; rfl
  rw [e]
  simp only [Bool.true_and, decide_eq_false_iff_not]
  exact node_cd
theorem all_two : all32 [rootB [sA], rootB L3] = true := all32_of fun x hx => by simp at hx; rcases hx with rfl | rfl <;> exact rootB_size _
theorem all_two' : all32 [rootB [sA, sB], rootB L3] = true := all32_of fun x hx => by simp at hx; rcases hx with rfl | rfl <;> exact rootB_size _
theorem ext_a : extOk (rootB [sA]) 1 (rootB L3) 3 (extB L3 1 true) = true := by
  have h := extOk_in (old := rootB [sA]) (root := rootB L3) (P := extB L3 1 true) (m := 1) (n := 3) (by omega) (by omega) all_two (all32_of (extB_sizes 3 L3 1 true (Nat.le_refl _)))
  have h2 := extB_accepted 3 L3 1 true (rootB [sA]) (by omega) (by decide) (Nat.le_refl _) (fun _ => rfl)
  rw [show L3.length = 3 from rfl] at h2
  rw [h2] at h
  rw [show (3 : Int) = ((3 : Nat) : Int) from rfl, show (1 : Int) = ((1 : Nat) : Int) from rfl, h]
  show (true && (decide (rootB [sA] = rootB [sA]) && decide (rootB L3 = rootB L3))) = true
  simp
theorem ext_ab : extOk (rootB [sA, sB]) 1 (rootB L3) 3 (extB L3 1 true) = false := by
  have h := extOk_in (old := rootB [sA, sB]) (root := rootB L3) (P := extB L3 1 true) (m := 1) (n := 3) (by omega) (by omega) all_two' (all32_of (extB_sizes 3 L3 1 true (Nat.le_refl _)))
  rw [show (3 : Int) = ((3 : Nat) : Int) from rfl, show (1 : Int) = ((1 : Nat) : Int) from rfl, h, ext_L3, root_ab, root_L3]
  have e : twoB (nodeB (leafB sA) (leafB sB)) 1 3 [leafB sB, leafB sC] true = (nodeB (leafB sA) (leafB sB), nodeB (nodeB (nodeB (leafB sA) (leafB sB)) (leafB sB)) (leafB sC), true) := by
    have h1 := twoB_lo (old := nodeB (leafB sA) (leafB sB)) (x := leafB sC) (m := 1) (n := 3) (p := [leafB sB]) (whole := true) (by omega) (by rw [spl_three]; omega)
    have h2 := twoB_lo (old := nodeB (leafB sA) (leafB sB)) (x := leafB sB) (m := 1) (n := 2) (p := []) (whole := true) (by omega) (by rw [spl_two]; omega)
    rw [spl_three] at h1
    rw [spl_two, twoB_whole] at h2
    rw [List.nil_append] at h2
    rw [h2] at h1
    exact h1
  rw [e]
  simp only [Bool.true_and, decide_true]
  rw [decide_eq_false node_abb]

theorem Rd.step {W W' : World} {A : Option Addr} {n c : Nat} {L : List ByteArray} (h : Rd W W.heap.size A n c L) (hb : Below W.heap.size W W') : Rd W' W'.heap.size A n c L := (h.below hb).more hb.size
theorem mk_list' (l : List UInt8) : (⟨l.toArray⟩ : ByteArray).data.toList = l := rfl
/-- Where a walk stands: nothing below has changed, and the table held at the beginning. -/
def Now (w W : World) : Prop := Below w.heap.size w W ∧ Tab w
theorem Now.start {w : World} (h : Tab w) : Now w w := ⟨Below.refl _ _, h⟩
theorem Now.tab {w W : World} (h : Now w W) : Tab W := h.2.below h.1 (Nat.le_refl _)
theorem Now.size {w W : World} (h : Now w W) : w.heap.size ≤ W.heap.size := h.1.size
theorem Now.step {w W W' : World} (h : Now w W) (hb : Below W.heap.size W W') : Now w W' := ⟨h.1.trans (hb.mono h.1.size), h.2⟩
theorem Now.alloc {w W : World} (h : Now w W) (o : Obj) : Now w (W.alloc o) := h.step ((Below.refl _ _).alloc (Nat.le_refl _) o)
theorem Now.drewN {w W : World} (h : Now w W) (k : Nat) : Now w (W.drewN k) := ⟨below_drewN h.1 k, h.2⟩
theorem Now.drew {w W : World} (h : Now w W) : Now w W.drew := ⟨h.1.drew, h.2⟩
theorem own_shape {W : World} {B m : Nat} {v : Value} {L : List ByteArray} (h : W.ownsRow B 9 1 v L.length (L.map sv)) (hm : L.length = m) (h0 : 0 < m) : ∃ g cap, v = .slice (some ⟨g, 0, none⟩) m cap ∧ Rd W W.heap.size (some ⟨g, 0, none⟩) m cap L := by
  obtain ⟨n, rfl⟩ : ∃ n, m = n + 1 := ⟨m - 1, by omega⟩
  rw [hm] at h
  obtain ⟨g, cap, rfl⟩ := ownsRow_succ h
  exact ⟨g, cap, rfl, Rd.of_own h⟩
theorem Rd.of_own2 {W : World} {B : Nat} {v : Value} {L : List ByteArray} (h : W.ownsRow B 9 1 v L.length (L.map sv)) : ∃ A c, v = .slice A L.length c ∧ Rd W W.heap.size A L.length c L := by
  rcases hL : L.length with _ | n
  · have h2 := h.2
    rw [hL] at h2
    rcases h2 with ⟨h0, _⟩ | ⟨g, cap, cur, rfl, _⟩
    · subst h0
      have : L = [] := List.eq_nil_of_length_eq_zero hL
      subst this
      exact ⟨none, 0, rfl, rfl, Nat.le_refl _, fun hh => absurd hh (by omega)⟩
    · rw [hL] at h; exact ⟨_, _, rfl, Rd.of_own h⟩
  · obtain ⟨g, cap, rfl, hR⟩ := own_shape h hL (by omega)
    exact ⟨_, _, rfl, hR⟩
theorem read_three (w : World) (x y z : ByteArray) (t : TypeId) : Rd (w.alloc (.cells #[.string x, .string y, .string z] t)) (w.alloc (.cells #[.string x, .string y, .string z] t)).heap.size (some ⟨w.heap.size, 0, none⟩) 3 3 [x, y, z] :=
  ⟨rfl, Nat.le_refl _, fun _ => ⟨w.heap.size, 0, rfl, by rw [World.size_alloc]; omega, fun i hi => by
    refine (Blk.new w t _).cell ?_
    rw [Nat.zero_add]
    match i, hi with
    | 0, _ => rfl
    | 1, _ => rfl
    | 2, _ => rfl⟩⟩

set_option maxRecDepth 100000 in
set_option maxHeartbeats 4000000 in
theorem sane_any (w : World) (hT : Tab w) : Calls Tryd.prog 6 #[] w fun e w' => e = .returned (.bool true) ∧ Below w.heap.size w w' := by
  have HN0 := Lib.hid fun t => (Now.start hT).alloc (.cells #[.string sA, .string sB, .string sC] t)
  have HL0 := Lib.hid fun t => read_three w sA sB sC t
  clear hT
  have LP : Hid ((proofB L3 2).length = 1) := by show _ = _; rw [proof_L3]; rfl
  have LX : Hid ((extB L3 1 true).length = 2) := by show _ = _; rw [ext_L3]; rfl
  have S1 := fun c (hc : 3 ≤ c) W => run_slice_to 26 9 w.heap.size 0 3 c 1 Tryd.underlying26 infoStr (by omega) hc W
  have S2 := fun c (hc : 3 ≤ c) W => run_slice_to 26 9 w.heap.size 0 3 c 2 Tryd.underlying26 infoStr (by omega) hc W
  rw [show ((1 : Nat) : Int) = 1 from rfl] at S1
  rw [show ((2 : Nat) : Int) = 2 from rfl] at S2
  have S1 := S1 3 (Nat.le_refl _)
  have S2 := S2 3 (Nat.le_refl _)
  have Q1 : (({ data := #[101, 51, 98, 48, 99, 52, 52, 50, 57, 56, 102, 99, 49, 99, 49, 52, 57, 97, 102, 98, 102, 52, 99, 56, 57, 57, 54, 102, 98, 57, 50, 52, 50, 55, 97, 101, 52, 49, 101, 52, 54, 52, 57, 98, 57, 51, 52, 99, 97, 52, 57, 53, 57, 57, 49, 98, 55, 56, 53, 50, 98, 56, 53, 53] } : ByteArray)) = mk (hexL (dg []).data.toList) := by rw [dg, mk_list', hex_nil]; rfl
  have Q2 : (({ data := #[98, 97, 55, 56, 49, 54, 98, 102, 56, 102, 48, 49, 99, 102, 101, 97, 52, 49, 52, 49, 52, 48, 100, 101, 53, 100, 97, 101, 50, 50, 50, 51, 98, 48, 48, 51, 54, 49, 97, 51, 57, 54, 49, 55, 55, 97, 57, 99, 98, 52, 49, 48, 102, 102, 54, 49, 102, 50, 48, 48, 49, 53, 97, 100] } : ByteArray)) = mk (hexL (dg [97, 98, 99]).data.toList) := by rw [dg, mk_list', hex_abc]; rfl
  have K1 := fun W => hex_any (dg []) W (by rw [dg_size]; omega)
  have K2 := fun W => hex_any (dg [97, 98, 99]) W (by rw [dg_size]; omega)
  rw [← Q1] at K1
  rw [← Q2] at K2
  have K1 := Lib.hid K1
  have K2 := Lib.hid K2
  clear Q1 Q2
  have max32 : ∀ {P : List ByteArray}, (∀ x ∈ P, x.size = 32) → ∀ x ∈ P, x.size ≤ 9223372036854775807 := fun h x hx => by rw [h x hx]; omega
  have MP := Lib.hid (max32 (proofB_sizes 3 L3 2 (Nat.le_refl _)))
  have MX := Lib.hid (max32 (extB_sizes 3 L3 1 true (Nat.le_refl _)))
  have rs : ∀ L, (rootB L).size ≤ 9223372036854775807 := fun L => by rw [rootB_size]; omega
  have RS := Lib.hid (rs [sA])
  have RS2 := Lib.hid (rs L3)
  have RS3 := Lib.hid (rs [sA, sB])
  clear max32 rs
  go_enter Tryd.func6, Tryd.ntmps6
  go_wp2_with fail
  refine (proof_in L3 _ 3 3 _ 2 _ (HL0.out _) (Nat.le_refl _) (by omega) (by omega) small_L3 (HN0.out _).tab).mono ?_
  rintro e W1 ⟨v1, rfl, ho1, hb1⟩
  have HN1 := Lib.hid ((HN0.out _).step hb1); have HL1 := Lib.hid ((HL0.out _).step hb1)
  obtain ⟨g1, c1, rfl, hp1⟩ := own_shape ho1 LP.out (by omega)
  have HP1 := Lib.hid hp1
  clear HN0 HL0 hb1 ho1 hp1
  go_wp2_with fail
  refine (ext_in L3 _ 3 3 _ 1 _ HL1.out (Nat.le_refl _) (by omega) (by omega) (by omega) small_L3 HN1.out.tab).mono ?_
  rintro e W2 ⟨v2, rfl, ho2, hb2⟩
  have HN2 := Lib.hid (HN1.out.step hb2); have HL2 := Lib.hid (HL1.out.step hb2); have HP2 := Lib.hid (HP1.out.step hb2)
  obtain ⟨g2, c2, rfl, hx2⟩ := own_shape ho2 LX.out (by omega)
  have HX2 := Lib.hid hx2
  clear HN1 HL1 HP1 hb2 ho2 hx2
  go_wp2_with fail
  refine (proof_out L3 _ 3 3 3 _ (by omega)).mono ?_
  rintro e W3 ⟨v3, rfl, ho3, hb3⟩
  have HN3 := Lib.hid (HN2.out.step hb3); have HL3 := Lib.hid (HL2.out.step hb3); have HP3 := Lib.hid (HP2.out.step hb3); have HX3 := Lib.hid (HX2.out.step hb3)
  clear HN2 HL2 HP2 HX2 hb3 ho3
  go_wp2_with fail
  refine (root_any 3 L3 _ 3 3 _ _ (by decide) HL3.out (Nat.le_refl _) (by omega) small_L3 HN3.out.tab).mono ?_
  rintro e W4 ⟨rfl, hb4⟩
  have HN4 := Lib.hid (HN3.out.step hb4); have HL4 := Lib.hid (HL3.out.step hb4); have HP4 := Lib.hid (HP3.out.step hb4); have HX4 := Lib.hid (HX3.out.step hb4)
  clear HN3 HL3 HP3 HX3 hb4
  go_wp2_with fail
  refine (sumB_any _ _ (by unfold Small; decide) HN4.out.tab).mono ?_
  rintro e W5 ⟨rfl, hb5⟩
  have HN5 := Lib.hid (HN4.out.step hb5); have HL5 := Lib.hid (HL4.out.step hb5); have HP5 := Lib.hid (HP4.out.step hb5); have HX5 := Lib.hid (HX4.out.step hb5)
  clear HN4 HL4 HP4 HX4 hb5
  go_wp2_with fail
  refine (K1.out _).mono ?_
  rintro e W6 ⟨rfl, k6, hk6⟩
  have hb6 : Below W5.heap.size W5 W6 := by rw [hk6]; exact below_drewN (Below.refl _ _) k6
  have HN6 := Lib.hid (HN5.out.step hb6); have HL6 := Lib.hid (Rd.step HL5.out hb6); have HP6 := Lib.hid (Rd.step HP5.out hb6); have HX6 := Lib.hid (Rd.step HX5.out hb6)
  clear HN5 HL5 HP5 HX5 hb6 hk6 K1
  go_wp2_with fail
  refine (sumB_any _ _ (by unfold Small; decide) HN6.out.tab).mono ?_
  rintro e W7 ⟨rfl, hb7⟩
  have HN7 := Lib.hid (HN6.out.step hb7); have HL7 := Lib.hid (Rd.step HL6.out hb7); have HP7 := Lib.hid (Rd.step HP6.out hb7); have HX7 := Lib.hid (Rd.step HX6.out hb7)
  clear HN6 HL6 HP6 HX6 hb7
  go_wp2_with fail
  refine (K2.out _).mono ?_
  rintro e W8 ⟨rfl, k8, hk8⟩
  have hb8 : Below W7.heap.size W7 W8 := by rw [hk8]; exact below_drewN (Below.refl _ _) k8
  have HN8 := Lib.hid (HN7.out.step hb8); have HL8 := Lib.hid (Rd.step HL7.out hb8); have HP8 := Lib.hid (Rd.step HP7.out hb8); have HX8 := Lib.hid (Rd.step HX7.out hb8)
  clear HN7 HL7 HP7 HX7 hb8 hk8 K2
  go_wp2_with fail
  refine (verify_any (rootB L3) 3 2 sC _ 1 _ _ (proofB L3 2) _ (by omega) HP8.out (Nat.le_refl _) (by omega) (by unfold Small; decide) MP.out HN8.out.tab).mono ?_
  rintro e W9 ⟨rfl, hb9⟩
  rw [ver_c]
  have HN9 := Lib.hid (HN8.out.step hb9); have HL9 := Lib.hid (Rd.step HL8.out hb9); have HP9 := Lib.hid (Rd.step HP8.out hb9); have HX9 := Lib.hid (Rd.step HX8.out hb9)
  clear HN8 HL8 HP8 HX8 hb9
  go_wp2_with fail
  refine (verify_any (rootB L3) 3 2 sD _ 1 _ _ (proofB L3 2) _ (by omega) HP9.out (Nat.le_refl _) (by omega) (by unfold Small; decide) MP.out HN9.out.tab).mono ?_
  rintro e W10 ⟨rfl, hb10⟩
  rw [ver_d]
  have HN10 := Lib.hid (HN9.out.step hb10); have HL10 := Lib.hid (Rd.step HL9.out hb10); have HP10 := Lib.hid (Rd.step HP9.out hb10); have HX10 := Lib.hid (Rd.step HX9.out hb10)
  clear HN9 HL9 HP9 HX9 hb10
  go_wp2_with fail
  refine (root_any 1 [sA] _ 1 3 _ _ (by decide) (HL10.out.take (k := 1) (by omega)) (Nat.le_refl _) (by omega) (small_take small_L3 1) HN10.out.tab).mono ?_
  rintro e W11 ⟨rfl, hb11⟩
  have HN11 := Lib.hid (HN10.out.step hb11); have HL11 := Lib.hid (Rd.step HL10.out hb11); have HP11 := Lib.hid (Rd.step HP10.out hb11); have HX11 := Lib.hid (Rd.step HX10.out hb11)
  clear HN10 HL10 HP10 HX10 hb11
  go_wp2_with fail
  refine (verExt_any (rootB [sA]) (rootB L3) 1 3 _ 2 _ _ (extB L3 1 true) _ (by omega) HX11.out (Nat.le_refl _) (by omega) RS.out RS2.out MX.out HN11.out.tab).mono ?_
  rintro e W12 ⟨rfl, hb12⟩
  rw [ext_a]
  have HN12 := Lib.hid (HN11.out.step hb12); have HL12 := Lib.hid (Rd.step HL11.out hb12); have HP12 := Lib.hid (Rd.step HP11.out hb12); have HX12 := Lib.hid (Rd.step HX11.out hb12)
  clear HN11 HL11 HP11 HX11 hb12
  go_wp2_with fail
  refine (root_any 2 [sA, sB] _ 2 3 _ _ (by decide) (HL12.out.take (k := 2) (by omega)) (Nat.le_refl _) (by omega) (small_take small_L3 2) HN12.out.tab).mono ?_
  rintro e W13 ⟨rfl, hb13⟩
  have HN13 := Lib.hid (HN12.out.step hb13); have HL13 := Lib.hid (Rd.step HL12.out hb13); have HP13 := Lib.hid (Rd.step HP12.out hb13); have HX13 := Lib.hid (Rd.step HX12.out hb13)
  clear HN12 HL12 HP12 HX12 hb13
  go_wp2_with fail
  refine (verExt_any (rootB [sA, sB]) (rootB L3) 1 3 _ 2 _ _ (extB L3 1 true) _ (by omega) HX13.out (Nat.le_refl _) (by omega) RS3.out RS2.out MX.out HN13.out.tab).mono ?_
  rintro e W14 ⟨rfl, hb14⟩
  rw [ext_ab]
  have HN14 := Lib.hid (HN13.out.step hb14); have HL14 := Lib.hid (Rd.step HL13.out hb14); have HP14 := Lib.hid (Rd.step HP13.out hb14); have HX14 := Lib.hid (Rd.step HX13.out hb14)
  clear HN13 HL13 HP13 HX13 hb14
  go_wp2
  go_ret
  exact ⟨rfl, HN14.out.1⟩
end Go.Proofs.YthaegodeijfbdaaDoor
