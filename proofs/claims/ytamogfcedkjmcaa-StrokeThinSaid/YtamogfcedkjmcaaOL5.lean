
/- The walk of StrokeTolerance. Conditions: the slice reads. -/
import Derived.Test.YtamogfcedkjmcaaLm5
import Derived.Test.YtamogfcedkjmcaaGs5
namespace Go.Proofs.Ytamogfcedkjmcaa
open Go.RowKit Go.Lib Go.Shelf

theorem Iz.some {w : World} {A : Option Addr} {l : List Int} (h : Iz w A l) (hn : 0 < l.length) : ∃ b o, A = .some ⟨b, o, none⟩ := by
  obtain ⟨b, o, e, -, -⟩ := h hn
  exact ⟨b, o, e⟩
theorem iz_nat {w : World} {b o k x : Nat} {C : List Nat} (h : Iz w (some ⟨b, o, none⟩) (C.map Int.ofNat)) (hx : C[k]? = some x) : w.cell? ⟨b, o + k, none⟩ = some (.int .i64 (x : Nat)) := by
  obtain ⟨hk, rfl⟩ := List.getElem?_eq_some_iff.1 hx
  obtain ⟨b2, o2, e, -, hc⟩ := h (by simp; omega)
  simp only [Option.some.injEq, Addr.mk.injEq, and_true] at e
  obtain ⟨rfl, rfl⟩ := e
  have := hc k (by simpa using hk)
  rw [this]
  simp
theorem kept_thin {B : Nat → Nat → Prop} {P N : Int} {ds : List Dt} {C : List Nat} (hv : Vd P N ds) (h : Wy B (ds.length - 1) C) : KeptP P N ds (C.map Int.ofNat) := by
  have hl := hv.2.2.1
  refine ⟨hv, by have := h.len; rw [List.length_map]; omega, fun i hi k hk => ?_⟩
  rw [List.getElem?_map] at hk
  obtain ⟨x, hx, rfl⟩ := Option.map_eq_some_iff.1 hk
  have h1 := h.le x (List.mem_of_getElem? hx)
  refine ⟨⟨Int.natCast_nonneg _, by show (x : Int) < _; omega⟩, fun h0 a ha => ?_⟩
  rw [List.getElem?_map] at ha
  obtain ⟨y, hy, rfl⟩ := Option.map_eq_some_iff.1 ha
  have h2 := (h.next (i - 1) y x hy (by rw [show i - 1 + 1 = i by omega]; exact hx)).1
  show (y : Int) < (x : Int)
  omega
/-- The list's place at i: its number is at most i, the next one's is more. -/
def AtC (C : List Nat) (i a : Nat) : Prop := ∃ v, C[a]? = some v ∧ v ≤ i ∧ ∀ u, C[a + 1]? = some u → i < u
def HeadC (C : List Nat) (i a : Nat) : Prop := (i = 0 ∧ a = 0) ∨ ∃ j, i = j + 1 ∧ AtC C j a
theorem HeadC.lt {C : List Nat} {i a : Nat} (h0 : C[0]? = some 0) (h : HeadC C i a) : a < C.length := by
  rcases h with ⟨_, rfl⟩ | ⟨j, _, v, hv, _⟩
  · exact (List.getElem?_eq_some_iff.1 h0).1
  · exact (List.getElem?_eq_some_iff.1 hv).1
theorem HeadC.stay {C : List Nat} {i a : Nat} (h0 : C[0]? = some 0) (h : HeadC C i a) (hn : ∀ u, C[a + 1]? = some u → i < u) : AtC C i a := by
  rcases h with ⟨rfl, rfl⟩ | ⟨j, rfl, v, hv, h1, h2⟩
  · exact ⟨0, h0, Nat.le_refl _, hn⟩
  · exact ⟨v, hv, by omega, hn⟩
theorem HeadC.go {C : List Nat} {i a u : Nat} (h0 : C[0]? = some 0) (hC : ∀ k x y, C[k]? = some x → C[k + 1]? = some y → x < y) (h : HeadC C i a) (hu : C[a + 1]? = some u) (hui : u ≤ i) : AtC C i (a + 1) := by
  rcases h with ⟨rfl, rfl⟩ | ⟨j, rfl, v, hv, h1, h2⟩
  · have := hC 0 0 u h0 hu
    omega
  · have := h2 u hu
    exact ⟨u, hu, hui, fun x hx => by have := hC (a + 1) u x hu hx; omega⟩
theorem pr_bd {a b : Int} (ha : -4095 ≤ a ∧ a ≤ 4095) (hb : -4095 ≤ b ∧ b ≤ 4095) : -16769025 ≤ a * b ∧ a * b ≤ 16769025 := by
  have h1 := Int.natAbs_mul a b
  have h2 : a.natAbs * b.natAbs ≤ 4095 * 4095 := Nat.mul_le_mul (by omega) (by omega)
  omega
set_option maxRecDepth 100000 in
set_option maxHeartbeats 16000000 in
theorem tol_law (p0 q0 t m : Int) (A0 : Option Addr) (n c : Nat) (w : World) (hA : Tz w A0 n) (hz : n ≤ 9223372036854775807) (hp0 : (-9223372036854775808 ≤ p0 ∧ p0 ≤ 9223372036854775807)) (hq0 : (-9223372036854775808 ≤ q0 ∧ q0 ≤ 9223372036854775807)) (ht : (-9223372036854775808 ≤ t ∧ t ≤ 9223372036854775807)) (hm : (-9223372036854775808 ≤ m ∧ m ≤ 9223372036854775807)) :
    Calls Try.prog 5 #[.int .i64 p0, .int .i64 q0, .slice A0 n c, .int .i64 t, .int .i64 m] w fun e w' => e = .returned (.bool true) ∧ Below w.heap.size w w' := by
  obtain ⟨z, hz_, Hz⟩ := lpick_one t 400 ht (by omega)
  obtain ⟨k, hk_, Hk⟩ := lpick_one m 600 hm (by omega)
  have HZ1 : Hid (0 ≤ z ∧ z ≤ 1000) := Lib.hid (by omega); have HZ2 : Hid (0 ≤ z + k ∧ z + k ≤ 1000) := Lib.hid (by omega); have HZ3 : Hid (z ≤ z + k) := Lib.hid (by omega)
  have e1 : IntKind.i64.wrap (z + k) = z + k := IntWalk.i64_in _ (by omega)
  have HE1 := Lib.hid e1; have hz0 := Lib.hid Hz; have hk0 := Lib.hid Hk; clear hz_ hk_ Hz Hk ht hm e1
  have HB_0 := Lib.hid (Below.refl w.heap.size w)
  have TZ_0 : Hid (Tz w A0 n) := Lib.hid hA
  clear hA
  go_enter Try.func5, Try.ntmps5
  go_wp2_with fail
  refine (sane_any _).mono ?_
  rintro e v0 ⟨rfl, hb⟩
  have TZ_1 : Hid (Tz v0 A0 n) := Lib.hid (TZ_0.out.below hb (Nat.le_refl _))
  clear TZ_0
  have HB_1 : Hid (Below w.heap.size w v0) := Lib.hid (HB_0.out.trans (hb.mono HB_0.out.size))
  clear hb HB_0
  go_wp2_with fail
  refine (lmade_any p0 q0 A0 n c _ TZ_1.out hz hp0 hq0).mono ?_
  rintro e v1 ⟨P, N, ds, A1, k1, rfl, hvd, hl24, hdz, hk1, -, hb⟩
  have HVD := Lib.hid hvd
  have hzl : ds.length ≤ 24 := by omega
  have HZL := Lib.hid hzl; have HK1 := Lib.hid hk1
  obtain ⟨b, o, rfl⟩ := hdz.some (by have := hvd.2.2.1; omega)
  obtain ⟨l, hl⟩ : ∃ l, ds.length = l + 1 := ⟨ds.length - 1, by have := hvd.2.2.1; omega⟩
  have HL := Lib.hid hl
  clear hvd hl24 hzl hk1 hl
  have DS_1 := Lib.hid hdz
  have TZ_2 : Hid (Tz (v1.alloc (.cells #[.int .i64 P, .int .i64 N, .slice (some ⟨b, o, none⟩) ds.length k1] 27)) A0 n) := Lib.hid (TZ_1.out.below (allocs_below [(#[.int .i64 P, .int .i64 N, .slice (some ⟨b, o, none⟩) ds.length k1], 27)] _ hb hb.size) (Nat.le_refl _))
  have DS_2 : Hid (Dz (v1.alloc (.cells #[.int .i64 P, .int .i64 N, .slice (some ⟨b, o, none⟩) ds.length k1] 27)) (some ⟨b, o, none⟩) ds) := Lib.hid (DS_1.out.below (allocs_below [(#[.int .i64 P, .int .i64 N, .slice (some ⟨b, o, none⟩) ds.length k1], 27)] _ (Below.refl _ _) (Nat.le_refl _)) (Nat.le_refl _))
  clear TZ_1 DS_1
  have HB_2 : Hid (Below w.heap.size w (v1.alloc (.cells #[.int .i64 P, .int .i64 N, .slice (some ⟨b, o, none⟩) ds.length k1] 27))) := Lib.hid (allocs_below [(#[.int .i64 P, .int .i64 N, .slice (some ⟨b, o, none⟩) ds.length k1], 27)] _ (HB_1.out.trans (hb.mono HB_1.out.size)) (HB_1.out.trans (hb.mono HB_1.out.size)).size)
  have S_2 : Hid (Blk (v1.alloc (.cells #[.int .i64 P, .int .i64 N, .slice (some ⟨b, o, none⟩) ds.length k1] 27)) v1.heap.size 27 #[.int .i64 P, .int .i64 N, .slice (some ⟨b, o, none⟩) ds.length k1]) := Lib.hid (allocs_blk [(#[.int .i64 P, .int .i64 N, .slice (some ⟨b, o, none⟩) ds.length k1], 27)] v1 0 _ rfl)
  clear hb HB_1
  go_wp2_with fail
  refine (hz0.out _).mono ?_
  rintro e v2 ⟨rfl, hb⟩
  have TZ_3 : Hid (Tz v2 A0 n) := Lib.hid (TZ_2.out.below hb (Nat.le_refl _))
  have DS_3 : Hid (Dz v2 (some ⟨b, o, none⟩) ds) := Lib.hid (DS_2.out.below hb (Nat.le_refl _))
  clear TZ_2 DS_2
  have S_3 : Hid (Blk v2 v1.heap.size 27 #[.int .i64 P, .int .i64 N, .slice (some ⟨b, o, none⟩) ds.length k1]) := Lib.hid (S_2.out.below hb S_2.out.lt)
  have HB_3 : Hid (Below w.heap.size w v2) := Lib.hid (HB_2.out.trans (hb.mono HB_2.out.size))
  clear hb S_2 HB_2
  have yy0 := S_3.out.cell (i := 0) (v := .int .i64 P) rfl; have yy1 := S_3.out.cell (i := 1) (v := .int .i64 N) rfl; have yy2 := S_3.out.cell (i := 2) (v := .slice (some ⟨b, o, none⟩) ds.length k1) rfl
  go_wp2_with fail
  refine (pthin_yes P N ds (some ⟨b, o, none⟩) k1 z _ DS_3.out (by have := HZL.out; omega) HK1.out HVD.out HZ1.out).mono ?_
  rintro e v3 ⟨Qa, Ba, ca, rfl, hth, hiz, hb⟩
  rw [show ds.length - 1 = l by have := HL.out; omega] at hth
  have HTA := Lib.hid hth; clear hth
  clear yy0 yy1 yy2
  have IA_3 := Lib.hid hiz
  have TZ_4 : Hid (Tz v3 A0 n) := Lib.hid (TZ_3.out.below hb (Nat.le_refl _))
  have DS_4 : Hid (Dz v3 (some ⟨b, o, none⟩) ds) := Lib.hid (DS_3.out.below hb (Nat.le_refl _))
  have IA_4 : Hid (Iz v3 Ba (Qa.map Int.ofNat)) := Lib.hid IA_3.out
  clear TZ_3 DS_3 IA_3
  have S_4 : Hid (Blk v3 v1.heap.size 27 #[.int .i64 P, .int .i64 N, .slice (some ⟨b, o, none⟩) ds.length k1]) := Lib.hid (S_3.out.below hb S_3.out.lt)
  have HB_4 : Hid (Below w.heap.size w v3) := Lib.hid (HB_3.out.trans (hb.mono HB_3.out.size))
  clear hb S_3 HB_3
  have HK : Hid (∀ w', Below v3.heap.size v3 w' → w'.cell? ⟨v1.heap.size, 0, none⟩ = some (.int .i64 P) ∧ w'.cell? ⟨v1.heap.size, 1, none⟩ = some (.int .i64 N) ∧ w'.cell? ⟨v1.heap.size, 2, none⟩ = some (.slice (some ⟨b, o, none⟩) ds.length k1)) := Lib.hid (fun w' hW => ⟨((S_4.out.below hW S_4.out.lt).cell (i := 0) rfl), ((S_4.out.below hW S_4.out.lt).cell (i := 1) rfl), ((S_4.out.below hW S_4.out.lt).cell (i := 2) rfl)⟩)
  have HY : Hid (Below v3.heap.size v3 v3.drew) := (Below.refl _ _).drew
  have e1 := HE1.out
  go_wp2_with fail
  refine wp_region_held_drew (S := (fun w' => w'.cell? ⟨v1.heap.size, 0, none⟩ = some (.int .i64 P) ∧ w'.cell? ⟨v1.heap.size, 1, none⟩ = some (.int .i64 N) ∧ w'.cell? ⟨v1.heap.size, 2, none⟩ = some (.slice (some ⟨b, o, none⟩) ds.length k1))) (by kernel_rfl) (HK.out _ HY.out) (fun hHeld => ?_)
  refine held_take 0 (some 47) ?_ rfl rfl (by kernel_rfl) (fun _ _ _ h => h) (by kernel_rfl) ?_ (by assumption) ?_
  rotate_left
  · intro wS hS; (try dsimp only at hS); go_simp <;> with_reducible rfl
  try simp only [Act.put, List.setIfInBounds_toArray, List.set_cons_zero, List.set_cons_succ]
  refine held_take 1 (some 48) ?_ rfl rfl (by kernel_rfl) (fun _ _ _ h => h) (by kernel_rfl) ?_ (by assumption) ?_
  rotate_left
  · intro wS hS; (try dsimp only at hS); go_simp <;> with_reducible rfl
  try simp only [Act.put, List.setIfInBounds_toArray, List.set_cons_zero, List.set_cons_succ]
  refine held_take 2 (some 49) ?_ rfl rfl (by kernel_rfl) (fun _ _ _ h => h) (by kernel_rfl) ?_ (by assumption) ?_
  rotate_left
  · intro wS hS; (try dsimp only at hS); go_simp <;> with_reducible rfl
  try simp only [Act.put, List.setIfInBounds_toArray, List.set_cons_zero, List.set_cons_succ]
  refine held_call 3 (some 50) 12 [.tmp 49, .const (Go.Value.int Go.IntKind.i64 600)] #[3, 3] rfl rfl (by kernel_rfl) (by kernel_rfl) rfl (enters_of Try.func12 (by kernel_rfl) rfl) (hk0.out _) (by kernel_rfl) ?_
  rintro e wq ⟨rfl, hq⟩
  have HY := Lib.hid (HY.out.trans (hq.mono HY.out.size)); clear hq
  refine ⟨_, rfl, (HK.out _ HY.out), ?_⟩
  have hHeld := (HK.out _ HY.out)
  try simp only [Act.put, List.setIfInBounds_toArray, List.set_cons_zero, List.set_cons_succ]
  refine held_take 4 (some 51) ?_ rfl rfl (by kernel_rfl) (fun _ _ _ h => h) (by kernel_rfl) ?_ (by assumption) ?_
  rotate_left
  · intro wS hS; (try dsimp only at hS); go_simp <;> with_reducible rfl
  try simp only [Act.put, List.setIfInBounds_toArray, List.set_cons_zero, List.set_cons_succ]
  refine held_call 5 (some 52) 28 [.tmp 47, .tmp 51] #[27, 3] rfl rfl (by kernel_rfl) (by kernel_rfl) rfl (enters_of Try.func28 (by kernel_rfl) rfl) (pthin_yes P N ds (some ⟨b, o, none⟩) k1 (z + k) _ (DS_4.out.below HY.out (Nat.le_refl _)) (by have := HZL.out; omega) HK1.out HVD.out HZ2.out) (by kernel_rfl) ?_
  rintro e wq ⟨Qb, Bb, cb, rfl, hth, hiz, hq⟩
  have HY := Lib.hid (HY.out.trans (hq.mono HY.out.size)); clear hq
  rw [show ds.length - 1 = l by have := HL.out; omega] at hth
  have HTB := Lib.hid hth; have HIB := Lib.hid hiz; clear hth hiz
  refine ⟨_, rfl, (HK.out _ HY.out), ?_⟩
  have hHeld := (HK.out _ HY.out)
  try simp only [Act.put, List.setIfInBounds_toArray, List.set_cons_zero, List.set_cons_succ]
  refine held_take 6 (some 46) ?_ rfl rfl (by kernel_rfl) (fun _ _ _ h => h) (by kernel_rfl) ?_ (by assumption) ?_
  rotate_left
  · intro wS hS; (try dsimp only at hS); go_simp <;> with_reducible rfl
  try simp only [Act.put, List.setIfInBounds_toArray, List.set_cons_zero, List.set_cons_succ]
  refine held_take 7 (some 53) ?_ rfl rfl (by kernel_rfl) (fun _ _ _ h => h) (by kernel_rfl) ?_ (by assumption) ?_
  rotate_left
  · intro wS hS; (try dsimp only at hS); go_simp <;> with_reducible rfl
  try simp only [Act.put, List.setIfInBounds_toArray, List.set_cons_zero, List.set_cons_succ]
  refine held_take 8 (some 54) ?_ rfl rfl (by kernel_rfl) (fun _ _ _ h => h) (by kernel_rfl) ?_ (by assumption) ?_
  rotate_left
  · intro wS hS; (try dsimp only at hS); go_simp <;> with_reducible rfl
  try simp only [Act.put, List.setIfInBounds_toArray, List.set_cons_zero, List.set_cons_succ]
  refine held_take 9 (some 16) ?_ rfl rfl (by kernel_rfl) (fun _ _ _ h => h) (by kernel_rfl) ?_ (by assumption) ?_
  rotate_left
  · intro wS hS; (try dsimp only at hS); go_simp <;> with_reducible rfl
  try simp only [Act.put, List.setIfInBounds_toArray, List.set_cons_zero, List.set_cons_succ]
  refine held_take 10 (some 17) ?_ rfl rfl (by kernel_rfl) (fun _ _ _ h => h) (by kernel_rfl) ?_ (by assumption) ?_
  rotate_left
  · intro wS hS; (try dsimp only at hS); go_simp <;> with_reducible rfl
  try simp only [Act.put, List.setIfInBounds_toArray, List.set_cons_zero, List.set_cons_succ]
  refine wpAnyH_done (by kernel_rfl) ?_ _
  rename World => wm
  have hb := HY.out; have hiz := HIB.out; clear HY HK HIB hHeld e1
  have IB_4 := Lib.hid hiz
  have TZ_5 : Hid (Tz wm A0 n) := Lib.hid (TZ_4.out.below hb (Nat.le_refl _))
  have DS_5 : Hid (Dz wm (some ⟨b, o, none⟩) ds) := Lib.hid (DS_4.out.below hb (Nat.le_refl _))
  have IA_5 : Hid (Iz wm Ba (Qa.map Int.ofNat)) := Lib.hid (IA_4.out.below hb (Nat.le_refl _))
  have IB_5 : Hid (Iz wm Bb (Qb.map Int.ofNat)) := Lib.hid IB_4.out
  clear TZ_4 DS_4 IA_4 IB_4
  have S_5 : Hid (Blk wm v1.heap.size 27 #[.int .i64 P, .int .i64 N, .slice (some ⟨b, o, none⟩) ds.length k1]) := Lib.hid (S_4.out.below hb S_4.out.lt)
  have HB_5 : Hid (Below w.heap.size w wm) := Lib.hid (HB_4.out.trans (hb.mono HB_4.out.size))
  clear hb S_4 HB_4
  clear hiz
  have yy0 := S_5.out.cell (i := 0) (v := .int .i64 P) rfl; have yy1 := S_5.out.cell (i := 1) (v := .int .i64 N) rfl; have yy2 := S_5.out.cell (i := 2) (v := .slice (some ⟨b, o, none⟩) ds.length k1) rfl
  go_wp2_with fail
  refine (pthin_yes P N ds (some ⟨b, o, none⟩) k1 0 _ DS_5.out (by have := HZL.out; omega) HK1.out HVD.out (by omega)).mono ?_
  rintro e v5 ⟨C, Bc, cc, rfl, hth, hiz, hb⟩
  rw [show ds.length - 1 = l by have := HL.out; omega] at hth
  have hcl := hth.1.len
  obtain ⟨bc, oc, rfl⟩ := hiz.some (by simp; omega)
  have HTC := Lib.hid hth; clear hth hcl
  clear yy0 yy1 yy2
  have IC_5 := Lib.hid hiz
  have TZ_6 : Hid (Tz v5 A0 n) := Lib.hid (TZ_5.out.below hb (Nat.le_refl _))
  have DS_6 : Hid (Dz v5 (some ⟨b, o, none⟩) ds) := Lib.hid (DS_5.out.below hb (Nat.le_refl _))
  have IA_6 : Hid (Iz v5 Ba (Qa.map Int.ofNat)) := Lib.hid (IA_5.out.below hb (Nat.le_refl _))
  have IB_6 : Hid (Iz v5 Bb (Qb.map Int.ofNat)) := Lib.hid (IB_5.out.below hb (Nat.le_refl _))
  have IC_6 : Hid (Iz v5 (some ⟨bc, oc, none⟩) (C.map Int.ofNat)) := Lib.hid IC_5.out
  clear TZ_5 DS_5 IA_5 IB_5 IC_5
  have S_6 : Hid (Blk v5 v1.heap.size 27 #[.int .i64 P, .int .i64 N, .slice (some ⟨b, o, none⟩) ds.length k1]) := Lib.hid (S_5.out.below hb S_5.out.lt)
  have HB_6 : Hid (Below w.heap.size w v5) := Lib.hid (HB_5.out.trans (hb.mono HB_5.out.size))
  clear hb S_5 HB_5
  have HC0 : Hid (C[0]? = some 0) := Lib.hid HTC.out.1.first
  have HCN : Hid (∀ k x y, C[k]? = some x → C[k + 1]? = some y → x < y ∧ BetwP ds 0 x y) := Lib.hid HTC.out.1.next
  obtain ⟨e, he⟩ : ∃ e, C.length = e + 1 := ⟨C.length - 1, by have := HTC.out.1.len; omega⟩
  have hce : C[e]? = some l := by have h := HTC.out.1.last; rwa [show C.length - 1 = e by omega] at h
  have HCL := Lib.hid (And.intro he hce)
  have HCM : Hid (C.length ≤ 24) := Lib.hid (by have h1 := HTC.out.1.len; have h2 := HZL.out; have h3 := HL.out; omega)
  have n1 : Qb.length ≤ Qa.length := IsThin.mono (fun i k2 h => betw_mono HZ3.out HZ2.out.2 i k2 h) HTA.out HTB.out
  have n2 : Qa.length ≤ C.length := IsThin.mono (fun i k2 h => betw_mono HZ1.out.1 HZ1.out.2 i k2 h) HTC.out HTA.out
  have n3 : ¬ (C.length = 0) := by omega
  have n3b : ¬ (C = []) := fun h => n3 (by rw [h]; rfl)
  have w1 : IntKind.i64.wrap ((C.length : Int) - 1) = (e : Int) := by have := HCM.out; rw [IntWalk.i64_in _ (by omega)]; omega
  have w2_ : IntKind.i64.wrap ((ds.length : Int) - 1) = (l : Int) := by have := HZL.out; have := HL.out; rw [IntWalk.i64_in _ (by omega)]; omega
  have HW2 := Lib.hid w2_
  have q1 : (0 : Int) ≤ (e : Int) := by omega
  have q2 : (e : Int) < (C.length : Int) := by omega
  clear he hce
  go_wp2_with fail
  refine wp_region_grow (S := (fun w' => w'.cell? ⟨v1.heap.size, 2, none⟩ = some (.slice (some ⟨b, o, none⟩) ds.length k1) ∧ w'.cell? ⟨bc, oc + e, none⟩ = some (.int .i64 (l : Nat)))) ((fun w' => Below v5.heap.size v5 w')) (by kernel_rfl) (⟨fun w2 h2 => ⟨((S_6.out.below h2 S_6.out.lt).cell (i := 2) rfl), (iz_nat (IC_6.out.below h2 (Nat.le_refl _)) HCL.out.2)⟩, fun w2 w3 h2 hb2 => h2.trans (hb2.mono h2.size)⟩) ((Below.refl _ _).drew) (fun hCalm => ?_)
  refine grow_take 0 (some 60) ?_ rfl rfl (by kernel_rfl) (fun _ _ _ h => h) (by kernel_rfl) hCalm ?_ ?_
  rotate_left
  · intro wS hS; (try dsimp only at hS); go_simp <;> with_reducible rfl
  try simp only [Act.put, List.setIfInBounds_toArray, List.set_cons_zero, List.set_cons_succ]
  refine grow_take 1 (some 61) (.bool false) rfl rfl (by kernel_rfl) (fun _ _ _ h => h) (by kernel_rfl) hCalm ?_ ?_
  · intro wS hS; (try dsimp only at hS); go_simp
  try simp only [Act.put, List.setIfInBounds_toArray, List.set_cons_zero, List.set_cons_succ]
  refine grow_take 2 (some 62) ?_ rfl rfl (by kernel_rfl) (fun _ _ _ h => h) (by kernel_rfl) hCalm ?_ ?_
  rotate_left
  · intro wS hS; (try dsimp only at hS); go_simp <;> with_reducible rfl
  try simp only [Act.put, List.setIfInBounds_toArray, List.set_cons_zero, List.set_cons_succ]
  refine grow_take 3 (some 63) ?_ rfl rfl (by kernel_rfl) (fun _ _ _ h => h) (by kernel_rfl) hCalm ?_ ?_
  rotate_left
  · intro wS hS; (try dsimp only at hS); go_simp <;> with_reducible rfl
  try simp only [Act.put, List.setIfInBounds_toArray, List.set_cons_zero, List.set_cons_succ]
  refine grow_take 4 (some 64) (.bool false) rfl rfl (by kernel_rfl) (fun _ _ _ h => h) (by kernel_rfl) hCalm ?_ ?_
  · intro wS hS; (try dsimp only at hS); go_simp
  try simp only [Act.put, List.setIfInBounds_toArray, List.set_cons_zero, List.set_cons_succ]
  refine grow_take 5 (some 65) ?_ rfl rfl (by kernel_rfl) (fun _ _ _ h => h) (by kernel_rfl) hCalm ?_ ?_
  rotate_left
  · intro wS hS; (try dsimp only at hS); go_simp <;> with_reducible rfl
  try simp only [Act.put, List.setIfInBounds_toArray, List.set_cons_zero, List.set_cons_succ]
  refine grow_take 6 (some 66) ?_ rfl rfl (by kernel_rfl) (fun _ _ _ h => h) (by kernel_rfl) hCalm ?_ ?_
  rotate_left
  · intro wS hS; (try dsimp only at hS); go_simp <;> with_reducible rfl
  try simp only [Act.put, List.setIfInBounds_toArray, List.set_cons_zero, List.set_cons_succ]
  refine grow_take 7 (some 67) ?_ rfl rfl (by kernel_rfl) (fun _ _ _ h => h) (by kernel_rfl) hCalm ?_ ?_
  rotate_left
  · intro wS hS; (try dsimp only at hS); go_simp <;> with_reducible rfl
  try simp only [Act.put, List.setIfInBounds_toArray, List.set_cons_zero, List.set_cons_succ]
  refine grow_take 8 (some 68) (.bool false) rfl rfl (by kernel_rfl) (fun _ _ _ h => h) (by kernel_rfl) hCalm ?_ ?_
  · intro wS hS; (try dsimp only at hS); go_simp
  try simp only [Act.put, List.setIfInBounds_toArray, List.set_cons_zero, List.set_cons_succ]
  refine grow_take 9 (some 69) ?_ rfl rfl (by kernel_rfl) (fun _ _ _ h => h) (by kernel_rfl) hCalm ?_ ?_
  rotate_left
  · intro wS hS; (try dsimp only at hS); go_simp <;> with_reducible rfl
  try simp only [Act.put, List.setIfInBounds_toArray, List.set_cons_zero, List.set_cons_succ]
  refine grow_take 10 (some 70) ?_ rfl rfl (by kernel_rfl) (fun _ _ _ h => h) (by kernel_rfl) hCalm ?_ ?_
  rotate_left
  · intro wS hS; (try dsimp only at hS); go_simp <;> with_reducible rfl
  try simp only [Act.put, List.setIfInBounds_toArray, List.set_cons_zero, List.set_cons_succ]
  refine grow_take 11 (some 71) ?_ rfl rfl (by kernel_rfl) (fun _ _ _ h => h) (by kernel_rfl) hCalm ?_ ?_
  rotate_left
  · intro wS hS; (try dsimp only at hS); go_simp <;> with_reducible rfl
  try simp only [Act.put, List.setIfInBounds_toArray, List.set_cons_zero, List.set_cons_succ]
  refine grow_take 12 (some 72) ?_ rfl rfl (by kernel_rfl) (fun _ _ _ h => h) (by kernel_rfl) hCalm ?_ ?_
  rotate_left
  · intro wS hS; (try dsimp only at hS); go_simp <;> with_reducible rfl
  try simp only [Act.put, List.setIfInBounds_toArray, List.set_cons_zero, List.set_cons_succ]
  refine grow_take 13 (some 73) ?_ rfl rfl (by kernel_rfl) (fun _ _ _ h => h) (by kernel_rfl) hCalm ?_ ?_
  rotate_left
  · intro wS hS; (try dsimp only at hS); go_simp <;> with_reducible rfl
  try simp only [Act.put, List.setIfInBounds_toArray, List.set_cons_zero, List.set_cons_succ]
  refine grow_take 14 (some 74) ?_ rfl rfl (by kernel_rfl) (fun _ _ _ h => h) (by kernel_rfl) hCalm ?_ ?_
  rotate_left
  · intro wS hS; (try dsimp only at hS); go_simp <;> with_reducible rfl
  try simp only [Act.put, List.setIfInBounds_toArray, List.set_cons_zero, List.set_cons_succ]
  refine grow_take 15 (some 75) (.bool false) rfl rfl (by kernel_rfl) (fun _ _ _ h => h) (by kernel_rfl) hCalm ?_ ?_
  · intro wS hS; (try dsimp only at hS); go_simp
  try simp only [Act.put, List.setIfInBounds_toArray, List.set_cons_zero, List.set_cons_succ]
  refine grow_take 16 (some 76) ?_ rfl rfl (by kernel_rfl) (fun _ _ _ h => h) (by kernel_rfl) hCalm ?_ ?_
  rotate_left
  · intro wS hS; (try dsimp only at hS); go_simp <;> with_reducible rfl
  try simp only [Act.put, List.setIfInBounds_toArray, List.set_cons_zero, List.set_cons_succ]
  refine grow_take 17 (some 77) ?_ rfl rfl (by kernel_rfl) (fun _ _ _ h => h) (by kernel_rfl) hCalm ?_ ?_
  rotate_left
  · intro wS hS; (try dsimp only at hS); go_simp <;> with_reducible rfl
  try simp only [Act.put, List.setIfInBounds_toArray, List.set_cons_zero, List.set_cons_succ]
  refine grow_take 18 (some 78) ?_ rfl rfl (by kernel_rfl) (fun _ _ _ h => h) (by kernel_rfl) hCalm ?_ ?_
  rotate_left
  · intro wS hS; (try dsimp only at hS); go_simp <;> with_reducible rfl
  try simp only [Act.put, List.setIfInBounds_toArray, List.set_cons_zero, List.set_cons_succ]
  refine grow_take 19 (some 79) ?_ rfl rfl (by kernel_rfl) (fun _ _ _ h => h) (by kernel_rfl) hCalm ?_ ?_
  rotate_left
  · intro wS hS; (try dsimp only at hS); go_simp <;> with_reducible rfl
  try simp only [Act.put, List.setIfInBounds_toArray, List.set_cons_zero, List.set_cons_succ]
  refine grow_take 20 (some 80) ?_ rfl rfl (by kernel_rfl) (fun _ _ _ h => h) (by kernel_rfl) hCalm ?_ ?_
  rotate_left
  · intro wS hS; (try dsimp only at hS); go_simp <;> with_reducible rfl
  try simp only [Act.put, List.setIfInBounds_toArray, List.set_cons_zero, List.set_cons_succ]
  refine grow_take 21 (some 81) ?_ rfl rfl (by kernel_rfl) (fun _ _ _ h => h) (by kernel_rfl) hCalm ?_ ?_
  rotate_left
  · intro wS hS; (try dsimp only at hS); go_simp <;> with_reducible rfl
  try simp only [Act.put, List.setIfInBounds_toArray, List.set_cons_zero, List.set_cons_succ]
  refine grow_take 22 (some 82) (.bool false) rfl rfl (by kernel_rfl) (fun _ _ _ h => h) (by kernel_rfl) hCalm ?_ ?_
  · intro wS hS; (try dsimp only at hS); go_simp
  try simp only [Act.put, List.setIfInBounds_toArray, List.set_cons_zero, List.set_cons_succ]
  refine grow_take 23 (some 83) ?_ rfl rfl (by kernel_rfl) (fun _ _ _ h => h) (by kernel_rfl) hCalm ?_ ?_
  rotate_left
  · intro wS hS; (try dsimp only at hS); go_simp <;> with_reducible rfl
  try simp only [Act.put, List.setIfInBounds_toArray, List.set_cons_zero, List.set_cons_succ]
  refine grow_take 24 (some 84) ?_ rfl rfl (by kernel_rfl) (fun _ _ _ h => h) (by kernel_rfl) hCalm ?_ ?_
  rotate_left
  · intro wS hS; (try dsimp only at hS); go_simp <;> with_reducible rfl
  try simp only [Act.put, List.setIfInBounds_toArray, List.set_cons_zero, List.set_cons_succ]
  refine grow_take 25 (some 85) ?_ rfl rfl (by kernel_rfl) (fun _ _ _ h => h) (by kernel_rfl) hCalm ?_ ?_
  rotate_left
  · intro wS hS; (try dsimp only at hS); go_simp <;> with_reducible rfl
  try simp only [Act.put, List.setIfInBounds_toArray, List.set_cons_zero, List.set_cons_succ]
  refine grow_take 26 (some 86) ?_ rfl rfl (by kernel_rfl) (fun _ _ _ h => h) (by kernel_rfl) hCalm ?_ ?_
  rotate_left
  · intro wS hS; (try dsimp only at hS); go_simp <;> with_reducible rfl
  try simp only [Act.put, List.setIfInBounds_toArray, List.set_cons_zero, List.set_cons_succ]
  refine grow_take 27 (some 87) (.bool false) rfl rfl (by kernel_rfl) (fun _ _ _ h => h) (by kernel_rfl) hCalm ?_ ?_
  · intro wS hS; (try dsimp only at hS); go_simp
  try simp only [Act.put, List.setIfInBounds_toArray, List.set_cons_zero, List.set_cons_succ]
  refine grow_take 28 (some 88) ?_ rfl rfl (by kernel_rfl) (fun _ _ _ h => h) (by kernel_rfl) hCalm ?_ ?_
  rotate_left
  · intro wS hS; (try dsimp only at hS); go_simp <;> with_reducible rfl
  try simp only [Act.put, List.setIfInBounds_toArray, List.set_cons_zero, List.set_cons_succ]
  refine grow_take 29 (some 89) ?_ rfl rfl (by kernel_rfl) (fun _ _ _ h => h) (by kernel_rfl) hCalm ?_ ?_
  rotate_left
  · intro wS hS; (try dsimp only at hS); go_simp <;> with_reducible rfl
  try simp only [Act.put, List.setIfInBounds_toArray, List.set_cons_zero, List.set_cons_succ]
  refine grow_take 30 (some 90) ?_ rfl rfl (by kernel_rfl) (fun _ _ _ h => h) (by kernel_rfl) hCalm ?_ ?_
  rotate_left
  · intro wS hS; (try dsimp only at hS); go_simp <;> with_reducible rfl
  try simp only [Act.put, List.setIfInBounds_toArray, List.set_cons_zero, List.set_cons_succ]
  refine grow_take 31 (some 91) ?_ rfl rfl (by kernel_rfl) (fun _ _ _ h => h) (by kernel_rfl) hCalm ?_ ?_
  rotate_left
  · intro wS hS; (try dsimp only at hS); go_simp <;> with_reducible rfl
  try simp only [Act.put, List.setIfInBounds_toArray, List.set_cons_zero, List.set_cons_succ]
  refine grow_take 32 (some 92) ?_ rfl rfl (by kernel_rfl) (fun _ _ _ h => h) (by kernel_rfl) hCalm ?_ ?_
  rotate_left
  · intro wS hS; (try dsimp only at hS); go_simp <;> with_reducible rfl
  try simp only [Act.put, List.setIfInBounds_toArray, List.set_cons_zero, List.set_cons_succ]
  refine grow_take 33 (some 93) ?_ rfl rfl (by kernel_rfl) (fun _ _ _ h => h) (by kernel_rfl) hCalm ?_ ?_
  rotate_left
  · intro wS hS; (try dsimp only at hS); go_simp <;> with_reducible rfl
  try simp only [Act.put, List.setIfInBounds_toArray, List.set_cons_zero, List.set_cons_succ]
  refine grow_take 34 (some 94) ?_ rfl rfl (by kernel_rfl) (fun _ _ _ h => h) (by kernel_rfl) hCalm ?_ ?_
  rotate_left
  · intro wS hS; (try dsimp only at hS); go_simp <;> with_reducible rfl
  try simp only [Act.put, List.setIfInBounds_toArray, List.set_cons_zero, List.set_cons_succ]
  refine grow_take 35 (some 95) ?_ rfl rfl (by kernel_rfl) (fun _ _ _ h => h) (by kernel_rfl) hCalm ?_ ?_
  rotate_left
  · intro wS hS; (try dsimp only at hS); go_simp <;> with_reducible rfl
  try simp only [Act.put, List.setIfInBounds_toArray, List.set_cons_zero, List.set_cons_succ]
  refine grow_take 36 (some 96) ?_ rfl rfl (by kernel_rfl) (fun _ _ _ h => h) (by kernel_rfl) hCalm ?_ ?_
  rotate_left
  · intro wS hS; (try dsimp only at hS); go_simp <;> with_reducible rfl
  try simp only [Act.put, List.setIfInBounds_toArray, List.set_cons_zero, List.set_cons_succ]
  refine grow_take 37 (some 97) ?_ rfl rfl (by kernel_rfl) (fun _ _ _ h => h) (by kernel_rfl) hCalm ?_ ?_
  rotate_left
  · intro wS hS; (try dsimp only at hS); go_simp <;> with_reducible rfl
  try simp only [Act.put, List.setIfInBounds_toArray, List.set_cons_zero, List.set_cons_succ]
  refine grow_take 38 (some 98) ?_ rfl rfl (by kernel_rfl) (fun _ _ _ h => h) (by kernel_rfl) hCalm ?_ ?_
  rotate_left
  · intro wS hS; (try dsimp only at hS); go_simp <;> with_reducible rfl
  try simp only [Act.put, List.setIfInBounds_toArray, List.set_cons_zero, List.set_cons_succ]
  refine grow_take 39 (some 99) ?_ rfl rfl (by kernel_rfl) (fun _ _ _ h => h) (by kernel_rfl) hCalm ?_ ?_
  rotate_left
  · intro wS hS; (try dsimp only at hS); go_simp <;> with_reducible rfl
  try simp only [Act.put, List.setIfInBounds_toArray, List.set_cons_zero, List.set_cons_succ]
  refine grow_take 40 (some 100) (.bool false) rfl rfl (by kernel_rfl) (fun _ _ _ h => h) (by kernel_rfl) hCalm ?_ ?_
  · intro wS hS; (try dsimp only at hS); go_simp
  try simp only [Act.put, List.setIfInBounds_toArray, List.set_cons_zero, List.set_cons_succ]
  refine grow_take 41 (some 101) ?_ rfl rfl (by kernel_rfl) (fun _ _ _ h => h) (by kernel_rfl) hCalm ?_ ?_
  rotate_left
  · intro wS hS; (try dsimp only at hS); go_simp <;> with_reducible rfl
  try simp only [Act.put, List.setIfInBounds_toArray, List.set_cons_zero, List.set_cons_succ]
  refine grow_done (by kernel_rfl) (fun wA hA => ?_) _
  rename World => uz
  have hb := hA; clear hA hCalm n1 n2 n3 n3b w1 w2_ q1 q2
  have TZ_7 : Hid (Tz uz A0 n) := Lib.hid (TZ_6.out.below hb (Nat.le_refl _))
  have DS_7 : Hid (Dz uz (some ⟨b, o, none⟩) ds) := Lib.hid (DS_6.out.below hb (Nat.le_refl _))
  have IA_7 : Hid (Iz uz Ba (Qa.map Int.ofNat)) := Lib.hid (IA_6.out.below hb (Nat.le_refl _))
  have IB_7 : Hid (Iz uz Bb (Qb.map Int.ofNat)) := Lib.hid (IB_6.out.below hb (Nat.le_refl _))
  have IC_7 : Hid (Iz uz (some ⟨bc, oc, none⟩) (C.map Int.ofNat)) := Lib.hid (IC_6.out.below hb (Nat.le_refl _))
  clear TZ_6 DS_6 IA_6 IB_6 IC_6
  have S_7 : Hid (Blk uz v1.heap.size 27 #[.int .i64 P, .int .i64 N, .slice (some ⟨b, o, none⟩) ds.length k1]) := Lib.hid (S_6.out.below hb S_6.out.lt)
  have HB_7 : Hid (Below w.heap.size w uz) := Lib.hid (HB_6.out.trans (hb.mono HB_6.out.size))
  clear hb S_6 HB_6
  go_wp2_with fail
  go_loopw [20, 21] (fun aa ii wr => ∃ (a i : Nat), aa = .int .i64 a ∧ ii = .int .i64 i ∧ i ≤ ds.length ∧ HeadC C i a ∧ Below uz.heap.size uz wr) (fun _ ii _ => ds.length - (intOf ii).toNat)
  case atStart => exact ⟨0, 0, rfl, rfl, Nat.zero_le _, .inl ⟨rfl, rfl⟩, Below.refl _ _⟩
  case round =>
    obtain ⟨a, i, rfl, rfl, hi, hh, hB⟩ := hrel
    have HU := Lib.hid hB; have HH := Lib.hid hh; clear hB hh
    by_cases hlt : i < ds.length
    case neg =>
      obtain rfl : i = ds.length := by omega
      have hni : ¬ ((ds.length : Int) < (ds.length : Int)) := by omega
      have yS := (S_7.out.below HU.out S_7.out.lt).cell (i := 2) (v := .slice (some ⟨b, o, none⟩) ds.length k1) rfl
      have hb := HU.out; clear HU HH
      have TZ_8 : Hid (Tz wr A0 n) := Lib.hid (TZ_7.out.below hb (Nat.le_refl _))
      have DS_8 : Hid (Dz wr (some ⟨b, o, none⟩) ds) := Lib.hid (DS_7.out.below hb (Nat.le_refl _))
      have IA_8 : Hid (Iz wr Ba (Qa.map Int.ofNat)) := Lib.hid (IA_7.out.below hb (Nat.le_refl _))
      have IB_8 : Hid (Iz wr Bb (Qb.map Int.ofNat)) := Lib.hid (IB_7.out.below hb (Nat.le_refl _))
      have IC_8 : Hid (Iz wr (some ⟨bc, oc, none⟩) (C.map Int.ofNat)) := Lib.hid (IC_7.out.below hb (Nat.le_refl _))
      clear TZ_7 DS_7 IA_7 IB_7 IC_7
      have S_8 : Hid (Blk wr v1.heap.size 27 #[.int .i64 P, .int .i64 N, .slice (some ⟨b, o, none⟩) ds.length k1]) := Lib.hid (S_7.out.below hb S_7.out.lt)
      have HB_8 : Hid (Below w.heap.size w wr) := Lib.hid (HB_7.out.trans (hb.mono HB_7.out.size))
      clear hb S_7 HB_7
      go_upto_region 25 with fail
      clear yS hni hlt hi
      have HKP := Lib.hid (kept_thin (B := BetwP ds z) HVD.out (by rw [show ds.length - 1 = l by have := HL.out; omega]; exact HTA.out.1))
      have HQA : Hid (Qa.length ≤ 24) := Lib.hid (by have h1 := HTA.out.1.len; have h2 := HZL.out; have h3 := HL.out; omega)
      have hql : (Qa.map Int.ofNat).length = Qa.length := List.length_map _
      obtain ⟨fs, hfs⟩ : ∃ fs, keptD ds (Qa.map Int.ofNat) = fs := ⟨_, rfl⟩
      have HVF : Hid (Vd P N fs) := Lib.hid (by rw [← hfs]; exact HKP.out.vd)
      have HSB : Hid (∀ d ∈ fs, d ∈ ds) := Lib.hid (by rw [← hfs]; exact HKP.out.sub)
      have HFL : Hid (fs.length ≤ 24) := Lib.hid (by rw [← hfs]; unfold keptD; rw [List.length_map, hql]; exact HQA.out)
      have yy0 := S_8.out.cell (i := 0) (v := .int .i64 P) rfl; have yy1 := S_8.out.cell (i := 1) (v := .int .i64 N) rfl; have yy2 := S_8.out.cell (i := 2) (v := .slice (some ⟨b, o, none⟩) ds.length k1) rfl
      go_wp2_with fail
      have hkc := yes_of (pkept_any P N ds (Qa.map Int.ofNat) (some ⟨b, o, none⟩) Ba k1 ca _ DS_8.out IA_8.out (by have := HZL.out; omega) (by rw [hql]; have := HQA.out; omega)) HKP.out
      rw [hfs, hql] at hkc
      refine hkc.mono ?_; clear hkc
      rintro e v8 ⟨A9, k9, rfl, hdz, hk9, hb⟩
      clear hk9 hfs hql
      clear yy0 yy1 yy2
      have DT_8 := Lib.hid hdz
      have TZ_9 : Hid (Tz (v8.alloc (.cells #[.int .i64 P, .int .i64 N, .slice A9 fs.length k9] 27)) A0 n) := Lib.hid (TZ_8.out.below (allocs_below [(#[.int .i64 P, .int .i64 N, .slice A9 fs.length k9], 27)] _ hb hb.size) (Nat.le_refl _))
      have DS_9 : Hid (Dz (v8.alloc (.cells #[.int .i64 P, .int .i64 N, .slice A9 fs.length k9] 27)) (some ⟨b, o, none⟩) ds) := Lib.hid (DS_8.out.below (allocs_below [(#[.int .i64 P, .int .i64 N, .slice A9 fs.length k9], 27)] _ hb hb.size) (Nat.le_refl _))
      have IA_9 : Hid (Iz (v8.alloc (.cells #[.int .i64 P, .int .i64 N, .slice A9 fs.length k9] 27)) Ba (Qa.map Int.ofNat)) := Lib.hid (IA_8.out.below (allocs_below [(#[.int .i64 P, .int .i64 N, .slice A9 fs.length k9], 27)] _ hb hb.size) (Nat.le_refl _))
      have IB_9 : Hid (Iz (v8.alloc (.cells #[.int .i64 P, .int .i64 N, .slice A9 fs.length k9] 27)) Bb (Qb.map Int.ofNat)) := Lib.hid (IB_8.out.below (allocs_below [(#[.int .i64 P, .int .i64 N, .slice A9 fs.length k9], 27)] _ hb hb.size) (Nat.le_refl _))
      have IC_9 : Hid (Iz (v8.alloc (.cells #[.int .i64 P, .int .i64 N, .slice A9 fs.length k9] 27)) (some ⟨bc, oc, none⟩) (C.map Int.ofNat)) := Lib.hid (IC_8.out.below (allocs_below [(#[.int .i64 P, .int .i64 N, .slice A9 fs.length k9], 27)] _ hb hb.size) (Nat.le_refl _))
      have DT_9 : Hid (Dz (v8.alloc (.cells #[.int .i64 P, .int .i64 N, .slice A9 fs.length k9] 27)) A9 fs) := Lib.hid (DT_8.out.below (allocs_below [(#[.int .i64 P, .int .i64 N, .slice A9 fs.length k9], 27)] _ (Below.refl _ _) (Nat.le_refl _)) (Nat.le_refl _))
      clear TZ_8 DS_8 IA_8 IB_8 IC_8 DT_8
      have S_9 : Hid (Blk (v8.alloc (.cells #[.int .i64 P, .int .i64 N, .slice A9 fs.length k9] 27)) v1.heap.size 27 #[.int .i64 P, .int .i64 N, .slice (some ⟨b, o, none⟩) ds.length k1]) := Lib.hid (allocs_keep [(#[.int .i64 P, .int .i64 N, .slice A9 fs.length k9], 27)] _ (S_8.out.below hb S_8.out.lt))
      have HB_9 : Hid (Below w.heap.size w (v8.alloc (.cells #[.int .i64 P, .int .i64 N, .slice A9 fs.length k9] 27))) := Lib.hid (allocs_below [(#[.int .i64 P, .int .i64 N, .slice A9 fs.length k9], 27)] _ (HB_8.out.trans (hb.mono HB_8.out.size)) (HB_8.out.trans (hb.mono HB_8.out.size)).size)
      have T_9 : Hid (Blk (v8.alloc (.cells #[.int .i64 P, .int .i64 N, .slice A9 fs.length k9] 27)) v8.heap.size 27 #[.int .i64 P, .int .i64 N, .slice A9 fs.length k9]) := Lib.hid (allocs_blk [(#[.int .i64 P, .int .i64 N, .slice A9 fs.length k9], 27)] v8 0 _ rfl)
      clear hb S_8 HB_8
      have yy0 := T_9.out.cell (i := 0) (v := .int .i64 P) rfl; have yy1 := T_9.out.cell (i := 1) (v := .int .i64 N) rfl; have yy2 := T_9.out.cell (i := 2) (v := .slice A9 fs.length k9) rfl
      go_wp2_with fail
      refine (pvalid_yes P N fs A9 k9 _ DT_9.out (by have := HFL.out; omega) HVF.out).mono ?_
      rintro e v9 ⟨rfl, hb⟩
      clear yy0 yy1 yy2
      have TZ_10 : Hid (Tz v9 A0 n) := Lib.hid (TZ_9.out.below hb (Nat.le_refl _))
      have DS_10 : Hid (Dz v9 (some ⟨b, o, none⟩) ds) := Lib.hid (DS_9.out.below hb (Nat.le_refl _))
      have IA_10 : Hid (Iz v9 Ba (Qa.map Int.ofNat)) := Lib.hid (IA_9.out.below hb (Nat.le_refl _))
      have IB_10 : Hid (Iz v9 Bb (Qb.map Int.ofNat)) := Lib.hid (IB_9.out.below hb (Nat.le_refl _))
      have IC_10 : Hid (Iz v9 (some ⟨bc, oc, none⟩) (C.map Int.ofNat)) := Lib.hid (IC_9.out.below hb (Nat.le_refl _))
      have DT_10 : Hid (Dz v9 A9 fs) := Lib.hid (DT_9.out.below hb (Nat.le_refl _))
      clear TZ_9 DS_9 IA_9 IB_9 IC_9 DT_9
      have S_10 : Hid (Blk v9 v1.heap.size 27 #[.int .i64 P, .int .i64 N, .slice (some ⟨b, o, none⟩) ds.length k1]) := Lib.hid (S_9.out.below hb S_9.out.lt)
      have T_10 : Hid (Blk v9 v8.heap.size 27 #[.int .i64 P, .int .i64 N, .slice A9 fs.length k9]) := Lib.hid (T_9.out.below hb T_9.out.lt)
      have HB_10 : Hid (Below w.heap.size w v9) := Lib.hid (HB_9.out.trans (hb.mono HB_9.out.size))
      clear hb S_9 T_9 HB_9
      have yy0 := S_10.out.cell (i := 0) (v := .int .i64 P) rfl; have yy1 := S_10.out.cell (i := 1) (v := .int .i64 N) rfl; have yy2 := S_10.out.cell (i := 2) (v := .slice (some ⟨b, o, none⟩) ds.length k1) rfl
      go_wp2_with fail
      refine (pbox_yes P N ds (some ⟨b, o, none⟩) k1 _ DS_10.out (by have := HZL.out; omega) HVD.out).mono ?_
      rintro e v10 ⟨x, y, ww, hh, hbx, rfl, hb⟩
      have HBX := Lib.hid hbx; clear hbx
      clear yy0 yy1 yy2
      have TZ_11 : Hid (Tz (v10.alloc (.cells #[.int .i64 x, .int .i64 y, .int .i64 ww, .int .i64 hh] 40)) A0 n) := Lib.hid (TZ_10.out.below (allocs_below [(#[.int .i64 x, .int .i64 y, .int .i64 ww, .int .i64 hh], 40)] _ hb hb.size) (Nat.le_refl _))
      have DS_11 : Hid (Dz (v10.alloc (.cells #[.int .i64 x, .int .i64 y, .int .i64 ww, .int .i64 hh] 40)) (some ⟨b, o, none⟩) ds) := Lib.hid (DS_10.out.below (allocs_below [(#[.int .i64 x, .int .i64 y, .int .i64 ww, .int .i64 hh], 40)] _ hb hb.size) (Nat.le_refl _))
      have IA_11 : Hid (Iz (v10.alloc (.cells #[.int .i64 x, .int .i64 y, .int .i64 ww, .int .i64 hh] 40)) Ba (Qa.map Int.ofNat)) := Lib.hid (IA_10.out.below (allocs_below [(#[.int .i64 x, .int .i64 y, .int .i64 ww, .int .i64 hh], 40)] _ hb hb.size) (Nat.le_refl _))
      have IB_11 : Hid (Iz (v10.alloc (.cells #[.int .i64 x, .int .i64 y, .int .i64 ww, .int .i64 hh] 40)) Bb (Qb.map Int.ofNat)) := Lib.hid (IB_10.out.below (allocs_below [(#[.int .i64 x, .int .i64 y, .int .i64 ww, .int .i64 hh], 40)] _ hb hb.size) (Nat.le_refl _))
      have IC_11 : Hid (Iz (v10.alloc (.cells #[.int .i64 x, .int .i64 y, .int .i64 ww, .int .i64 hh] 40)) (some ⟨bc, oc, none⟩) (C.map Int.ofNat)) := Lib.hid (IC_10.out.below (allocs_below [(#[.int .i64 x, .int .i64 y, .int .i64 ww, .int .i64 hh], 40)] _ hb hb.size) (Nat.le_refl _))
      have DT_11 : Hid (Dz (v10.alloc (.cells #[.int .i64 x, .int .i64 y, .int .i64 ww, .int .i64 hh] 40)) A9 fs) := Lib.hid (DT_10.out.below (allocs_below [(#[.int .i64 x, .int .i64 y, .int .i64 ww, .int .i64 hh], 40)] _ hb hb.size) (Nat.le_refl _))
      clear TZ_10 DS_10 IA_10 IB_10 IC_10 DT_10
      have S_11 : Hid (Blk (v10.alloc (.cells #[.int .i64 x, .int .i64 y, .int .i64 ww, .int .i64 hh] 40)) v1.heap.size 27 #[.int .i64 P, .int .i64 N, .slice (some ⟨b, o, none⟩) ds.length k1]) := Lib.hid (allocs_keep [(#[.int .i64 x, .int .i64 y, .int .i64 ww, .int .i64 hh], 40)] _ (S_10.out.below hb S_10.out.lt))
      have T_11 : Hid (Blk (v10.alloc (.cells #[.int .i64 x, .int .i64 y, .int .i64 ww, .int .i64 hh] 40)) v8.heap.size 27 #[.int .i64 P, .int .i64 N, .slice A9 fs.length k9]) := Lib.hid (allocs_keep [(#[.int .i64 x, .int .i64 y, .int .i64 ww, .int .i64 hh], 40)] _ (T_10.out.below hb T_10.out.lt))
      have HB_11 : Hid (Below w.heap.size w (v10.alloc (.cells #[.int .i64 x, .int .i64 y, .int .i64 ww, .int .i64 hh] 40))) := Lib.hid (allocs_below [(#[.int .i64 x, .int .i64 y, .int .i64 ww, .int .i64 hh], 40)] _ (HB_10.out.trans (hb.mono HB_10.out.size)) (HB_10.out.trans (hb.mono HB_10.out.size)).size)
      have R_11 : Hid (Blk (v10.alloc (.cells #[.int .i64 x, .int .i64 y, .int .i64 ww, .int .i64 hh] 40)) v10.heap.size 40 #[.int .i64 x, .int .i64 y, .int .i64 ww, .int .i64 hh]) := Lib.hid (allocs_blk [(#[.int .i64 x, .int .i64 y, .int .i64 ww, .int .i64 hh], 40)] v10 0 _ rfl)
      clear hb S_10 T_10 HB_10
      have yy0 := T_11.out.cell (i := 0) (v := .int .i64 P) rfl; have yy1 := T_11.out.cell (i := 1) (v := .int .i64 N) rfl; have yy2 := T_11.out.cell (i := 2) (v := .slice A9 fs.length k9) rfl
      go_wp2_with fail
      refine (pbox_yes P N fs A9 k9 _ DT_11.out (by have := HFL.out; omega) HVF.out).mono ?_
      rintro e v11 ⟨x2, y2, ww2, hh2, hbx, rfl, hb⟩
      have HB2 := Lib.hid hbx; clear hbx
      clear yy0 yy1 yy2
      have TZ_12 : Hid (Tz (v11.alloc (.cells #[.int .i64 x2, .int .i64 y2, .int .i64 ww2, .int .i64 hh2] 40)) A0 n) := Lib.hid (TZ_11.out.below (allocs_below [(#[.int .i64 x2, .int .i64 y2, .int .i64 ww2, .int .i64 hh2], 40)] _ hb hb.size) (Nat.le_refl _))
      have DS_12 : Hid (Dz (v11.alloc (.cells #[.int .i64 x2, .int .i64 y2, .int .i64 ww2, .int .i64 hh2] 40)) (some ⟨b, o, none⟩) ds) := Lib.hid (DS_11.out.below (allocs_below [(#[.int .i64 x2, .int .i64 y2, .int .i64 ww2, .int .i64 hh2], 40)] _ hb hb.size) (Nat.le_refl _))
      have IA_12 : Hid (Iz (v11.alloc (.cells #[.int .i64 x2, .int .i64 y2, .int .i64 ww2, .int .i64 hh2] 40)) Ba (Qa.map Int.ofNat)) := Lib.hid (IA_11.out.below (allocs_below [(#[.int .i64 x2, .int .i64 y2, .int .i64 ww2, .int .i64 hh2], 40)] _ hb hb.size) (Nat.le_refl _))
      have IB_12 : Hid (Iz (v11.alloc (.cells #[.int .i64 x2, .int .i64 y2, .int .i64 ww2, .int .i64 hh2] 40)) Bb (Qb.map Int.ofNat)) := Lib.hid (IB_11.out.below (allocs_below [(#[.int .i64 x2, .int .i64 y2, .int .i64 ww2, .int .i64 hh2], 40)] _ hb hb.size) (Nat.le_refl _))
      have IC_12 : Hid (Iz (v11.alloc (.cells #[.int .i64 x2, .int .i64 y2, .int .i64 ww2, .int .i64 hh2] 40)) (some ⟨bc, oc, none⟩) (C.map Int.ofNat)) := Lib.hid (IC_11.out.below (allocs_below [(#[.int .i64 x2, .int .i64 y2, .int .i64 ww2, .int .i64 hh2], 40)] _ hb hb.size) (Nat.le_refl _))
      have DT_12 : Hid (Dz (v11.alloc (.cells #[.int .i64 x2, .int .i64 y2, .int .i64 ww2, .int .i64 hh2] 40)) A9 fs) := Lib.hid (DT_11.out.below (allocs_below [(#[.int .i64 x2, .int .i64 y2, .int .i64 ww2, .int .i64 hh2], 40)] _ hb hb.size) (Nat.le_refl _))
      clear TZ_11 DS_11 IA_11 IB_11 IC_11 DT_11
      have S_12 : Hid (Blk (v11.alloc (.cells #[.int .i64 x2, .int .i64 y2, .int .i64 ww2, .int .i64 hh2] 40)) v1.heap.size 27 #[.int .i64 P, .int .i64 N, .slice (some ⟨b, o, none⟩) ds.length k1]) := Lib.hid (allocs_keep [(#[.int .i64 x2, .int .i64 y2, .int .i64 ww2, .int .i64 hh2], 40)] _ (S_11.out.below hb S_11.out.lt))
      have T_12 : Hid (Blk (v11.alloc (.cells #[.int .i64 x2, .int .i64 y2, .int .i64 ww2, .int .i64 hh2] 40)) v8.heap.size 27 #[.int .i64 P, .int .i64 N, .slice A9 fs.length k9]) := Lib.hid (allocs_keep [(#[.int .i64 x2, .int .i64 y2, .int .i64 ww2, .int .i64 hh2], 40)] _ (T_11.out.below hb T_11.out.lt))
      have R_12 : Hid (Blk (v11.alloc (.cells #[.int .i64 x2, .int .i64 y2, .int .i64 ww2, .int .i64 hh2] 40)) v10.heap.size 40 #[.int .i64 x, .int .i64 y, .int .i64 ww, .int .i64 hh]) := Lib.hid (allocs_keep [(#[.int .i64 x2, .int .i64 y2, .int .i64 ww2, .int .i64 hh2], 40)] _ (R_11.out.below hb R_11.out.lt))
      have HB_12 : Hid (Below w.heap.size w (v11.alloc (.cells #[.int .i64 x2, .int .i64 y2, .int .i64 ww2, .int .i64 hh2] 40))) := Lib.hid (allocs_below [(#[.int .i64 x2, .int .i64 y2, .int .i64 ww2, .int .i64 hh2], 40)] _ (HB_11.out.trans (hb.mono HB_11.out.size)) (HB_11.out.trans (hb.mono HB_11.out.size)).size)
      have Q_12 : Hid (Blk (v11.alloc (.cells #[.int .i64 x2, .int .i64 y2, .int .i64 ww2, .int .i64 hh2] 40)) v11.heap.size 40 #[.int .i64 x2, .int .i64 y2, .int .i64 ww2, .int .i64 hh2]) := Lib.hid (allocs_blk [(#[.int .i64 x2, .int .i64 y2, .int .i64 ww2, .int .i64 hh2], 40)] v11 0 _ rfl)
      clear hb S_11 T_11 R_11 HB_11
      have hon := box_on HVD.out HBX.out; have hon2 := box_on HVF.out HB2.out; have hsub := IsBox.sub HSB.out HBX.out HB2.out
      have ewa : IntKind.i64.wrap (x + ww) = x + ww := IntWalk.i64_in _ (by omega)
      have ewb : IntKind.i64.wrap (y + hh) = y + hh := IntWalk.i64_in _ (by omega)
      have ewc : IntKind.i64.wrap (x2 + ww2) = x2 + ww2 := IntWalk.i64_in _ (by omega)
      have ewd : IntKind.i64.wrap (y2 + hh2) = y2 + hh2 := IntWalk.i64_in _ (by omega)
      obtain ⟨j1, j2, j3, j4⟩ := hsub; clear hon hon2
      have yy0 := R_12.out.cell (i := 0) (v := .int .i64 x) rfl; have yy1 := R_12.out.cell (i := 1) (v := .int .i64 y) rfl; have yy2 := R_12.out.cell (i := 2) (v := .int .i64 ww) rfl; have yy3 := R_12.out.cell (i := 3) (v := .int .i64 hh) rfl
      have yy4 := Q_12.out.cell (i := 0) (v := .int .i64 x2) rfl; have yy5 := Q_12.out.cell (i := 1) (v := .int .i64 y2) rfl; have yy6 := Q_12.out.cell (i := 2) (v := .int .i64 ww2) rfl; have yy7 := Q_12.out.cell (i := 3) (v := .int .i64 hh2) rfl
      go_wp2_with fail
      go_ret
      exact ⟨rfl, HB_12.out⟩
    case pos =>
      have HLT := Lib.hid hlt
      have hal := HH.out.lt HC0.out
      obtain ⟨a1, ha1⟩ : ∃ a1, a1 = a + 1 := ⟨_, rfl⟩
      have e1 : IntKind.i64.wrap ((a : Int) + 1) = (a1 : Int) := by have := HCM.out; rw [IntWalk.i64_in _ (by omega)]; omega
      have HA1 := Lib.hid ha1; clear ha1 hal
      have q2 : (i : Int) < (ds.length : Int) := by omega
      have yS := (S_7.out.below HU.out S_7.out.lt).cell (i := 2) (v := .slice (some ⟨b, o, none⟩) ds.length k1) rfl
      go_upto_region 15 with fail
      clear yS q2
      go_cut [122] from 109 to 121 (fun v wx => ∃ bb : Bool, v = .bool bb ∧ (bb = true → AtC C i a1) ∧ (bb = false → AtC C i a) ∧ wr = wx)
      case first =>
        by_cases h1 : (a1 : Int) < (C.length : Int)
        case neg =>
          have hat : AtC C i a := HH.out.stay HC0.out (fun u hu => absurd (List.getElem?_eq_some_iff.1 hu).1 (by have := HA1.out; omega))
          go_wp2_with fail
          go_meet
          exact ⟨false, rfl, fun h => (by cases h), fun _ => hat, rfl⟩
        case pos =>
          obtain ⟨v1, hv1⟩ : ∃ v1, C[a1]? = some v1 := ⟨_, List.getElem?_eq_getElem (by omega)⟩
          have yc := iz_nat (IC_7.out.below HU.out (Nat.le_refl _)) hv1
          have q1 : (0 : Int) ≤ (a1 : Int) := by omega
          have HV1 := Lib.hid hv1; clear hv1
          by_cases h2 : (v1 : Int) ≤ (i : Int)
          case pos =>
            have hat : AtC C i a1 := by have h3 := HV1.out; rw [HA1.out] at h3 ⊢; exact HH.out.go HC0.out (fun k x y p q => (HCN.out k x y p q).1) h3 (by omega)
            go_wp2_with fail
            go_meet
            exact ⟨true, rfl, fun _ => hat, fun h => (by cases h), rfl⟩
          case neg =>
            have hat : AtC C i a := HH.out.stay HC0.out (fun u hu => by have h3 := HV1.out; rw [HA1.out, hu, Option.some.injEq] at h3; omega)
            go_wp2_with fail
            go_meet
            exact ⟨false, rfl, fun h => (by cases h), fun _ => hat, rfl⟩
      case rest =>
        obtain ⟨bb, rfl, hb1, hb2, rfl⟩ := hcut
        have HB1 := Lib.hid (And.intro hb1 hb2); clear hb1 hb2
        go_upto_if 122 with fail
        go_cut [20] from 123 to 124 (fun v wx => ∃ a2 : Nat, v = .int .i64 a2 ∧ AtC C i a2 ∧ wr = wx)
        case first =>
          cases bb with
          | true => go_wp2_with fail; go_meet; exact ⟨a1, rfl, HB1.out.1 (by simp), rfl⟩
          | false => go_wp2_with fail; go_meet; exact ⟨a, rfl, HB1.out.2 (by simp), rfl⟩
        case rest =>
          obtain ⟨a2, rfl, hat, rfl⟩ := hcut
          clear e1 HA1 HH HB1
          obtain ⟨v, hv, hvi, hnx⟩ := hat
          have HAT : Hid (AtC C i a2) := Lib.hid ⟨v, hv, hvi, hnx⟩
          have HV := Lib.hid hv; have HVI := Lib.hid hvi; have HNX := Lib.hid hnx; clear hv hvi hnx
          have ha2 := (List.getElem?_eq_some_iff.1 HV.out).1
          have q1 : (0 : Int) ≤ (a2 : Int) := by omega
          have q2 : (a2 : Int) < (C.length : Int) := by omega
          have yc := iz_nat (IC_7.out.below HU.out (Nat.le_refl _)) HV.out
          have q5 : (i : Int) + 1 ≤ 9223372036854775807 := by have := HZL.out; have := HLT.out; omega
          by_cases hvq : (v : Int) = (i : Int)
          case pos =>
            go_wp2_with fail
            go_roundw
            case rel => exact ⟨a2, i + 1, rfl, by go_num, by have := HLT.out; omega, .inr ⟨i, rfl, HAT.out⟩, HU.out⟩
            case measure => have := HLT.out; simp [intOf]; omega
          case neg =>
            have hvq2 : ((v : Int) == (i : Int)) = false := beq_eq_false_iff_ne.2 hvq
            go_upto_region 18 with fail
            clear yc
            have hvi := HVI.out
            have hlt2 : v < i := by omega
            have h3 : a2 + 1 < C.length := by
              apply Classical.byContradiction
              intro hn
              obtain rfl : a2 = e := by have := HCL.out.1; omega
              have h4 := HCL.out.2
              rw [HV.out, Option.some.injEq] at h4
              have := HL.out; have := HLT.out; omega
            obtain ⟨a3, ha3⟩ : ∃ a3, a3 = a2 + 1 := ⟨_, rfl⟩
            obtain ⟨u1, hu1⟩ : ∃ u1, C[a3]? = some u1 := ⟨_, List.getElem?_eq_getElem (by omega)⟩
            have hiu : i < u1 := HNX.out u1 (by rw [← ha3]; exact hu1)
            have hbt : BetwP ds 0 v u1 := (HCN.out a2 v u1 HV.out (by rw [← ha3]; exact hu1)).2
            have hul : u1 ≤ l := HTC.out.1.le u1 (List.mem_of_getElem? hu1)
            have HU1 := Lib.hid hu1; have HBT := Lib.hid hbt; have HORD := Lib.hid (And.intro hlt2 (And.intro hiu hul))
            have e3 : IntKind.i64.wrap ((a2 : Int) + 1) = (a3 : Int) := by have := HCM.out; rw [IntWalk.i64_in _ (by omega)]; omega
            have q3 : (0 : Int) ≤ (a3 : Int) := by omega
            have q4 : (a3 : Int) < (C.length : Int) := by omega
            have m1 : ¬ ((C.length : Int) ≤ (a3 : Int)) := by omega
            have m2 : ¬ ((v : Int) < 0) := by omega
            have m3 : ¬ ((ds.length : Int) ≤ (u1 : Int)) := by have := HL.out; omega
            have m1d := decide_eq_false m1; have m2d := decide_eq_false m2; have m3d := decide_eq_false m3
            clear hvi hlt2 h3 ha3 hu1 hiu hbt hul ha2 hvq hvq2
            refine wp_region_grow (S := (fun w' => w'.cell? ⟨v1.heap.size, 2, none⟩ = some (.slice (some ⟨b, o, none⟩) ds.length k1) ∧ w'.cell? ⟨bc, oc + a2, none⟩ = some (.int .i64 (v : Nat)) ∧ w'.cell? ⟨bc, oc + a3, none⟩ = some (.int .i64 (u1 : Nat)))) ((fun w' => Below uz.heap.size uz w')) (by kernel_rfl) (⟨fun w2 h2 => ⟨((S_7.out.below h2 S_7.out.lt).cell (i := 2) rfl), (iz_nat (IC_7.out.below h2 (Nat.le_refl _)) HV.out), (iz_nat (IC_7.out.below h2 (Nat.le_refl _)) HU1.out)⟩, fun w2 w3 h2 hb2 => h2.trans (hb2.mono h2.size)⟩) (HU.out.drew) (fun hCalm => ?_)
            refine grow_take 0 (some 131) ?_ rfl rfl (by kernel_rfl) (fun _ _ _ h => h) (by kernel_rfl) hCalm ?_ ?_
            rotate_left
            · intro wS hS; (try dsimp only at hS); go_simp <;> with_reducible rfl
            try simp only [Act.put, List.setIfInBounds_toArray, List.set_cons_zero, List.set_cons_succ]
            refine grow_take 1 (some 132) ?_ rfl rfl (by kernel_rfl) (fun _ _ _ h => h) (by kernel_rfl) hCalm ?_ ?_
            rotate_left
            · intro wS hS; (try dsimp only at hS); go_simp <;> with_reducible rfl
            try simp only [Act.put, List.setIfInBounds_toArray, List.set_cons_zero, List.set_cons_succ]
            refine grow_take 2 (some 133) ?_ rfl rfl (by kernel_rfl) (fun _ _ _ h => h) (by kernel_rfl) hCalm ?_ ?_
            rotate_left
            · intro wS hS; (try dsimp only at hS); go_simp <;> with_reducible rfl
            try simp only [Act.put, List.setIfInBounds_toArray, List.set_cons_zero, List.set_cons_succ]
            refine grow_take 3 (some 134) ?_ rfl rfl (by kernel_rfl) (fun _ _ _ h => h) (by kernel_rfl) hCalm ?_ ?_
            rotate_left
            · intro wS hS; (try dsimp only at hS); go_simp <;> with_reducible rfl
            try simp only [Act.put, List.setIfInBounds_toArray, List.set_cons_zero, List.set_cons_succ]
            refine grow_take 4 (some 135) (.bool false) rfl rfl (by kernel_rfl) (fun _ _ _ h => h) (by kernel_rfl) hCalm ?_ ?_
            · intro wS hS; (try dsimp only at hS); go_simp
            try simp only [Act.put, List.setIfInBounds_toArray, List.set_cons_zero, List.set_cons_succ]
            refine grow_take 5 (some 136) ?_ rfl rfl (by kernel_rfl) (fun _ _ _ h => h) (by kernel_rfl) hCalm ?_ ?_
            rotate_left
            · intro wS hS; (try dsimp only at hS); go_simp <;> with_reducible rfl
            try simp only [Act.put, List.setIfInBounds_toArray, List.set_cons_zero, List.set_cons_succ]
            refine grow_take 6 (some 137) ?_ rfl rfl (by kernel_rfl) (fun _ _ _ h => h) (by kernel_rfl) hCalm ?_ ?_
            rotate_left
            · intro wS hS; (try dsimp only at hS); go_simp <;> with_reducible rfl
            try simp only [Act.put, List.setIfInBounds_toArray, List.set_cons_zero, List.set_cons_succ]
            refine grow_take 7 (some 138) ?_ rfl rfl (by kernel_rfl) (fun _ _ _ h => h) (by kernel_rfl) hCalm ?_ ?_
            rotate_left
            · intro wS hS; (try dsimp only at hS); go_simp <;> with_reducible rfl
            try simp only [Act.put, List.setIfInBounds_toArray, List.set_cons_zero, List.set_cons_succ]
            refine grow_take 8 (some 139) ?_ rfl rfl (by kernel_rfl) (fun _ _ _ h => h) (by kernel_rfl) hCalm ?_ ?_
            rotate_left
            · intro wS hS; (try dsimp only at hS); go_simp <;> with_reducible rfl
            try simp only [Act.put, List.setIfInBounds_toArray, List.set_cons_zero, List.set_cons_succ]
            refine grow_take 9 (some 140) ?_ rfl rfl (by kernel_rfl) (fun _ _ _ h => h) (by kernel_rfl) hCalm ?_ ?_
            rotate_left
            · intro wS hS; (try dsimp only at hS); go_simp <;> with_reducible rfl
            try simp only [Act.put, List.setIfInBounds_toArray, List.set_cons_zero, List.set_cons_succ]
            refine grow_take 10 (some 141) (.bool false) rfl rfl (by kernel_rfl) (fun _ _ _ h => h) (by kernel_rfl) hCalm ?_ ?_
            · intro wS hS; (try dsimp only at hS); go_simp
            try simp only [Act.put, List.setIfInBounds_toArray, List.set_cons_zero, List.set_cons_succ]
            refine grow_take 11 (some 142) ?_ rfl rfl (by kernel_rfl) (fun _ _ _ h => h) (by kernel_rfl) hCalm ?_ ?_
            rotate_left
            · intro wS hS; (try dsimp only at hS); go_simp <;> with_reducible rfl
            try simp only [Act.put, List.setIfInBounds_toArray, List.set_cons_zero, List.set_cons_succ]
            refine grow_take 12 (some 143) ?_ rfl rfl (by kernel_rfl) (fun _ _ _ h => h) (by kernel_rfl) hCalm ?_ ?_
            rotate_left
            · intro wS hS; (try dsimp only at hS); go_simp <;> with_reducible rfl
            try simp only [Act.put, List.setIfInBounds_toArray, List.set_cons_zero, List.set_cons_succ]
            refine grow_take 13 (some 144) ?_ rfl rfl (by kernel_rfl) (fun _ _ _ h => h) (by kernel_rfl) hCalm ?_ ?_
            rotate_left
            · intro wS hS; (try dsimp only at hS); go_simp <;> with_reducible rfl
            try simp only [Act.put, List.setIfInBounds_toArray, List.set_cons_zero, List.set_cons_succ]
            refine grow_take 14 (some 145) ?_ rfl rfl (by kernel_rfl) (fun _ _ _ h => h) (by kernel_rfl) hCalm ?_ ?_
            rotate_left
            · intro wS hS; (try dsimp only at hS); go_simp <;> with_reducible rfl
            try simp only [Act.put, List.setIfInBounds_toArray, List.set_cons_zero, List.set_cons_succ]
            refine grow_take 15 (some 146) ?_ rfl rfl (by kernel_rfl) (fun _ _ _ h => h) (by kernel_rfl) hCalm ?_ ?_
            rotate_left
            · intro wS hS; (try dsimp only at hS); go_simp <;> with_reducible rfl
            try simp only [Act.put, List.setIfInBounds_toArray, List.set_cons_zero, List.set_cons_succ]
            refine grow_take 16 (some 147) ?_ rfl rfl (by kernel_rfl) (fun _ _ _ h => h) (by kernel_rfl) hCalm ?_ ?_
            rotate_left
            · intro wS hS; (try dsimp only at hS); go_simp <;> with_reducible rfl
            try simp only [Act.put, List.setIfInBounds_toArray, List.set_cons_zero, List.set_cons_succ]
            refine grow_take 17 (some 148) ?_ rfl rfl (by kernel_rfl) (fun _ _ _ h => h) (by kernel_rfl) hCalm ?_ ?_
            rotate_left
            · intro wS hS; (try dsimp only at hS); go_simp <;> with_reducible rfl
            try simp only [Act.put, List.setIfInBounds_toArray, List.set_cons_zero, List.set_cons_succ]
            refine grow_take 18 (some 149) ?_ rfl rfl (by kernel_rfl) (fun _ _ _ h => h) (by kernel_rfl) hCalm ?_ ?_
            rotate_left
            · intro wS hS; (try dsimp only at hS); go_simp <;> with_reducible rfl
            try simp only [Act.put, List.setIfInBounds_toArray, List.set_cons_zero, List.set_cons_succ]
            refine grow_take 19 (some 150) ?_ rfl rfl (by kernel_rfl) (fun _ _ _ h => h) (by kernel_rfl) hCalm ?_ ?_
            rotate_left
            · intro wS hS; (try dsimp only at hS); go_simp <;> with_reducible rfl
            try simp only [Act.put, List.setIfInBounds_toArray, List.set_cons_zero, List.set_cons_succ]
            refine grow_take 20 (some 151) ?_ rfl rfl (by kernel_rfl) (fun _ _ _ h => h) (by kernel_rfl) hCalm ?_ ?_
            rotate_left
            · intro wS hS; (try dsimp only at hS); go_simp <;> with_reducible rfl
            try simp only [Act.put, List.setIfInBounds_toArray, List.set_cons_zero, List.set_cons_succ]
            refine grow_take 21 (some 152) (.bool false) rfl rfl (by kernel_rfl) (fun _ _ _ h => h) (by kernel_rfl) hCalm ?_ ?_
            · intro wS hS; (try dsimp only at hS); go_simp
            try simp only [Act.put, List.setIfInBounds_toArray, List.set_cons_zero, List.set_cons_succ]
            refine grow_take 22 (some 153) ?_ rfl rfl (by kernel_rfl) (fun _ _ _ h => h) (by kernel_rfl) hCalm ?_ ?_
            rotate_left
            · intro wS hS; (try dsimp only at hS); go_simp <;> with_reducible rfl
            try simp only [Act.put, List.setIfInBounds_toArray, List.set_cons_zero, List.set_cons_succ]
            refine grow_done (by kernel_rfl) (fun wA hA => ?_) _
            rename World => wb
            have HU2 := Lib.hid hA; clear hA hCalm HU m1 m1d m2d m3 m3d
            obtain ⟨p, hp⟩ : ∃ d, d = ds[v]'(by have h := HORD.out; have := HL.out; omega) := ⟨_, rfl⟩
            have HGp : Hid (ds[v]? = some p) := Lib.hid (by rw [hp]; exact List.getElem?_eq_getElem _)
            have HDp : Hid (∀ W, Below uz.heap.size uz W → W.cell? ⟨b, o + v * 4, none⟩ = some (.int .i64 p.x) ∧ W.cell? ⟨b, o + v * 4 + 1, none⟩ = some (.int .i64 p.y) ∧ W.cell? ⟨b, o + v * 4 + 2, none⟩ = some (.int .i64 p.t) ∧ W.cell? ⟨b, o + v * 4 + 3, none⟩ = some (.int .i64 p.p)) := Lib.hid (fun W hb => by
              have h9 := DS_7.out.at W hb v (by have h := HORD.out; have := HL.out; omega)
              rw [← hp] at h9
              exact h9)
            clear hp
            obtain ⟨q, hq⟩ : ∃ d, d = ds[u1]'(by have h := HORD.out; have := HL.out; omega) := ⟨_, rfl⟩
            have HGq : Hid (ds[u1]? = some q) := Lib.hid (by rw [hq]; exact List.getElem?_eq_getElem _)
            have HDq : Hid (∀ W, Below uz.heap.size uz W → W.cell? ⟨b, o + u1 * 4, none⟩ = some (.int .i64 q.x) ∧ W.cell? ⟨b, o + u1 * 4 + 1, none⟩ = some (.int .i64 q.y) ∧ W.cell? ⟨b, o + u1 * 4 + 2, none⟩ = some (.int .i64 q.t) ∧ W.cell? ⟨b, o + u1 * 4 + 3, none⟩ = some (.int .i64 q.p)) := Lib.hid (fun W hb => by
              have h9 := DS_7.out.at W hb u1 (by have h := HORD.out; have := HL.out; omega)
              rw [← hq] at h9
              exact h9)
            clear hq
            obtain ⟨d, hd⟩ : ∃ d, d = ds[i]'HLT.out := ⟨_, rfl⟩
            have HGd : Hid (ds[i]? = some d) := Lib.hid (by rw [hd]; exact List.getElem?_eq_getElem _)
            have HDd : Hid (∀ W, Below uz.heap.size uz W → W.cell? ⟨b, o + i * 4, none⟩ = some (.int .i64 d.x) ∧ W.cell? ⟨b, o + i * 4 + 1, none⟩ = some (.int .i64 d.y) ∧ W.cell? ⟨b, o + i * 4 + 2, none⟩ = some (.int .i64 d.t) ∧ W.cell? ⟨b, o + i * 4 + 3, none⟩ = some (.int .i64 d.p)) := Lib.hid (fun W hb => by
              have h9 := DS_7.out.at W hb i HLT.out
              rw [← hd] at h9
              exact h9)
            clear hd
            have hmx : (if (v : Int) < 0 then 0 else (v : Int)) = (v : Int) := if_neg m2
            have hmx2 : (if (u1 : Int) < 0 then 0 else (u1 : Int)) = (u1 : Int) := if_neg (by omega)
            have hmn : (if (l : Int) < (u1 : Int) then (l : Int) else (u1 : Int)) = (u1 : Int) := if_neg (by have := HORD.out; omega)
            have hlu : ¬ (l < u1) := by have := HORD.out; omega
            have hmn2 : (if l < u1 then (l : Int) else (u1 : Int)) = (u1 : Int) := if_neg hlu
            have w2_ := HW2.out
            have s1 : (0 : Int) ≤ (v : Int) := by omega
            have s2 : (v : Int) < (ds.length : Int) := by have := HORD.out; have := HL.out; omega
            have s3 : (0 : Int) ≤ (u1 : Int) := by omega
            have s4 : (u1 : Int) < (ds.length : Int) := by have := HORD.out; have := HL.out; omega
            go_wp2_with fail
            refine wp_region_grow (S := (fun w' => w'.cell? ⟨v1.heap.size, 2, none⟩ = some (.slice (some ⟨b, o, none⟩) ds.length k1) ∧ w'.cell? ⟨bc, oc + a2, none⟩ = some (.int .i64 (v : Nat)) ∧ w'.cell? ⟨b, o + v * 4, none⟩ = some (.int .i64 p.x) ∧ w'.cell? ⟨b, o + v * 4 + 1, none⟩ = some (.int .i64 p.y) ∧ w'.cell? ⟨b, o + v * 4 + 2, none⟩ = some (.int .i64 p.t) ∧ w'.cell? ⟨b, o + v * 4 + 3, none⟩ = some (.int .i64 p.p))) ((fun w' => Below uz.heap.size uz w')) (by kernel_rfl) (⟨fun w2 h2 => ⟨((S_7.out.below h2 S_7.out.lt).cell (i := 2) rfl), (iz_nat (IC_7.out.below h2 (Nat.le_refl _)) HV.out), (HDp.out w2 h2).1, (HDp.out w2 h2).2.1, (HDp.out w2 h2).2.2.1, (HDp.out w2 h2).2.2.2⟩, fun w2 w3 h2 hb2 => h2.trans (hb2.mono h2.size)⟩) (HU2.out.drew) (fun hCalm => ?_)
            refine grow_take 0 (some 154) ?_ rfl rfl (by kernel_rfl) (fun _ _ _ h => h) (by kernel_rfl) hCalm ?_ ?_
            rotate_left
            · intro wS hS; (try dsimp only at hS); go_simp <;> with_reducible rfl
            try simp only [Act.put, List.setIfInBounds_toArray, List.set_cons_zero, List.set_cons_succ]
            refine grow_take 1 (some 155) ?_ rfl rfl (by kernel_rfl) (fun _ _ _ h => h) (by kernel_rfl) hCalm ?_ ?_
            rotate_left
            · intro wS hS; (try dsimp only at hS); go_simp <;> with_reducible rfl
            try simp only [Act.put, List.setIfInBounds_toArray, List.set_cons_zero, List.set_cons_succ]
            refine grow_take 2 (some 156) ?_ rfl rfl (by kernel_rfl) (fun _ _ _ h => h) (by kernel_rfl) hCalm ?_ ?_
            rotate_left
            · intro wS hS; (try dsimp only at hS); go_simp <;> with_reducible rfl
            try simp only [Act.put, List.setIfInBounds_toArray, List.set_cons_zero, List.set_cons_succ]
            refine grow_take 3 (some 157) ?_ rfl rfl (by kernel_rfl) (fun _ _ _ h => h) (by kernel_rfl) hCalm ?_ ?_
            rotate_left
            · intro wS hS; (try dsimp only at hS); go_simp <;> with_reducible rfl
            try simp only [Act.put, List.setIfInBounds_toArray, List.set_cons_zero, List.set_cons_succ]
            refine grow_take 4 (some 158) ?_ rfl rfl (by kernel_rfl) (fun _ _ _ h => h) (by kernel_rfl) hCalm ?_ ?_
            rotate_left
            · intro wS hS; (try dsimp only at hS); go_simp <;> with_reducible rfl
            try simp only [Act.put, List.setIfInBounds_toArray, List.set_cons_zero, List.set_cons_succ]
            refine grow_take 5 (some 159) ?_ rfl rfl (by kernel_rfl) (fun _ _ _ h => h) (by kernel_rfl) hCalm ?_ ?_
            rotate_left
            · intro wS hS; (try dsimp only at hS); go_simp <;> with_reducible rfl
            try simp only [Act.put, List.setIfInBounds_toArray, List.set_cons_zero, List.set_cons_succ]
            refine grow_take 6 (some 160) ?_ rfl rfl (by kernel_rfl) (fun _ _ _ h => h) (by kernel_rfl) hCalm ?_ ?_
            rotate_left
            · intro wS hS; (try dsimp only at hS); go_simp <;> with_reducible rfl
            try simp only [Act.put, List.setIfInBounds_toArray, List.set_cons_zero, List.set_cons_succ]
            refine grow_take 7 (some 161) ?_ rfl rfl (by kernel_rfl) (fun _ _ _ h => h) (by kernel_rfl) hCalm ?_ ?_
            rotate_left
            · intro wS hS; (try dsimp only at hS); go_simp <;> with_reducible rfl
            try simp only [Act.put, List.setIfInBounds_toArray, List.set_cons_zero, List.set_cons_succ]
            refine grow_take 8 (some 162) ?_ rfl rfl (by kernel_rfl) (fun _ _ _ h => h) (by kernel_rfl) hCalm ?_ ?_
            rotate_left
            · intro wS hS; (try dsimp only at hS); go_simp <;> with_reducible rfl
            try simp only [Act.put, List.setIfInBounds_toArray, List.set_cons_zero, List.set_cons_succ]
            refine grow_each [9] (by kernel_rfl) (by decide) ?_
            refine grow_cons 9 rfl (by kernel_rfl) (fun wA hA K hK => ?_) grow_nil
            obtain ⟨pPP, hpPP⟩ : ∃ b, b = wA.heap.size := ⟨_, rfl⟩
            have le_pPP : uz.heap.size ≤ pPP := by rw [hpPP]; exact hA.size
            have hnew : Blk (wA.alloc (.cells #[.int .i64 0, .int .i64 0, .int .i64 0, .int .i64 0] 24)) pPP 24 #[.int .i64 0, .int .i64 0, .int .i64 0, .int .i64 0] := by rw [hpPP]; exact Blk.new wA _ _
            go_simp
            rw [← hpPP]
            refine hK.out _ _ (fun w' => Below uz.heap.size uz w' ∧ Blk w' pPP 24 #[.int .i64 0, .int .i64 0, .int .i64 0, .int .i64 0]) ⟨fun w2 h2 => ⟨((S_7.out.below h2.1 S_7.out.lt).cell (i := 2) rfl), (iz_nat (IC_7.out.below h2.1 (Nat.le_refl _)) HV.out), (HDp.out w2 h2.1).1, (HDp.out w2 h2.1).2.1, (HDp.out w2 h2.1).2.2.1, (HDp.out w2 h2.1).2.2.2⟩, fun w2 w3 h2 hb2 => ⟨h2.1.trans (hb2.mono h2.1.size), h2.2.below hb2 h2.2.lt⟩⟩ ⟨hA.alloc hA.size _, hnew⟩ ?_
            clear hnew hpPP hK K hA wA hCalm
            have hCalm : Calm (fun w' => w'.cell? ⟨v1.heap.size, 2, none⟩ = some (.slice (some ⟨b, o, none⟩) ds.length k1) ∧ w'.cell? ⟨bc, oc + a2, none⟩ = some (.int .i64 (v : Nat)) ∧ w'.cell? ⟨b, o + v * 4, none⟩ = some (.int .i64 p.x) ∧ w'.cell? ⟨b, o + v * 4 + 1, none⟩ = some (.int .i64 p.y) ∧ w'.cell? ⟨b, o + v * 4 + 2, none⟩ = some (.int .i64 p.t) ∧ w'.cell? ⟨b, o + v * 4 + 3, none⟩ = some (.int .i64 p.p)) (fun w' => Below uz.heap.size uz w' ∧ Blk w' pPP 24 #[.int .i64 0, .int .i64 0, .int .i64 0, .int .i64 0]) := ⟨fun w2 h2 => ⟨((S_7.out.below h2.1 S_7.out.lt).cell (i := 2) rfl), (iz_nat (IC_7.out.below h2.1 (Nat.le_refl _)) HV.out), (HDp.out w2 h2.1).1, (HDp.out w2 h2.1).2.1, (HDp.out w2 h2.1).2.2.1, (HDp.out w2 h2.1).2.2.2⟩, fun w2 w3 h2 hb2 => ⟨h2.1.trans (hb2.mono h2.1.size), h2.2.below hb2 h2.2.lt⟩⟩
            try simp only [Act.put, List.setIfInBounds_toArray, List.set_cons_zero, List.set_cons_succ]
            refine grow_each [10] (by kernel_rfl) (by decide) ?_
            refine grow_cons 10 rfl (by kernel_rfl) (fun wA hA K hK => ?_) grow_nil
            have z0 := hA.2.cell (i := 0) (v := .int .i64 0) rfl; have f0 := hA.2.frozen 0
            have z1 := hA.2.cell (i := 1) (v := .int .i64 0) rfl; have f1 := hA.2.frozen 1
            have z2 := hA.2.cell (i := 2) (v := .int .i64 0) rfl; have f2 := hA.2.frozen 2
            have z3 := hA.2.cell (i := 3) (v := .int .i64 0) rfl; have f3 := hA.2.frozen 3
            go_simp
            refine hK.out _ _ (fun w' => Below uz.heap.size uz w' ∧ Blk w' pPP 24 #[.int .i64 p.x, .int .i64 p.y, .int .i64 p.t, .int .i64 p.p]) ⟨fun w2 h2 => ⟨((S_7.out.below h2.1 S_7.out.lt).cell (i := 2) rfl), (iz_nat (IC_7.out.below h2.1 (Nat.le_refl _)) HV.out), (HDp.out w2 h2.1).1, (HDp.out w2 h2.1).2.1, (HDp.out w2 h2.1).2.2.1, (HDp.out w2 h2.1).2.2.2⟩, fun w2 w3 h2 hb2 => ⟨h2.1.trans (hb2.mono h2.1.size), h2.2.below hb2 h2.2.lt⟩⟩ ⟨((((hA.1.setCell (p := ⟨pPP, 0, none⟩) (by show uz.heap.size ≤ pPP; omega) _).setCell (p := ⟨pPP, 1, none⟩) (by show uz.heap.size ≤ pPP; omega) _).setCell (p := ⟨pPP, 2, none⟩) (by show uz.heap.size ≤ pPP; omega) _).setCell (p := ⟨pPP, 3, none⟩) (by show uz.heap.size ≤ pPP; omega) _), ((((hA.2.set 0 _).set 1 _).set 2 _).set 3 _)⟩ ?_
            clear z0 f0 z1 f1 z2 f2 z3 f3 hK K hA wA hCalm
            have hCalm : Calm (fun w' => w'.cell? ⟨v1.heap.size, 2, none⟩ = some (.slice (some ⟨b, o, none⟩) ds.length k1) ∧ w'.cell? ⟨bc, oc + a2, none⟩ = some (.int .i64 (v : Nat)) ∧ w'.cell? ⟨b, o + v * 4, none⟩ = some (.int .i64 p.x) ∧ w'.cell? ⟨b, o + v * 4 + 1, none⟩ = some (.int .i64 p.y) ∧ w'.cell? ⟨b, o + v * 4 + 2, none⟩ = some (.int .i64 p.t) ∧ w'.cell? ⟨b, o + v * 4 + 3, none⟩ = some (.int .i64 p.p)) (fun w' => Below uz.heap.size uz w' ∧ Blk w' pPP 24 #[.int .i64 p.x, .int .i64 p.y, .int .i64 p.t, .int .i64 p.p]) := ⟨fun w2 h2 => ⟨((S_7.out.below h2.1 S_7.out.lt).cell (i := 2) rfl), (iz_nat (IC_7.out.below h2.1 (Nat.le_refl _)) HV.out), (HDp.out w2 h2.1).1, (HDp.out w2 h2.1).2.1, (HDp.out w2 h2.1).2.2.1, (HDp.out w2 h2.1).2.2.2⟩, fun w2 w3 h2 hb2 => ⟨h2.1.trans (hb2.mono h2.1.size), h2.2.below hb2 h2.2.lt⟩⟩
            try simp only [Act.put]
            refine grow_done (by kernel_rfl) (fun wA hA => ?_) _
            rename World => wc
            have HU3 := Lib.hid hA.1; have HPP := Lib.hid hA.2; clear hA hCalm HU2
            go_wp2_with fail
            refine wp_region_grow (S := (fun w' => w'.cell? ⟨v1.heap.size, 2, none⟩ = some (.slice (some ⟨b, o, none⟩) ds.length k1) ∧ w'.cell? ⟨bc, oc + a3, none⟩ = some (.int .i64 (u1 : Nat)) ∧ w'.cell? ⟨b, o + u1 * 4, none⟩ = some (.int .i64 q.x) ∧ w'.cell? ⟨b, o + u1 * 4 + 1, none⟩ = some (.int .i64 q.y) ∧ w'.cell? ⟨b, o + u1 * 4 + 2, none⟩ = some (.int .i64 q.t) ∧ w'.cell? ⟨b, o + u1 * 4 + 3, none⟩ = some (.int .i64 q.p))) ((fun w' => Below uz.heap.size uz w' ∧ Blk w' pPP 24 #[.int .i64 p.x, .int .i64 p.y, .int .i64 p.t, .int .i64 p.p])) (by kernel_rfl) (⟨fun w2 h2 => ⟨((S_7.out.below h2.1 S_7.out.lt).cell (i := 2) rfl), (iz_nat (IC_7.out.below h2.1 (Nat.le_refl _)) HU1.out), (HDq.out w2 h2.1).1, (HDq.out w2 h2.1).2.1, (HDq.out w2 h2.1).2.2.1, (HDq.out w2 h2.1).2.2.2⟩, fun w2 w3 h2 hb2 => ⟨h2.1.trans (hb2.mono h2.1.size), h2.2.below hb2 h2.2.lt⟩⟩) (⟨HU3.out.drew, HPP.out.drew⟩) (fun hCalm => ?_)
            refine grow_take 0 (some 163) ?_ rfl rfl (by kernel_rfl) (fun _ _ _ h => h) (by kernel_rfl) hCalm ?_ ?_
            rotate_left
            · intro wS hS; (try dsimp only at hS); go_simp <;> with_reducible rfl
            try simp only [Act.put, List.setIfInBounds_toArray, List.set_cons_zero, List.set_cons_succ]
            refine grow_take 1 (some 164) ?_ rfl rfl (by kernel_rfl) (fun _ _ _ h => h) (by kernel_rfl) hCalm ?_ ?_
            rotate_left
            · intro wS hS; (try dsimp only at hS); go_simp <;> with_reducible rfl
            try simp only [Act.put, List.setIfInBounds_toArray, List.set_cons_zero, List.set_cons_succ]
            refine grow_take 2 (some 165) ?_ rfl rfl (by kernel_rfl) (fun _ _ _ h => h) (by kernel_rfl) hCalm ?_ ?_
            rotate_left
            · intro wS hS; (try dsimp only at hS); go_simp <;> with_reducible rfl
            try simp only [Act.put, List.setIfInBounds_toArray, List.set_cons_zero, List.set_cons_succ]
            refine grow_take 3 (some 166) ?_ rfl rfl (by kernel_rfl) (fun _ _ _ h => h) (by kernel_rfl) hCalm ?_ ?_
            rotate_left
            · intro wS hS; (try dsimp only at hS); go_simp <;> with_reducible rfl
            try simp only [Act.put, List.setIfInBounds_toArray, List.set_cons_zero, List.set_cons_succ]
            refine grow_take 4 (some 167) ?_ rfl rfl (by kernel_rfl) (fun _ _ _ h => h) (by kernel_rfl) hCalm ?_ ?_
            rotate_left
            · intro wS hS; (try dsimp only at hS); go_simp <;> with_reducible rfl
            try simp only [Act.put, List.setIfInBounds_toArray, List.set_cons_zero, List.set_cons_succ]
            refine grow_take 5 (some 168) ?_ rfl rfl (by kernel_rfl) (fun _ _ _ h => h) (by kernel_rfl) hCalm ?_ ?_
            rotate_left
            · intro wS hS; (try dsimp only at hS); go_simp <;> with_reducible rfl
            try simp only [Act.put, List.setIfInBounds_toArray, List.set_cons_zero, List.set_cons_succ]
            refine grow_take 6 (some 169) ?_ rfl rfl (by kernel_rfl) (fun _ _ _ h => h) (by kernel_rfl) hCalm ?_ ?_
            rotate_left
            · intro wS hS; (try dsimp only at hS); go_simp <;> with_reducible rfl
            try simp only [Act.put, List.setIfInBounds_toArray, List.set_cons_zero, List.set_cons_succ]
            refine grow_take 7 (some 170) ?_ rfl rfl (by kernel_rfl) (fun _ _ _ h => h) (by kernel_rfl) hCalm ?_ ?_
            rotate_left
            · intro wS hS; (try dsimp only at hS); go_simp <;> with_reducible rfl
            try simp only [Act.put, List.setIfInBounds_toArray, List.set_cons_zero, List.set_cons_succ]
            refine grow_take 8 (some 171) ?_ rfl rfl (by kernel_rfl) (fun _ _ _ h => h) (by kernel_rfl) hCalm ?_ ?_
            rotate_left
            · intro wS hS; (try dsimp only at hS); go_simp <;> with_reducible rfl
            try simp only [Act.put, List.setIfInBounds_toArray, List.set_cons_zero, List.set_cons_succ]
            refine grow_take 9 (some 172) ?_ rfl rfl (by kernel_rfl) (fun _ _ _ h => h) (by kernel_rfl) hCalm ?_ ?_
            rotate_left
            · intro wS hS; (try dsimp only at hS); go_simp <;> with_reducible rfl
            try simp only [Act.put, List.setIfInBounds_toArray, List.set_cons_zero, List.set_cons_succ]
            refine grow_take 10 (some 173) ?_ rfl rfl (by kernel_rfl) (fun _ _ _ h => h) (by kernel_rfl) hCalm ?_ ?_
            rotate_left
            · intro wS hS; (try dsimp only at hS); go_simp <;> with_reducible rfl
            try simp only [Act.put, List.setIfInBounds_toArray, List.set_cons_zero, List.set_cons_succ]
            refine grow_take 11 (some 174) ?_ rfl rfl (by kernel_rfl) (fun _ _ _ h => h) (by kernel_rfl) hCalm ?_ ?_
            rotate_left
            · intro wS hS; (try dsimp only at hS); go_simp <;> with_reducible rfl
            try simp only [Act.put, List.setIfInBounds_toArray, List.set_cons_zero, List.set_cons_succ]
            refine grow_take 12 (some 175) ?_ rfl rfl (by kernel_rfl) (fun _ _ _ h => h) (by kernel_rfl) hCalm ?_ ?_
            rotate_left
            · intro wS hS; (try dsimp only at hS); go_simp <;> with_reducible rfl
            try simp only [Act.put, List.setIfInBounds_toArray, List.set_cons_zero, List.set_cons_succ]
            refine grow_take 13 (some 176) ?_ rfl rfl (by kernel_rfl) (fun _ _ _ h => h) (by kernel_rfl) hCalm ?_ ?_
            rotate_left
            · intro wS hS; (try dsimp only at hS); go_simp <;> with_reducible rfl
            try simp only [Act.put, List.setIfInBounds_toArray, List.set_cons_zero, List.set_cons_succ]
            refine grow_take 14 (some 177) ?_ rfl rfl (by kernel_rfl) (fun _ _ _ h => h) (by kernel_rfl) hCalm ?_ ?_
            rotate_left
            · intro wS hS; (try dsimp only at hS); go_simp <;> with_reducible rfl
            try simp only [Act.put, List.setIfInBounds_toArray, List.set_cons_zero, List.set_cons_succ]
            refine grow_each [15] (by kernel_rfl) (by decide) ?_
            refine grow_cons 15 rfl (by kernel_rfl) (fun wA hA K hK => ?_) grow_nil
            obtain ⟨pQQ, hpQQ⟩ : ∃ b, b = wA.heap.size := ⟨_, rfl⟩
            have le_pQQ : uz.heap.size ≤ pQQ := by rw [hpQQ]; exact hA.1.size
            have lt_PP_pQQ : pPP < pQQ := by rw [hpQQ]; exact hA.2.lt
            have hnew : Blk (wA.alloc (.cells #[.int .i64 0, .int .i64 0, .int .i64 0, .int .i64 0] 24)) pQQ 24 #[.int .i64 0, .int .i64 0, .int .i64 0, .int .i64 0] := by rw [hpQQ]; exact Blk.new wA _ _
            go_simp
            rw [← hpQQ]
            refine hK.out _ _ (fun w' => Below uz.heap.size uz w' ∧ Blk w' pPP 24 #[.int .i64 p.x, .int .i64 p.y, .int .i64 p.t, .int .i64 p.p] ∧ Blk w' pQQ 24 #[.int .i64 0, .int .i64 0, .int .i64 0, .int .i64 0]) ⟨fun w2 h2 => ⟨((S_7.out.below h2.1 S_7.out.lt).cell (i := 2) rfl), (iz_nat (IC_7.out.below h2.1 (Nat.le_refl _)) HU1.out), (HDq.out w2 h2.1).1, (HDq.out w2 h2.1).2.1, (HDq.out w2 h2.1).2.2.1, (HDq.out w2 h2.1).2.2.2⟩, fun w2 w3 h2 hb2 => ⟨h2.1.trans (hb2.mono h2.1.size), h2.2.1.below hb2 h2.2.1.lt, h2.2.2.below hb2 h2.2.2.lt⟩⟩ ⟨hA.1.alloc hA.1.size _, hA.2.alloc _, hnew⟩ ?_
            clear hnew hpQQ hK K hA wA hCalm
            have hCalm : Calm (fun w' => w'.cell? ⟨v1.heap.size, 2, none⟩ = some (.slice (some ⟨b, o, none⟩) ds.length k1) ∧ w'.cell? ⟨bc, oc + a3, none⟩ = some (.int .i64 (u1 : Nat)) ∧ w'.cell? ⟨b, o + u1 * 4, none⟩ = some (.int .i64 q.x) ∧ w'.cell? ⟨b, o + u1 * 4 + 1, none⟩ = some (.int .i64 q.y) ∧ w'.cell? ⟨b, o + u1 * 4 + 2, none⟩ = some (.int .i64 q.t) ∧ w'.cell? ⟨b, o + u1 * 4 + 3, none⟩ = some (.int .i64 q.p)) (fun w' => Below uz.heap.size uz w' ∧ Blk w' pPP 24 #[.int .i64 p.x, .int .i64 p.y, .int .i64 p.t, .int .i64 p.p] ∧ Blk w' pQQ 24 #[.int .i64 0, .int .i64 0, .int .i64 0, .int .i64 0]) := ⟨fun w2 h2 => ⟨((S_7.out.below h2.1 S_7.out.lt).cell (i := 2) rfl), (iz_nat (IC_7.out.below h2.1 (Nat.le_refl _)) HU1.out), (HDq.out w2 h2.1).1, (HDq.out w2 h2.1).2.1, (HDq.out w2 h2.1).2.2.1, (HDq.out w2 h2.1).2.2.2⟩, fun w2 w3 h2 hb2 => ⟨h2.1.trans (hb2.mono h2.1.size), h2.2.1.below hb2 h2.2.1.lt, h2.2.2.below hb2 h2.2.2.lt⟩⟩
            try simp only [Act.put, List.setIfInBounds_toArray, List.set_cons_zero, List.set_cons_succ]
            refine grow_each [16] (by kernel_rfl) (by decide) ?_
            refine grow_cons 16 rfl (by kernel_rfl) (fun wA hA K hK => ?_) grow_nil
            have z0 := hA.2.2.cell (i := 0) (v := .int .i64 0) rfl; have f0 := hA.2.2.frozen 0
            have z1 := hA.2.2.cell (i := 1) (v := .int .i64 0) rfl; have f1 := hA.2.2.frozen 1
            have z2 := hA.2.2.cell (i := 2) (v := .int .i64 0) rfl; have f2 := hA.2.2.frozen 2
            have z3 := hA.2.2.cell (i := 3) (v := .int .i64 0) rfl; have f3 := hA.2.2.frozen 3
            go_simp
            refine hK.out _ _ (fun w' => Below uz.heap.size uz w' ∧ Blk w' pPP 24 #[.int .i64 p.x, .int .i64 p.y, .int .i64 p.t, .int .i64 p.p] ∧ Blk w' pQQ 24 #[.int .i64 q.x, .int .i64 q.y, .int .i64 q.t, .int .i64 q.p]) ⟨fun w2 h2 => ⟨((S_7.out.below h2.1 S_7.out.lt).cell (i := 2) rfl), (iz_nat (IC_7.out.below h2.1 (Nat.le_refl _)) HU1.out), (HDq.out w2 h2.1).1, (HDq.out w2 h2.1).2.1, (HDq.out w2 h2.1).2.2.1, (HDq.out w2 h2.1).2.2.2⟩, fun w2 w3 h2 hb2 => ⟨h2.1.trans (hb2.mono h2.1.size), h2.2.1.below hb2 h2.2.1.lt, h2.2.2.below hb2 h2.2.2.lt⟩⟩ ⟨((((hA.1.setCell (p := ⟨pQQ, 0, none⟩) (by show uz.heap.size ≤ pQQ; omega) _).setCell (p := ⟨pQQ, 1, none⟩) (by show uz.heap.size ≤ pQQ; omega) _).setCell (p := ⟨pQQ, 2, none⟩) (by show uz.heap.size ≤ pQQ; omega) _).setCell (p := ⟨pQQ, 3, none⟩) (by show uz.heap.size ≤ pQQ; omega) _), ((((hA.2.1.far (p := ⟨pQQ, 0, none⟩) (by show pPP ≠ pQQ; omega) _).far (p := ⟨pQQ, 1, none⟩) (by show pPP ≠ pQQ; omega) _).far (p := ⟨pQQ, 2, none⟩) (by show pPP ≠ pQQ; omega) _).far (p := ⟨pQQ, 3, none⟩) (by show pPP ≠ pQQ; omega) _), ((((hA.2.2.set 0 _).set 1 _).set 2 _).set 3 _)⟩ ?_
            clear z0 f0 z1 f1 z2 f2 z3 f3 hK K hA wA hCalm
            have hCalm : Calm (fun w' => w'.cell? ⟨v1.heap.size, 2, none⟩ = some (.slice (some ⟨b, o, none⟩) ds.length k1) ∧ w'.cell? ⟨bc, oc + a3, none⟩ = some (.int .i64 (u1 : Nat)) ∧ w'.cell? ⟨b, o + u1 * 4, none⟩ = some (.int .i64 q.x) ∧ w'.cell? ⟨b, o + u1 * 4 + 1, none⟩ = some (.int .i64 q.y) ∧ w'.cell? ⟨b, o + u1 * 4 + 2, none⟩ = some (.int .i64 q.t) ∧ w'.cell? ⟨b, o + u1 * 4 + 3, none⟩ = some (.int .i64 q.p)) (fun w' => Below uz.heap.size uz w' ∧ Blk w' pPP 24 #[.int .i64 p.x, .int .i64 p.y, .int .i64 p.t, .int .i64 p.p] ∧ Blk w' pQQ 24 #[.int .i64 q.x, .int .i64 q.y, .int .i64 q.t, .int .i64 q.p]) := ⟨fun w2 h2 => ⟨((S_7.out.below h2.1 S_7.out.lt).cell (i := 2) rfl), (iz_nat (IC_7.out.below h2.1 (Nat.le_refl _)) HU1.out), (HDq.out w2 h2.1).1, (HDq.out w2 h2.1).2.1, (HDq.out w2 h2.1).2.2.1, (HDq.out w2 h2.1).2.2.2⟩, fun w2 w3 h2 hb2 => ⟨h2.1.trans (hb2.mono h2.1.size), h2.2.1.below hb2 h2.2.1.lt, h2.2.2.below hb2 h2.2.2.lt⟩⟩
            try simp only [Act.put]
            refine grow_done (by kernel_rfl) (fun wA hA => ?_) _
            rename World => wd
            have HU4 := Lib.hid hA.1; have HP2 := Lib.hid hA.2.1; have HQ2 := Lib.hid hA.2.2; clear hA hCalm HU3 HPP
            clear hmx hmx2 hmn hmn2 hlu w2_ s1 s2 s3 s4 e3 q1 q2 q3 q4 m2
            have q1 : (0 : Int) ≤ (i : Int) := by omega
            have q2 : (i : Int) < (ds.length : Int) := by have := HLT.out; omega
            have yS := (S_7.out.below HU4.out S_7.out.lt).cell (i := 2) (v := .slice (some ⟨b, o, none⟩) ds.length k1) rfl
            obtain ⟨k0, k1_, k2_, k3⟩ := HDd.out wd HU4.out
            go_upto_region 23 with fail
            clear yS k0 k1_ k2_ k3 q1 q2
            have P3 : Hid (Blk (wd.alloc (.cells #[.int .i64 d.x, .int .i64 d.y, .int .i64 d.t, .int .i64 d.p] 24)) pPP 24 #[.int .i64 p.x, .int .i64 p.y, .int .i64 p.t, .int .i64 p.p]) := Lib.hid (HP2.out.alloc _); have Q3 : Hid (Blk (wd.alloc (.cells #[.int .i64 d.x, .int .i64 d.y, .int .i64 d.t, .int .i64 d.p] 24)) pQQ 24 #[.int .i64 q.x, .int .i64 q.y, .int .i64 q.t, .int .i64 q.p]) := Lib.hid (HQ2.out.alloc _); have D3 : Hid (Blk (wd.alloc (.cells #[.int .i64 d.x, .int .i64 d.y, .int .i64 d.t, .int .i64 d.p] 24)) wd.heap.size 24 #[.int .i64 d.x, .int .i64 d.y, .int .i64 d.t, .int .i64 d.p]) := Lib.hid (Blk.new _ _ _)
            have U5 : Hid (Below uz.heap.size uz (wd.alloc (.cells #[.int .i64 d.x, .int .i64 d.y, .int .i64 d.t, .int .i64 d.p] 24))) := Lib.hid (HU4.out.alloc HU4.out.size _)
            have cp0 := P3.out.cell (i := 0) (v := .int .i64 p.x) rfl; have cp1 := P3.out.cell (i := 1) (v := .int .i64 p.y) rfl
            have cq0 := Q3.out.cell (i := 0) (v := .int .i64 q.x) rfl; have cq1 := Q3.out.cell (i := 1) (v := .int .i64 q.y) rfl
            have cd0 := D3.out.cell (i := 0) (v := .int .i64 d.x) rfl; have cd1 := D3.out.cell (i := 1) (v := .int .i64 d.y) rfl
            have hcol := nearP_zero (HBT.out i HORD.out.1 HORD.out.2.1 p q d HGp.out HGq.out HGd.out)
            have op := (HVD.out.mem p (List.mem_of_getElem? HGp.out)).1
            have oq := (HVD.out.mem q (List.mem_of_getElem? HGq.out)).1
            have od := (HVD.out.mem d (List.mem_of_getElem? HGd.out)).1
            have hbd := And.intro op (And.intro oq od)
            have x1 : IntKind.i64.wrap (q.x - p.x) = q.x - p.x := IntWalk.i64_in _ (by omega)
            have x2 : IntKind.i64.wrap (d.y - p.y) = d.y - p.y := IntWalk.i64_in _ (by omega)
            have x3 : IntKind.i64.wrap (q.y - p.y) = q.y - p.y := IntWalk.i64_in _ (by omega)
            have x4 : IntKind.i64.wrap (d.x - p.x) = d.x - p.x := IntWalk.i64_in _ (by omega)
            have b1 := pr_bd (a := q.x - p.x) (b := d.y - p.y) (by omega) (by omega); have b2 := pr_bd (a := q.y - p.y) (b := d.x - p.x) (by omega) (by omega)
            have x5 : IntKind.i64.wrap ((q.x - p.x) * (d.y - p.y)) = (q.x - p.x) * (d.y - p.y) := IntWalk.i64_in _ (by omega)
            have x6 : IntKind.i64.wrap ((q.y - p.y) * (d.x - p.x)) = (q.y - p.y) * (d.x - p.x) := IntWalk.i64_in _ (by omega)
            obtain ⟨g1, hg1⟩ : ∃ g, (q.x - p.x) * (d.y - p.y) = g := ⟨_, rfl⟩; obtain ⟨g2, hg2⟩ : ∃ g, (q.y - p.y) * (d.x - p.x) = g := ⟨_, rfl⟩
            rw [hg1, hg2] at hcol; rw [hg1] at x5; rw [hg2] at x6; subst hcol
            clear op oq od hbd b1 b2
            go_wp2_with fail
            go_roundw
            case rel => exact ⟨a2, i + 1, rfl, by go_num, by have := HLT.out; omega, .inr ⟨i, rfl, HAT.out⟩, U5.out⟩
            case measure => have := HLT.out; simp [intOf]; omega
end Go.Proofs.Ytamogfcedkjmcaa
