/- The contracts of arrowCost and costOf. Conditions: features that read, the tables. -/
import Derived.Test.YtmjcjaecaigahaaDoorLT
namespace Go.Proofs.YtmjcjaecaigahaaDoor
open Go.RowKit Go.Lib

def Tb8 (w : World) : Prop := Cp8 w ∧ Rg8 w ∧ Lt8 w
theorem Tb8.below {w w' : World} {B : Nat} (h : Tb8 w) (hb : Below B w w') (hB : w.heap.size ≤ B) : Tb8 w' := ⟨h.1.below hb hB, h.2.1.below hb hB, h.2.2.below hb hB⟩
def ac8 (F G : F8) : Int := lc8 F + 6 * max ((G.ps.length : Int) - 3) (-((G.ps.length : Int) - 3)) + if nr8 (F.ps.getD (F.ps.length - 1) ⟨0, 0⟩) (G.ps.getD (G.ps.length / 2) ⟨0, 0⟩) then 0 else 40
def F0 : F8 := ⟨[], [], false⟩
def cost8 (Fs : List F8) (k : Int) : Int :=
  if mo8 k Fs.length = false then 500 else if k = 1 then lc8 (Fs.getD 0 F0) else if k = 2 then bc8 (Fs.getD 0 F0) else if k = 3 then ac8 (Fs.getD 0 F0) (Fs.getD 1 F0) else if k = 4 then (lo8 Fs 8).2 else 45 * Fs.length
theorem lc8_bd {F : F8} (h : F.ps.length ≤ 200) : 0 ≤ lc8 F ∧ lc8 F ≤ 1300 := by
  unfold lc8; split <;> split <;> omega
set_option maxRecDepth 100000 in
set_option maxHeartbeats 8000000 in
theorem arrowcost8_any (F G : F8) (u v : Value) (B : Nat) (w : World) (hF : Fz8 w B u F) (hG : Fz8 w B v G) (hf : Fok8 F) (hg : Fok8 G) : Yl 74 #[u, v] w (.int .i64 (ac8 F G)) := by
  have HLC := Lib.hid (fun W (hb : Below w.heap.size w W) => linecost8_any F u B W (hF.below hb (Nat.le_refl _)) hf.2.1.2)
  have hlb := lc8_bd hf.2.1.2
  obtain ⟨p, q, rfl, _, hp, _⟩ := hF
  obtain ⟨p2, q2, rfl, _, hp2, _⟩ := hG
  have hv : ac8 F G = lc8 F + 6 * max ((G.ps.length : Int) - 3) (-((G.ps.length : Int) - 3)) + if nr8 (F.ps.getD (F.ps.length - 1) ⟨0, 0⟩) (G.ps.getD (G.ps.length / 2) ⟨0, 0⟩) then 0 else 40 := rfl
  have hn := hf.2.1; have hn2 := hg.2.1
  have ha1 : F.ps.length - 1 < F.ps.length := by omega
  have ha2 : G.ps.length / 2 < G.ps.length := by omega
  have hg1 : F.ps.getD (F.ps.length - 1) ⟨0, 0⟩ = F.ps[F.ps.length - 1] := by rw [List.getD_eq_getElem?_getD, List.getElem?_eq_getElem ha1, Option.getD_some]
  have hg2 : G.ps.getD (G.ps.length / 2) ⟨0, 0⟩ = G.ps[G.ps.length / 2] := by rw [List.getD_eq_getElem?_getD, List.getElem?_eq_getElem ha2, Option.getD_some]
  rw [hg1, hg2] at hv
  have HN := Lib.hid (fun W => near8_any F.ps[F.ps.length - 1] G.ps[G.ps.length / 2] W (hf.2.2 _ (List.getElem_mem ha1)) (hg.2.2 _ (List.getElem_mem ha2)))
  have HC : Hid (∀ W, Below w.heap.size w W → (W.cell? ⟨p, (F.ps.length - 1) * 2, none⟩ = some (.int .i64 F.ps[F.ps.length - 1].x) ∧ W.cell? ⟨p, (F.ps.length - 1) * 2 + 1, none⟩ = some (.int .i64 F.ps[F.ps.length - 1].y)) ∧ (W.cell? ⟨p2, G.ps.length / 2 * 2, none⟩ = some (.int .i64 G.ps[G.ps.length / 2].x) ∧ W.cell? ⟨p2, G.ps.length / 2 * 2 + 1, none⟩ = some (.int .i64 G.ps[G.ps.length / 2].y))) := Lib.hid (fun W hW => by
    have h1 := Pz.cell (PB8.reads hp) hW (Nat.le_refl _) ha1; have h2 := Pz.cell (PB8.reads hp2) hW (Nat.le_refl _) ha2
    simp only [Nat.zero_add] at h1 h2
    exact ⟨h1, h2⟩)
  obtain ⟨a, haa⟩ : ∃ a, a = F.ps[F.ps.length - 1] := ⟨_, rfl⟩
  obtain ⟨b, hbb⟩ : ∃ b, b = G.ps[G.ps.length / 2] := ⟨_, rfl⟩
  rw [← haa, ← hbb] at hv HN
  simp only [← haa, ← hbb] at HC
  generalize nr8 a b = nr at *
  clear hg1 hg2 haa hbb
  obtain ⟨l1, hl1⟩ : ∃ l, l = F.ps.length - 1 := ⟨_, rfl⟩
  obtain ⟨l2, hl2⟩ : ∃ l, l = G.ps.length / 2 := ⟨_, rfl⟩
  rw [← hl1, ← hl2] at HC
  clear ha1 ha2 hp hp2 hf hg
  generalize F.ps.length = n at *
  generalize G.ps.length = n2 at *
  generalize F.ss.length = m at *
  generalize G.ss.length = m2 at *
  generalize F.cl = cl at *
  generalize G.cl = cl2 at *
  obtain ⟨lc, hlc⟩ : ∃ c, c = lc8 F := ⟨_, rfl⟩
  rw [← hlc] at HLC hv hlb
  obtain ⟨x, hx⟩ : ∃ x, x = (n2 : Int) - 3 := ⟨_, rfl⟩
  rw [← hx] at hv
  have HSZ := Lib.hid (fun W => size8_any x W (by unfold Sm8; omega))
  obtain ⟨y, hy⟩ : ∃ y, y = max x (-x) := ⟨_, rfl⟩
  rw [← hy] at hv
  rw [← hy] at HSZ
  obtain ⟨z, hz⟩ : ∃ z, z = lc + 6 * y := ⟨_, rfl⟩
  have e1 : IntKind.i64.wrap ((n2 : Int) - 3) = x := by rw [hx]; exact IntWalk.i64_in _ (by omega)
  have e2 : IntKind.i64.wrap (6 * y) = 6 * y := IntWalk.i64_in _ (by omega)
  have e3 : IntKind.i64.wrap (lc + 6 * y) = z := by rw [hz]; exact IntWalk.i64_in _ (by omega)
  have e4 : IntKind.i64.wrap (z + 40) = z + 40 := IntWalk.i64_in _ (by omega)
  have e5 : IntKind.i64.wrap ((n : Int) - 1) = (l1 : Int) := by rw [show (l1 : Int) = (n : Int) - 1 by omega]; exact IntWalk.i64_in _ (by omega)
  have e6 : (n2 : Int).tdiv 2 = (l2 : Int) := by rw [hl2]; rfl
  have e7 : IntKind.i64.wrap (l2 : Int) = (l2 : Int) := IntWalk.i64_in _ (by omega)
  have t1 : (0 : Int) ≤ (l1 : Int) := by omega
  have t2 : (l1 : Int) < (n : Int) := by omega
  have t3 : (0 : Int) ≤ (l2 : Int) := by omega
  have t4 : (l2 : Int) < (n2 : Int) := by omega
  rw [← hz] at hv
  rw [hv]
  clear hv hn hn2 hl1 hl2 hx hy hz hlb hlc
  have S_0 : Hid (Blk ((w.alloc (.cells #[.slice (some ⟨p, 0, none⟩) n n, .slice (some ⟨q, 0, none⟩) m m, .bool cl] 48)).alloc (.cells #[.slice (some ⟨p2, 0, none⟩) n2 n2, .slice (some ⟨q2, 0, none⟩) m2 m2, .bool cl2] 48)) w.heap.size 48 #[.slice (some ⟨p, 0, none⟩) n n, .slice (some ⟨q, 0, none⟩) m m, .bool cl]) := allocs_blk [(#[.slice (some ⟨p, 0, none⟩) n n, .slice (some ⟨q, 0, none⟩) m m, .bool cl], 48), (#[.slice (some ⟨p2, 0, none⟩) n2 n2, .slice (some ⟨q2, 0, none⟩) m2 m2, .bool cl2], 48)] w 0 _ rfl
  have T_0 : Hid (Blk ((w.alloc (.cells #[.slice (some ⟨p, 0, none⟩) n n, .slice (some ⟨q, 0, none⟩) m m, .bool cl] 48)).alloc (.cells #[.slice (some ⟨p2, 0, none⟩) n2 n2, .slice (some ⟨q2, 0, none⟩) m2 m2, .bool cl2] 48)) (w.heap.size + 1) 48 #[.slice (some ⟨p2, 0, none⟩) n2 n2, .slice (some ⟨q2, 0, none⟩) m2 m2, .bool cl2]) := allocs_blk [(#[.slice (some ⟨p, 0, none⟩) n n, .slice (some ⟨q, 0, none⟩) m m, .bool cl], 48), (#[.slice (some ⟨p2, 0, none⟩) n2 n2, .slice (some ⟨q2, 0, none⟩) m2 m2, .bool cl2], 48)] w 1 _ rfl
  have HB_0 : Hid (Below w.heap.size w ((w.alloc (.cells #[.slice (some ⟨p, 0, none⟩) n n, .slice (some ⟨q, 0, none⟩) m m, .bool cl] 48)).alloc (.cells #[.slice (some ⟨p2, 0, none⟩) n2 n2, .slice (some ⟨q2, 0, none⟩) m2 m2, .bool cl2] 48))) := allocs_below [(#[.slice (some ⟨p, 0, none⟩) n n, .slice (some ⟨q, 0, none⟩) m m, .bool cl], 48), (#[.slice (some ⟨p2, 0, none⟩) n2 n2, .slice (some ⟨q2, 0, none⟩) m2 m2, .bool cl2], 48)] w (Below.refl w.heap.size w) (Nat.le_refl _)
  go_enter Tryd.func74, Tryd.ntmps74
  go_wp2_with fail
  refine wp_region_grow (S := (fun w' => w'.cell? ⟨w.heap.size, 0, none⟩ = some (.slice (some ⟨p, 0, none⟩) n n) ∧ w'.cell? ⟨w.heap.size, 1, none⟩ = some (.slice (some ⟨q, 0, none⟩) m m) ∧ w'.cell? ⟨w.heap.size, 2, none⟩ = some (.bool cl) ∧ w'.cell? ⟨(w.heap.size + 1), 0, none⟩ = some (.slice (some ⟨p2, 0, none⟩) n2 n2) ∧ w'.cell? ⟨(w.heap.size + 1), 1, none⟩ = some (.slice (some ⟨q2, 0, none⟩) m2 m2) ∧ w'.cell? ⟨(w.heap.size + 1), 2, none⟩ = some (.bool cl2) ∧ Below w.heap.size w w')) ((fun w' => Below ((w.alloc (.cells #[.slice (some ⟨p, 0, none⟩) n n, .slice (some ⟨q, 0, none⟩) m m, .bool cl] 48)).alloc (.cells #[.slice (some ⟨p2, 0, none⟩) n2 n2, .slice (some ⟨q2, 0, none⟩) m2 m2, .bool cl2] 48)).heap.size ((w.alloc (.cells #[.slice (some ⟨p, 0, none⟩) n n, .slice (some ⟨q, 0, none⟩) m m, .bool cl] 48)).alloc (.cells #[.slice (some ⟨p2, 0, none⟩) n2 n2, .slice (some ⟨q2, 0, none⟩) m2 m2, .bool cl2] 48)) w')) (by kernel_rfl) (⟨fun w2 h2 => ⟨(S_0.out.below h2 S_0.out.lt).cell (i := 0) (v := .slice (some ⟨p, 0, none⟩) n n) rfl, (S_0.out.below h2 S_0.out.lt).cell (i := 1) (v := .slice (some ⟨q, 0, none⟩) m m) rfl, (S_0.out.below h2 S_0.out.lt).cell (i := 2) (v := .bool cl) rfl, (T_0.out.below h2 T_0.out.lt).cell (i := 0) (v := .slice (some ⟨p2, 0, none⟩) n2 n2) rfl, (T_0.out.below h2 T_0.out.lt).cell (i := 1) (v := .slice (some ⟨q2, 0, none⟩) m2 m2) rfl, (T_0.out.below h2 T_0.out.lt).cell (i := 2) (v := .bool cl2) rfl, HB_0.out.trans (h2.mono HB_0.out.size)⟩, fun w2 w3 h2 hb2 => h2.trans (hb2.mono h2.size)⟩) ((Below.refl ((w.alloc (.cells #[.slice (some ⟨p, 0, none⟩) n n, .slice (some ⟨q, 0, none⟩) m m, .bool cl] 48)).alloc (.cells #[.slice (some ⟨p2, 0, none⟩) n2 n2, .slice (some ⟨q2, 0, none⟩) m2 m2, .bool cl2] 48)).heap.size ((w.alloc (.cells #[.slice (some ⟨p, 0, none⟩) n n, .slice (some ⟨q, 0, none⟩) m m, .bool cl] 48)).alloc (.cells #[.slice (some ⟨p2, 0, none⟩) n2 n2, .slice (some ⟨q2, 0, none⟩) m2 m2, .bool cl2] 48))).drew) (fun hCalm => ?_)
  refine grow_take 0 (some 6) ?_ rfl rfl (by kernel_rfl) (fun _ _ _ h => h) (by kernel_rfl) hCalm ?_ ?_
  rotate_left
  · intro wS hS; (try dsimp only at hS); go_simp <;> with_reducible rfl
  try simp only [Act.put, List.setIfInBounds_toArray, List.set_cons_zero, List.set_cons_succ]
  refine grow_take 2 (some 8) ?_ rfl rfl (by kernel_rfl) (fun _ _ _ h => h) (by kernel_rfl) hCalm ?_ ?_
  rotate_left
  · intro wS hS; (try dsimp only at hS); go_simp <;> with_reducible rfl
  try simp only [Act.put, List.setIfInBounds_toArray, List.set_cons_zero, List.set_cons_succ]
  refine grow_take 3 (some 9) ?_ rfl rfl (by kernel_rfl) (fun _ _ _ h => h) (by kernel_rfl) hCalm ?_ ?_
  rotate_left
  · intro wS hS; (try dsimp only at hS); go_simp <;> with_reducible rfl
  try simp only [Act.put, List.setIfInBounds_toArray, List.set_cons_zero, List.set_cons_succ]
  refine grow_take 4 (some 10) ?_ rfl rfl (by kernel_rfl) (fun _ _ _ h => h) (by kernel_rfl) hCalm ?_ ?_
  rotate_left
  · intro wS hS; (try dsimp only at hS); go_simp <;> with_reducible rfl
  try simp only [Act.put, List.setIfInBounds_toArray, List.set_cons_zero, List.set_cons_succ]
  refine grow_take 5 (some 11) (.int .i64 x) rfl rfl (by kernel_rfl) (fun _ _ _ h => h) (by kernel_rfl) hCalm ?_ ?_
  · intro wS hS; (try dsimp only at hS); go_simp
    all_goals (rw [e1])
  try simp only [Act.put, List.setIfInBounds_toArray, List.set_cons_zero, List.set_cons_succ]
  refine grow_call 1 (some 7) (.int .i64 lc) 72 [.tmp 6] #[48] rfl rfl (by kernel_rfl) (fun _ _ _ h => h) (by kernel_rfl) hCalm rfl (enters_of Tryd.func72 (by kernel_rfl) rfl) (fun wz hz => HLC.out wz hz.2.2.2.2.2.2) (by kernel_rfl) ?_
  try simp only [Act.put, List.setIfInBounds_toArray, List.set_cons_zero, List.set_cons_succ]
  refine grow_call 6 (some 12) (.int .i64 y) 95 [.tmp 11] #[3] rfl rfl (by kernel_rfl) (fun _ _ _ h => h) (by kernel_rfl) hCalm rfl (enters_of Tryd.func95 (by kernel_rfl) rfl) (fun wz _ => HSZ.out wz) (by kernel_rfl) ?_
  try simp only [Act.put, List.setIfInBounds_toArray, List.set_cons_zero, List.set_cons_succ]
  refine grow_take 7 (some 13) (.int .i64 (6 * y)) rfl rfl (by kernel_rfl) (fun _ _ _ h => h) (by kernel_rfl) hCalm ?_ ?_
  · intro wS hS; (try dsimp only at hS); go_simp
    all_goals (rw [e2])
  try simp only [Act.put, List.setIfInBounds_toArray, List.set_cons_zero, List.set_cons_succ]
  refine grow_take 8 (some 14) (.int .i64 z) rfl rfl (by kernel_rfl) (fun _ _ _ h => h) (by kernel_rfl) hCalm ?_ ?_
  · intro wS hS; (try dsimp only at hS); go_simp
    all_goals (rw [e3])
  try simp only [Act.put, List.setIfInBounds_toArray, List.set_cons_zero, List.set_cons_succ]
  refine grow_take 9 (some 5) ?_ rfl rfl (by kernel_rfl) (fun _ _ _ h => h) (by kernel_rfl) hCalm ?_ ?_
  rotate_left
  · intro wS hS; (try dsimp only at hS); go_simp <;> with_reducible rfl
  try simp only [Act.put, List.setIfInBounds_toArray, List.set_cons_zero, List.set_cons_succ]
  refine grow_done (by kernel_rfl) (fun wA hA => ?_) _
  obtain ⟨v0, hv0⟩ : ∃ x, x = wA := ⟨_, rfl⟩
  rw [← hv0] at hA ⊢
  clear hv0
  have hb := hA; clear hA hCalm
  have S_1 : Hid (Blk v0 w.heap.size 48 #[.slice (some ⟨p, 0, none⟩) n n, .slice (some ⟨q, 0, none⟩) m m, .bool cl]) := Lib.hid (S_0.out.below hb S_0.out.lt)
  have T_1 : Hid (Blk v0 (w.heap.size + 1) 48 #[.slice (some ⟨p2, 0, none⟩) n2 n2, .slice (some ⟨q2, 0, none⟩) m2 m2, .bool cl2]) := Lib.hid (T_0.out.below hb T_0.out.lt)
  have HB_1 : Hid (Below w.heap.size w v0) := Lib.hid (HB_0.out.trans (hb.mono HB_0.out.size))
  clear hb S_0 T_0 HB_0
  go_wp2_with fail
  cases nr
  case false =>
    refine wp_region_grow (S := (fun w' => w'.cell? ⟨w.heap.size, 0, none⟩ = some (.slice (some ⟨p, 0, none⟩) n n) ∧ w'.cell? ⟨w.heap.size, 1, none⟩ = some (.slice (some ⟨q, 0, none⟩) m m) ∧ w'.cell? ⟨w.heap.size, 2, none⟩ = some (.bool cl) ∧ w'.cell? ⟨(w.heap.size + 1), 0, none⟩ = some (.slice (some ⟨p2, 0, none⟩) n2 n2) ∧ w'.cell? ⟨(w.heap.size + 1), 1, none⟩ = some (.slice (some ⟨q2, 0, none⟩) m2 m2) ∧ w'.cell? ⟨(w.heap.size + 1), 2, none⟩ = some (.bool cl2) ∧ w'.cell? ⟨p, l1 * 2, none⟩ = some (.int .i64 a.x) ∧ w'.cell? ⟨p, l1 * 2 + 1, none⟩ = some (.int .i64 a.y) ∧ w'.cell? ⟨p2, l2 * 2, none⟩ = some (.int .i64 b.x) ∧ w'.cell? ⟨p2, l2 * 2 + 1, none⟩ = some (.int .i64 b.y))) ((fun w' => Below v0.heap.size v0 w')) (by kernel_rfl) (⟨fun w2 h2 => ⟨(S_1.out.below h2 S_1.out.lt).cell (i := 0) (v := .slice (some ⟨p, 0, none⟩) n n) rfl, (S_1.out.below h2 S_1.out.lt).cell (i := 1) (v := .slice (some ⟨q, 0, none⟩) m m) rfl, (S_1.out.below h2 S_1.out.lt).cell (i := 2) (v := .bool cl) rfl, (T_1.out.below h2 T_1.out.lt).cell (i := 0) (v := .slice (some ⟨p2, 0, none⟩) n2 n2) rfl, (T_1.out.below h2 T_1.out.lt).cell (i := 1) (v := .slice (some ⟨q2, 0, none⟩) m2 m2) rfl, (T_1.out.below h2 T_1.out.lt).cell (i := 2) (v := .bool cl2) rfl, (HC.out _ (HB_1.out.trans (h2.mono HB_1.out.size))).1.1, (HC.out _ (HB_1.out.trans (h2.mono HB_1.out.size))).1.2, (HC.out _ (HB_1.out.trans (h2.mono HB_1.out.size))).2.1, (HC.out _ (HB_1.out.trans (h2.mono HB_1.out.size))).2.2⟩, fun w2 w3 h2 hb2 => h2.trans (hb2.mono h2.size)⟩) ((Below.refl v0.heap.size v0).drew) (fun hCalm => ?_)
    refine grow_take 0 (some 15) ?_ rfl rfl (by kernel_rfl) (fun _ _ _ h => h) (by kernel_rfl) hCalm ?_ ?_
    rotate_left
    · intro wS hS; (try dsimp only at hS); go_simp <;> with_reducible rfl
    try simp only [Act.put, List.setIfInBounds_toArray, List.set_cons_zero, List.set_cons_succ]
    refine grow_take 1 (some 16) ?_ rfl rfl (by kernel_rfl) (fun _ _ _ h => h) (by kernel_rfl) hCalm ?_ ?_
    rotate_left
    · intro wS hS; (try dsimp only at hS); go_simp <;> with_reducible rfl
    try simp only [Act.put, List.setIfInBounds_toArray, List.set_cons_zero, List.set_cons_succ]
    refine grow_take 2 (some 17) ?_ rfl rfl (by kernel_rfl) (fun _ _ _ h => h) (by kernel_rfl) hCalm ?_ ?_
    rotate_left
    · intro wS hS; (try dsimp only at hS); go_simp <;> with_reducible rfl
    try simp only [Act.put, List.setIfInBounds_toArray, List.set_cons_zero, List.set_cons_succ]
    refine grow_take 3 (some 18) ?_ rfl rfl (by kernel_rfl) (fun _ _ _ h => h) (by kernel_rfl) hCalm ?_ ?_
    rotate_left
    · intro wS hS; (try dsimp only at hS); go_simp <;> with_reducible rfl
    try simp only [Act.put, List.setIfInBounds_toArray, List.set_cons_zero, List.set_cons_succ]
    refine grow_take 4 (some 19) ?_ rfl rfl (by kernel_rfl) (fun _ _ _ h => h) (by kernel_rfl) hCalm ?_ ?_
    rotate_left
    · intro wS hS; (try dsimp only at hS); go_simp <;> with_reducible rfl
    try simp only [Act.put, List.setIfInBounds_toArray, List.set_cons_zero, List.set_cons_succ]
    refine grow_take 5 (some 20) (.int .i64 (l1 : Int)) rfl rfl (by kernel_rfl) (fun _ _ _ h => h) (by kernel_rfl) hCalm ?_ ?_
    · intro wS hS; (try dsimp only at hS); go_simp
      all_goals (rw [e5])
    try simp only [Act.put, List.setIfInBounds_toArray, List.set_cons_zero, List.set_cons_succ]
    refine grow_take 6 (some 21) ?_ rfl rfl (by kernel_rfl) (fun _ _ _ h => h) (by kernel_rfl) hCalm ?_ ?_
    rotate_left
    · intro wS hS; (try dsimp only at hS); go_simp <;> with_reducible rfl
    try simp only [Act.put, List.setIfInBounds_toArray, List.set_cons_zero, List.set_cons_succ]
    refine grow_take 7 (some 22) ?_ rfl rfl (by kernel_rfl) (fun _ _ _ h => h) (by kernel_rfl) hCalm ?_ ?_
    rotate_left
    · intro wS hS; (try dsimp only at hS); go_simp <;> with_reducible rfl
    try simp only [Act.put, List.setIfInBounds_toArray, List.set_cons_zero, List.set_cons_succ]
    refine grow_take 8 (some 23) ?_ rfl rfl (by kernel_rfl) (fun _ _ _ h => h) (by kernel_rfl) hCalm ?_ ?_
    rotate_left
    · intro wS hS; (try dsimp only at hS); go_simp <;> with_reducible rfl
    try simp only [Act.put, List.setIfInBounds_toArray, List.set_cons_zero, List.set_cons_succ]
    refine grow_take 9 (some 24) ?_ rfl rfl (by kernel_rfl) (fun _ _ _ h => h) (by kernel_rfl) hCalm ?_ ?_
    rotate_left
    · intro wS hS; (try dsimp only at hS); go_simp <;> with_reducible rfl
    try simp only [Act.put, List.setIfInBounds_toArray, List.set_cons_zero, List.set_cons_succ]
    refine grow_take 10 (some 25) ?_ rfl rfl (by kernel_rfl) (fun _ _ _ h => h) (by kernel_rfl) hCalm ?_ ?_
    rotate_left
    · intro wS hS; (try dsimp only at hS); go_simp <;> with_reducible rfl
    try simp only [Act.put, List.setIfInBounds_toArray, List.set_cons_zero, List.set_cons_succ]
    refine grow_take 11 (some 26) ?_ rfl rfl (by kernel_rfl) (fun _ _ _ h => h) (by kernel_rfl) hCalm ?_ ?_
    rotate_left
    · intro wS hS; (try dsimp only at hS); go_simp <;> with_reducible rfl
    try simp only [Act.put, List.setIfInBounds_toArray, List.set_cons_zero, List.set_cons_succ]
    refine grow_take 12 (some 27) ?_ rfl rfl (by kernel_rfl) (fun _ _ _ h => h) (by kernel_rfl) hCalm ?_ ?_
    rotate_left
    · intro wS hS; (try dsimp only at hS); go_simp <;> with_reducible rfl
    try simp only [Act.put, List.setIfInBounds_toArray, List.set_cons_zero, List.set_cons_succ]
    refine grow_take 13 (some 28) (.int .i64 (l2 : Int)) rfl rfl (by kernel_rfl) (fun _ _ _ h => h) (by kernel_rfl) hCalm ?_ ?_
    · intro wS hS; (try dsimp only at hS); go_simp
      all_goals (first | (rw [e6, e7]) | (rw [e6]) | (rw [e7]))
    try simp only [Act.put, List.setIfInBounds_toArray, List.set_cons_zero, List.set_cons_succ]
    refine grow_take 14 (some 29) ?_ rfl rfl (by kernel_rfl) (fun _ _ _ h => h) (by kernel_rfl) hCalm ?_ ?_
    rotate_left
    · intro wS hS; (try dsimp only at hS); go_simp <;> with_reducible rfl
    try simp only [Act.put, List.setIfInBounds_toArray, List.set_cons_zero, List.set_cons_succ]
    refine grow_take 15 (some 30) ?_ rfl rfl (by kernel_rfl) (fun _ _ _ h => h) (by kernel_rfl) hCalm ?_ ?_
    rotate_left
    · intro wS hS; (try dsimp only at hS); go_simp <;> with_reducible rfl
    try simp only [Act.put, List.setIfInBounds_toArray, List.set_cons_zero, List.set_cons_succ]
    refine grow_call 16 (some 31) (.bool false) 88 [.tmp 22, .tmp 30] #[28, 28] rfl rfl (by kernel_rfl) (fun _ _ _ h => h) (by kernel_rfl) hCalm rfl (enters_of Tryd.func88 (by kernel_rfl) rfl) (fun wz _ => HN.out wz) (by kernel_rfl) ?_
    try simp only [Act.put, List.setIfInBounds_toArray, List.set_cons_zero, List.set_cons_succ]
    refine grow_take 17 (some 32) ?_ rfl rfl (by kernel_rfl) (fun _ _ _ h => h) (by kernel_rfl) hCalm ?_ ?_
    rotate_left
    · intro wS hS; (try dsimp only at hS); go_simp <;> with_reducible rfl
    try simp only [Act.put, List.setIfInBounds_toArray, List.set_cons_zero, List.set_cons_succ]
    refine grow_done (by kernel_rfl) (fun wA hA => ?_) _
    have hb9 := Lib.hid (HB_1.out.trans (hA.mono HB_1.out.size))
    clear hA hCalm
    go_wp2_with fail
    go_ret
    exact ⟨ret_int (by simp), hb9.out⟩
  case true =>
    refine wp_region_grow (S := (fun w' => w'.cell? ⟨w.heap.size, 0, none⟩ = some (.slice (some ⟨p, 0, none⟩) n n) ∧ w'.cell? ⟨w.heap.size, 1, none⟩ = some (.slice (some ⟨q, 0, none⟩) m m) ∧ w'.cell? ⟨w.heap.size, 2, none⟩ = some (.bool cl) ∧ w'.cell? ⟨(w.heap.size + 1), 0, none⟩ = some (.slice (some ⟨p2, 0, none⟩) n2 n2) ∧ w'.cell? ⟨(w.heap.size + 1), 1, none⟩ = some (.slice (some ⟨q2, 0, none⟩) m2 m2) ∧ w'.cell? ⟨(w.heap.size + 1), 2, none⟩ = some (.bool cl2) ∧ w'.cell? ⟨p, l1 * 2, none⟩ = some (.int .i64 a.x) ∧ w'.cell? ⟨p, l1 * 2 + 1, none⟩ = some (.int .i64 a.y) ∧ w'.cell? ⟨p2, l2 * 2, none⟩ = some (.int .i64 b.x) ∧ w'.cell? ⟨p2, l2 * 2 + 1, none⟩ = some (.int .i64 b.y))) ((fun w' => Below v0.heap.size v0 w')) (by kernel_rfl) (⟨fun w2 h2 => ⟨(S_1.out.below h2 S_1.out.lt).cell (i := 0) (v := .slice (some ⟨p, 0, none⟩) n n) rfl, (S_1.out.below h2 S_1.out.lt).cell (i := 1) (v := .slice (some ⟨q, 0, none⟩) m m) rfl, (S_1.out.below h2 S_1.out.lt).cell (i := 2) (v := .bool cl) rfl, (T_1.out.below h2 T_1.out.lt).cell (i := 0) (v := .slice (some ⟨p2, 0, none⟩) n2 n2) rfl, (T_1.out.below h2 T_1.out.lt).cell (i := 1) (v := .slice (some ⟨q2, 0, none⟩) m2 m2) rfl, (T_1.out.below h2 T_1.out.lt).cell (i := 2) (v := .bool cl2) rfl, (HC.out _ (HB_1.out.trans (h2.mono HB_1.out.size))).1.1, (HC.out _ (HB_1.out.trans (h2.mono HB_1.out.size))).1.2, (HC.out _ (HB_1.out.trans (h2.mono HB_1.out.size))).2.1, (HC.out _ (HB_1.out.trans (h2.mono HB_1.out.size))).2.2⟩, fun w2 w3 h2 hb2 => h2.trans (hb2.mono h2.size)⟩) ((Below.refl v0.heap.size v0).drew) (fun hCalm => ?_)
    refine grow_take 0 (some 15) ?_ rfl rfl (by kernel_rfl) (fun _ _ _ h => h) (by kernel_rfl) hCalm ?_ ?_
    rotate_left
    · intro wS hS; (try dsimp only at hS); go_simp <;> with_reducible rfl
    try simp only [Act.put, List.setIfInBounds_toArray, List.set_cons_zero, List.set_cons_succ]
    refine grow_take 1 (some 16) ?_ rfl rfl (by kernel_rfl) (fun _ _ _ h => h) (by kernel_rfl) hCalm ?_ ?_
    rotate_left
    · intro wS hS; (try dsimp only at hS); go_simp <;> with_reducible rfl
    try simp only [Act.put, List.setIfInBounds_toArray, List.set_cons_zero, List.set_cons_succ]
    refine grow_take 2 (some 17) ?_ rfl rfl (by kernel_rfl) (fun _ _ _ h => h) (by kernel_rfl) hCalm ?_ ?_
    rotate_left
    · intro wS hS; (try dsimp only at hS); go_simp <;> with_reducible rfl
    try simp only [Act.put, List.setIfInBounds_toArray, List.set_cons_zero, List.set_cons_succ]
    refine grow_take 3 (some 18) ?_ rfl rfl (by kernel_rfl) (fun _ _ _ h => h) (by kernel_rfl) hCalm ?_ ?_
    rotate_left
    · intro wS hS; (try dsimp only at hS); go_simp <;> with_reducible rfl
    try simp only [Act.put, List.setIfInBounds_toArray, List.set_cons_zero, List.set_cons_succ]
    refine grow_take 4 (some 19) ?_ rfl rfl (by kernel_rfl) (fun _ _ _ h => h) (by kernel_rfl) hCalm ?_ ?_
    rotate_left
    · intro wS hS; (try dsimp only at hS); go_simp <;> with_reducible rfl
    try simp only [Act.put, List.setIfInBounds_toArray, List.set_cons_zero, List.set_cons_succ]
    refine grow_take 5 (some 20) (.int .i64 (l1 : Int)) rfl rfl (by kernel_rfl) (fun _ _ _ h => h) (by kernel_rfl) hCalm ?_ ?_
    · intro wS hS; (try dsimp only at hS); go_simp
      all_goals (rw [e5])
    try simp only [Act.put, List.setIfInBounds_toArray, List.set_cons_zero, List.set_cons_succ]
    refine grow_take 6 (some 21) ?_ rfl rfl (by kernel_rfl) (fun _ _ _ h => h) (by kernel_rfl) hCalm ?_ ?_
    rotate_left
    · intro wS hS; (try dsimp only at hS); go_simp <;> with_reducible rfl
    try simp only [Act.put, List.setIfInBounds_toArray, List.set_cons_zero, List.set_cons_succ]
    refine grow_take 7 (some 22) ?_ rfl rfl (by kernel_rfl) (fun _ _ _ h => h) (by kernel_rfl) hCalm ?_ ?_
    rotate_left
    · intro wS hS; (try dsimp only at hS); go_simp <;> with_reducible rfl
    try simp only [Act.put, List.setIfInBounds_toArray, List.set_cons_zero, List.set_cons_succ]
    refine grow_take 8 (some 23) ?_ rfl rfl (by kernel_rfl) (fun _ _ _ h => h) (by kernel_rfl) hCalm ?_ ?_
    rotate_left
    · intro wS hS; (try dsimp only at hS); go_simp <;> with_reducible rfl
    try simp only [Act.put, List.setIfInBounds_toArray, List.set_cons_zero, List.set_cons_succ]
    refine grow_take 9 (some 24) ?_ rfl rfl (by kernel_rfl) (fun _ _ _ h => h) (by kernel_rfl) hCalm ?_ ?_
    rotate_left
    · intro wS hS; (try dsimp only at hS); go_simp <;> with_reducible rfl
    try simp only [Act.put, List.setIfInBounds_toArray, List.set_cons_zero, List.set_cons_succ]
    refine grow_take 10 (some 25) ?_ rfl rfl (by kernel_rfl) (fun _ _ _ h => h) (by kernel_rfl) hCalm ?_ ?_
    rotate_left
    · intro wS hS; (try dsimp only at hS); go_simp <;> with_reducible rfl
    try simp only [Act.put, List.setIfInBounds_toArray, List.set_cons_zero, List.set_cons_succ]
    refine grow_take 11 (some 26) ?_ rfl rfl (by kernel_rfl) (fun _ _ _ h => h) (by kernel_rfl) hCalm ?_ ?_
    rotate_left
    · intro wS hS; (try dsimp only at hS); go_simp <;> with_reducible rfl
    try simp only [Act.put, List.setIfInBounds_toArray, List.set_cons_zero, List.set_cons_succ]
    refine grow_take 12 (some 27) ?_ rfl rfl (by kernel_rfl) (fun _ _ _ h => h) (by kernel_rfl) hCalm ?_ ?_
    rotate_left
    · intro wS hS; (try dsimp only at hS); go_simp <;> with_reducible rfl
    try simp only [Act.put, List.setIfInBounds_toArray, List.set_cons_zero, List.set_cons_succ]
    refine grow_take 13 (some 28) (.int .i64 (l2 : Int)) rfl rfl (by kernel_rfl) (fun _ _ _ h => h) (by kernel_rfl) hCalm ?_ ?_
    · intro wS hS; (try dsimp only at hS); go_simp
      all_goals (first | (rw [e6, e7]) | (rw [e6]) | (rw [e7]))
    try simp only [Act.put, List.setIfInBounds_toArray, List.set_cons_zero, List.set_cons_succ]
    refine grow_take 14 (some 29) ?_ rfl rfl (by kernel_rfl) (fun _ _ _ h => h) (by kernel_rfl) hCalm ?_ ?_
    rotate_left
    · intro wS hS; (try dsimp only at hS); go_simp <;> with_reducible rfl
    try simp only [Act.put, List.setIfInBounds_toArray, List.set_cons_zero, List.set_cons_succ]
    refine grow_take 15 (some 30) ?_ rfl rfl (by kernel_rfl) (fun _ _ _ h => h) (by kernel_rfl) hCalm ?_ ?_
    rotate_left
    · intro wS hS; (try dsimp only at hS); go_simp <;> with_reducible rfl
    try simp only [Act.put, List.setIfInBounds_toArray, List.set_cons_zero, List.set_cons_succ]
    refine grow_call 16 (some 31) (.bool true) 88 [.tmp 22, .tmp 30] #[28, 28] rfl rfl (by kernel_rfl) (fun _ _ _ h => h) (by kernel_rfl) hCalm rfl (enters_of Tryd.func88 (by kernel_rfl) rfl) (fun wz _ => HN.out wz) (by kernel_rfl) ?_
    try simp only [Act.put, List.setIfInBounds_toArray, List.set_cons_zero, List.set_cons_succ]
    refine grow_take 17 (some 32) ?_ rfl rfl (by kernel_rfl) (fun _ _ _ h => h) (by kernel_rfl) hCalm ?_ ?_
    rotate_left
    · intro wS hS; (try dsimp only at hS); go_simp <;> with_reducible rfl
    try simp only [Act.put, List.setIfInBounds_toArray, List.set_cons_zero, List.set_cons_succ]
    refine grow_done (by kernel_rfl) (fun wA hA => ?_) _
    have hb9 := Lib.hid (HB_1.out.trans (hA.mono HB_1.out.size))
    clear hA hCalm
    go_wp2_with fail
    go_ret
    exact ⟨ret_int (by simp), hb9.out⟩
theorem Gz8.at {w : World} {B gg : Nat} {Fs : List F8} (h : Gz8 w B gg Fs) {i : Nat} (hi : i < Fs.length) : ∃ a b c : Value, (∀ W, Below w.heap.size w W → W.cell? ⟨gg, i * 3, none⟩ = some a ∧ W.cell? ⟨gg, i * 3 + 1, none⟩ = some b ∧ W.cell? ⟨gg, i * 3 + 2, none⟩ = some c) ∧ ∀ W, Below w.heap.size w W → Fz8 W B (.agg #[a, b, c]) Fs[i] := by
  obtain ⟨_, f, h1, h2⟩ := h
  have h3 := fc8_at (f := f) hi
  exact ⟨_, _, _, fun W hb => ⟨(h1.below hb h1.lt).cell h3.1, (h1.below hb h1.lt).cell h3.2.1, (h1.below hb h1.lt).cell h3.2.2⟩, fun W hb => (h2 i hi).below hb (Nat.le_refl _)⟩
set_option maxRecDepth 100000 in
set_option maxHeartbeats 8000000 in
theorem costof8_1_1 (Fs : List F8) (gg B : Nat) (w : World) (hG : Gz8 w B gg Fs) (hok : ∀ F ∈ Fs, Fok8 F) (_hT : Tb8 w) (hn : Fs.length = 1) : Yl 44 #[.slice (some ⟨gg, 0, none⟩) 1 1, .int .i64 1] w (.int .i64 (cost8 Fs 1)) := by
  have hm : mo8 1 (1 : Int) = true := by decide
  have HM := Lib.hid (fun W => hm ▸ madeof8_any 1 1 W)
  have hv : cost8 Fs 1 = lc8 (Fs.getD 0 F0) := by unfold cost8; rw [hn]; first | rfl | (simp [hm]; done) | (rw [if_neg (by decide)]; rfl)
  obtain ⟨a, b, c, hc, hz⟩ := hG.at (i := 0) (by omega)
  have hg0 : Fs.getD 0 F0 = Fs[0]'(by omega) := by rw [List.getD_eq_getElem?_getD, List.getElem?_eq_getElem (by omega), Option.getD_some]
  have hok0 := hok (Fs[0]'(by omega)) (List.getElem_mem _)
  have HL := Lib.hid (fun W (hb : Below w.heap.size w W) => linecost8_any _ _ B W (hz W hb) hok0.2.1.2)
  rw [hv, hg0]
  simp only [Nat.zero_mul, Nat.zero_add] at hc
  have HC := Lib.hid hc
  generalize lc8 (Fs[0]'(by omega)) = co at *
  clear hG hok _hT hn hv hm hc hz hg0 hok0
  go_enter Tryd.func44, Tryd.ntmps44
  go_wp2_with fail
  refine (HM.out _).mono ?_
  rintro e v0 ⟨rfl, hb0⟩
  obtain ⟨y0, y1, y2⟩ := HC.out _ hb0
  go_wp2_with fail
  refine (HL.out _ hb0).mono ?_
  rintro e v1 ⟨rfl, hb1⟩
  clear y0 y1 y2
  go_wp2_with fail
  go_ret
  exact ⟨rfl, hb0.trans (hb1.mono hb0.size)⟩
set_option maxRecDepth 100000 in
set_option maxHeartbeats 8000000 in
theorem costof8_1_2 (Fs : List F8) (gg B : Nat) (w : World) (_hG : Gz8 w B gg Fs) (_hok : ∀ F ∈ Fs, Fok8 F) (_hT : Tb8 w) (hn : Fs.length = 2) : Yl 44 #[.slice (some ⟨gg, 0, none⟩) 2 2, .int .i64 1] w (.int .i64 (cost8 Fs 1)) := by
  have hm : mo8 1 (2 : Int) = false := by decide
  have HM := Lib.hid (fun W => hm ▸ madeof8_any 1 2 W)
  have hv : cost8 Fs 1 = 500 := by unfold cost8; rw [hn]; first | rfl | (simp [hm]; done) | (rw [if_neg (by decide)]; rfl)
  rw [hv]
  clear _hG _hok _hT hn hv hm
  go_enter Tryd.func44, Tryd.ntmps44
  go_wp2_with fail
  refine (HM.out _).mono ?_
  rintro e v0 ⟨rfl, hb0⟩
  go_wp2_with fail
  go_ret
  exact ⟨rfl, hb0⟩
set_option maxRecDepth 100000 in
set_option maxHeartbeats 8000000 in
theorem costof8_2_1 (Fs : List F8) (gg B : Nat) (w : World) (hG : Gz8 w B gg Fs) (hok : ∀ F ∈ Fs, Fok8 F) (hT : Tb8 w) (hn : Fs.length = 1) : Yl 44 #[.slice (some ⟨gg, 0, none⟩) 1 1, .int .i64 2] w (.int .i64 (cost8 Fs 2)) := by
  have hm : mo8 2 (1 : Int) = true := by decide
  have HM := Lib.hid (fun W => hm ▸ madeof8_any 2 1 W)
  have hv : cost8 Fs 2 = bc8 (Fs.getD 0 F0) := by unfold cost8; rw [hn]; first | rfl | (simp [hm]; done) | (rw [if_neg (by decide)]; rfl)
  obtain ⟨a, b, c, hc, hz⟩ := hG.at (i := 0) (by omega)
  have hg0 : Fs.getD 0 F0 = Fs[0]'(by omega) := by rw [List.getD_eq_getElem?_getD, List.getElem?_eq_getElem (by omega), Option.getD_some]
  have hok0 := hok (Fs[0]'(by omega)) (List.getElem_mem _)
  have HL := Lib.hid (fun W (hb : Below w.heap.size w W) => boxcost8_any _ _ B W (hz W hb) hok0.1 (hT.2.1.below hb (Nat.le_refl _)))
  rw [hv, hg0]
  simp only [Nat.zero_mul, Nat.zero_add] at hc
  have HC := Lib.hid hc
  generalize bc8 (Fs[0]'(by omega)) = co at *
  clear hG hok hT hn hv hm hc hz hg0 hok0
  go_enter Tryd.func44, Tryd.ntmps44
  go_wp2_with fail
  refine (HM.out _).mono ?_
  rintro e v0 ⟨rfl, hb0⟩
  obtain ⟨y0, y1, y2⟩ := HC.out _ hb0
  go_wp2_with fail
  refine (HL.out _ hb0).mono ?_
  rintro e v1 ⟨rfl, hb1⟩
  clear y0 y1 y2
  go_wp2_with fail
  go_ret
  exact ⟨rfl, hb0.trans (hb1.mono hb0.size)⟩
set_option maxRecDepth 100000 in
set_option maxHeartbeats 8000000 in
theorem costof8_2_2 (Fs : List F8) (gg B : Nat) (w : World) (_hG : Gz8 w B gg Fs) (_hok : ∀ F ∈ Fs, Fok8 F) (_hT : Tb8 w) (hn : Fs.length = 2) : Yl 44 #[.slice (some ⟨gg, 0, none⟩) 2 2, .int .i64 2] w (.int .i64 (cost8 Fs 2)) := by
  have hm : mo8 2 (2 : Int) = false := by decide
  have HM := Lib.hid (fun W => hm ▸ madeof8_any 2 2 W)
  have hv : cost8 Fs 2 = 500 := by unfold cost8; rw [hn]; first | rfl | (simp [hm]; done) | (rw [if_neg (by decide)]; rfl)
  rw [hv]
  clear _hG _hok _hT hn hv hm
  go_enter Tryd.func44, Tryd.ntmps44
  go_wp2_with fail
  refine (HM.out _).mono ?_
  rintro e v0 ⟨rfl, hb0⟩
  go_wp2_with fail
  go_ret
  exact ⟨rfl, hb0⟩
set_option maxRecDepth 100000 in
set_option maxHeartbeats 8000000 in
theorem costof8_3_1 (Fs : List F8) (gg B : Nat) (w : World) (_hG : Gz8 w B gg Fs) (_hok : ∀ F ∈ Fs, Fok8 F) (_hT : Tb8 w) (hn : Fs.length = 1) : Yl 44 #[.slice (some ⟨gg, 0, none⟩) 1 1, .int .i64 3] w (.int .i64 (cost8 Fs 3)) := by
  have hm : mo8 3 (1 : Int) = false := by decide
  have HM := Lib.hid (fun W => hm ▸ madeof8_any 3 1 W)
  have hv : cost8 Fs 3 = 500 := by unfold cost8; rw [hn]; first | rfl | (simp [hm]; done) | (rw [if_neg (by decide)]; rfl)
  rw [hv]
  clear _hG _hok _hT hn hv hm
  go_enter Tryd.func44, Tryd.ntmps44
  go_wp2_with fail
  refine (HM.out _).mono ?_
  rintro e v0 ⟨rfl, hb0⟩
  go_wp2_with fail
  go_ret
  exact ⟨rfl, hb0⟩
set_option maxRecDepth 100000 in
set_option maxHeartbeats 8000000 in
theorem costof8_3_2 (Fs : List F8) (gg B : Nat) (w : World) (hG : Gz8 w B gg Fs) (hok : ∀ F ∈ Fs, Fok8 F) (_hT : Tb8 w) (hn : Fs.length = 2) : Yl 44 #[.slice (some ⟨gg, 0, none⟩) 2 2, .int .i64 3] w (.int .i64 (cost8 Fs 3)) := by
  have hm : mo8 3 (2 : Int) = true := by decide
  have HM := Lib.hid (fun W => hm ▸ madeof8_any 3 2 W)
  have hv : cost8 Fs 3 = ac8 (Fs.getD 0 F0) (Fs.getD 1 F0) := by unfold cost8; rw [hn]; first | rfl | (simp [hm]; done) | (rw [if_neg (by decide)]; rfl)
  obtain ⟨a, b, c, hc, hz⟩ := hG.at (i := 0) (by omega)
  obtain ⟨a2, b2, c2, hc2, hz2⟩ := hG.at (i := 1) (by omega)
  have hg0 : Fs.getD 0 F0 = Fs[0]'(by omega) := by rw [List.getD_eq_getElem?_getD, List.getElem?_eq_getElem (by omega), Option.getD_some]
  have hg1 : Fs.getD 1 F0 = Fs[1]'(by omega) := by rw [List.getD_eq_getElem?_getD, List.getElem?_eq_getElem (by omega), Option.getD_some]
  have hok0 := hok (Fs[0]'(by omega)) (List.getElem_mem _)
  have hok1 := hok (Fs[1]'(by omega)) (List.getElem_mem _)
  have HL := Lib.hid (fun W (hb : Below w.heap.size w W) => arrowcost8_any _ _ _ _ B W (hz W hb) (hz2 W hb) hok0 hok1)
  rw [hv, hg0, hg1]
  simp only [Nat.zero_mul, Nat.zero_add, Nat.one_mul, Nat.reduceAdd] at hc hc2
  have HC := Lib.hid hc; have HC2 := Lib.hid hc2
  generalize ac8 (Fs[0]'(by omega)) (Fs[1]'(by omega)) = co at *
  clear hG hok _hT hn hv hm hc hz hg0 hok0 hc2 hz2 hg1 hok1
  go_enter Tryd.func44, Tryd.ntmps44
  go_wp2_with fail
  refine (HM.out _).mono ?_
  rintro e v0 ⟨rfl, hb0⟩
  go_wp2_with fail
  refine wp_region_grow (S := (fun w' => w'.cell? ⟨gg, 0, none⟩ = some a ∧ w'.cell? ⟨gg, 1, none⟩ = some b ∧ w'.cell? ⟨gg, 2, none⟩ = some c ∧ w'.cell? ⟨gg, 3, none⟩ = some a2 ∧ w'.cell? ⟨gg, 4, none⟩ = some b2 ∧ w'.cell? ⟨gg, 5, none⟩ = some c2 ∧ Below w.heap.size w w')) ((fun w' => Below v0.heap.size v0 w')) (by kernel_rfl) (⟨fun w2 h2 => ⟨(HC.out _ (hb0.trans (h2.mono hb0.size))).1, (HC.out _ (hb0.trans (h2.mono hb0.size))).2.1, (HC.out _ (hb0.trans (h2.mono hb0.size))).2.2, (HC2.out _ (hb0.trans (h2.mono hb0.size))).1, (HC2.out _ (hb0.trans (h2.mono hb0.size))).2.1, (HC2.out _ (hb0.trans (h2.mono hb0.size))).2.2, hb0.trans (h2.mono hb0.size)⟩, fun w2 w3 h2 hb2 => h2.trans (hb2.mono h2.size)⟩) ((Below.refl _ _).drew) (fun hCalm => ?_)
  refine grow_take 0 (some 27) ?_ rfl rfl (by kernel_rfl) (fun _ _ _ h => h) (by kernel_rfl) hCalm ?_ ?_
  rotate_left
  · intro wS hS; (try dsimp only at hS); go_simp <;> with_reducible rfl
  try simp only [Act.put, List.setIfInBounds_toArray, List.set_cons_zero, List.set_cons_succ]
  refine grow_take 1 (some 28) ?_ rfl rfl (by kernel_rfl) (fun _ _ _ h => h) (by kernel_rfl) hCalm ?_ ?_
  rotate_left
  · intro wS hS; (try dsimp only at hS); go_simp <;> with_reducible rfl
  try simp only [Act.put, List.setIfInBounds_toArray, List.set_cons_zero, List.set_cons_succ]
  refine grow_take 2 (some 29) ?_ rfl rfl (by kernel_rfl) (fun _ _ _ h => h) (by kernel_rfl) hCalm ?_ ?_
  rotate_left
  · intro wS hS; (try dsimp only at hS); go_simp <;> with_reducible rfl
  try simp only [Act.put, List.setIfInBounds_toArray, List.set_cons_zero, List.set_cons_succ]
  refine grow_take 3 (some 30) ?_ rfl rfl (by kernel_rfl) (fun _ _ _ h => h) (by kernel_rfl) hCalm ?_ ?_
  rotate_left
  · intro wS hS; (try dsimp only at hS); go_simp <;> with_reducible rfl
  try simp only [Act.put, List.setIfInBounds_toArray, List.set_cons_zero, List.set_cons_succ]
  refine grow_take 4 (some 31) ?_ rfl rfl (by kernel_rfl) (fun _ _ _ h => h) (by kernel_rfl) hCalm ?_ ?_
  rotate_left
  · intro wS hS; (try dsimp only at hS); go_simp <;> with_reducible rfl
  try simp only [Act.put, List.setIfInBounds_toArray, List.set_cons_zero, List.set_cons_succ]
  refine grow_take 5 (some 32) ?_ rfl rfl (by kernel_rfl) (fun _ _ _ h => h) (by kernel_rfl) hCalm ?_ ?_
  rotate_left
  · intro wS hS; (try dsimp only at hS); go_simp <;> with_reducible rfl
  try simp only [Act.put, List.setIfInBounds_toArray, List.set_cons_zero, List.set_cons_succ]
  refine grow_call 6 (some 33) (.int .i64 co) 74 [.tmp 29, .tmp 32] #[48, 48] rfl rfl (by kernel_rfl) (fun _ _ _ h => h) (by kernel_rfl) hCalm rfl (enters_of Tryd.func74 (by kernel_rfl) rfl) (fun wz hz => HL.out wz hz.2.2.2.2.2.2) (by kernel_rfl) ?_
  try simp only [Act.put, List.setIfInBounds_toArray, List.set_cons_zero, List.set_cons_succ]
  refine grow_take 7 (some 4) ?_ rfl rfl (by kernel_rfl) (fun _ _ _ h => h) (by kernel_rfl) hCalm ?_ ?_
  rotate_left
  · intro wS hS; (try dsimp only at hS); go_simp <;> with_reducible rfl
  try simp only [Act.put, List.setIfInBounds_toArray, List.set_cons_zero, List.set_cons_succ]
  refine grow_done (by kernel_rfl) (fun wA hA => ?_) _
  have hb9 := hb0.trans (hA.mono hb0.size)
  clear hA hCalm
  go_wp2_with fail
  go_ret
  exact ⟨rfl, hb9⟩
set_option maxRecDepth 100000 in
set_option maxHeartbeats 8000000 in
theorem costof8_4_1 (Fs : List F8) (gg B : Nat) (w : World) (hG : Gz8 w B gg Fs) (hok : ∀ F ∈ Fs, Fok8 F) (hT : Tb8 w) (hn : Fs.length = 1) : Yl 44 #[.slice (some ⟨gg, 0, none⟩) 1 1, .int .i64 4] w (.int .i64 (cost8 Fs 4)) := by
  have hm : mo8 4 (1 : Int) = true := by decide
  have HM := Lib.hid (fun W => hm ▸ madeof8_any 4 1 W)
  have hv : cost8 Fs 4 = (lo8 Fs 8).2 := by unfold cost8; rw [hn]; first | rfl | (simp [hm]; done) | (rw [if_neg (by decide)]; rfl)
  have HL := Lib.hid (fun W (hb : Below w.heap.size w W) => letterof8_any Fs gg B W (hG.below hb (Nat.le_refl _)) (by omega) (fun F hF => (hok F hF).1) (hT.2.2.below hb (Nat.le_refl _)))
  rw [hn] at HL
  rw [hv]
  generalize (lo8 Fs 8).1 = wd at *
  generalize (lo8 Fs 8).2 = co at *
  clear hG hok hT hn hv hm
  go_enter Tryd.func44, Tryd.ntmps44
  go_wp2_with fail
  refine (HM.out _).mono ?_
  rintro e v0 ⟨rfl, hb0⟩
  go_wp2_with fail
  refine (HL.out _ hb0).mono ?_
  rintro e v1 ⟨rfl, hb1⟩
  go_wp2_with fail
  go_ret
  exact ⟨rfl, hb0.trans (hb1.mono hb0.size)⟩
set_option maxRecDepth 100000 in
set_option maxHeartbeats 8000000 in
theorem costof8_4_2 (Fs : List F8) (gg B : Nat) (w : World) (hG : Gz8 w B gg Fs) (hok : ∀ F ∈ Fs, Fok8 F) (hT : Tb8 w) (hn : Fs.length = 2) : Yl 44 #[.slice (some ⟨gg, 0, none⟩) 2 2, .int .i64 4] w (.int .i64 (cost8 Fs 4)) := by
  have hm : mo8 4 (2 : Int) = true := by decide
  have HM := Lib.hid (fun W => hm ▸ madeof8_any 4 2 W)
  have hv : cost8 Fs 4 = (lo8 Fs 8).2 := by unfold cost8; rw [hn]; first | rfl | (simp [hm]; done) | (rw [if_neg (by decide)]; rfl)
  have HL := Lib.hid (fun W (hb : Below w.heap.size w W) => letterof8_any Fs gg B W (hG.below hb (Nat.le_refl _)) (by omega) (fun F hF => (hok F hF).1) (hT.2.2.below hb (Nat.le_refl _)))
  rw [hn] at HL
  rw [hv]
  generalize (lo8 Fs 8).1 = wd at *
  generalize (lo8 Fs 8).2 = co at *
  clear hG hok hT hn hv hm
  go_enter Tryd.func44, Tryd.ntmps44
  go_wp2_with fail
  refine (HM.out _).mono ?_
  rintro e v0 ⟨rfl, hb0⟩
  go_wp2_with fail
  refine (HL.out _ hb0).mono ?_
  rintro e v1 ⟨rfl, hb1⟩
  go_wp2_with fail
  go_ret
  exact ⟨rfl, hb0.trans (hb1.mono hb0.size)⟩
set_option maxRecDepth 100000 in
set_option maxHeartbeats 8000000 in
theorem costof8_5_1 (Fs : List F8) (gg B : Nat) (w : World) (_hG : Gz8 w B gg Fs) (_hok : ∀ F ∈ Fs, Fok8 F) (_hT : Tb8 w) (hn : Fs.length = 1) : Yl 44 #[.slice (some ⟨gg, 0, none⟩) 1 1, .int .i64 5] w (.int .i64 (cost8 Fs 5)) := by
  have hm : mo8 5 (1 : Int) = true := by decide
  have HM := Lib.hid (fun W => hm ▸ madeof8_any 5 1 W)
  have hv : cost8 Fs 5 = 45 := by unfold cost8; rw [hn]; first | rfl | (simp [hm]; done) | (rw [if_neg (by decide)]; rfl)
  rw [hv]
  have e1 : IntKind.i64.wrap (45 * 1) = 45 := IntWalk.i64_in _ (by omega)
  clear _hG _hok _hT hn hv hm
  go_enter Tryd.func44, Tryd.ntmps44
  go_wp2_with fail
  refine (HM.out _).mono ?_
  rintro e v0 ⟨rfl, hb0⟩
  go_wp2_with fail
  go_ret
  exact ⟨rfl, hb0⟩
set_option maxRecDepth 100000 in
set_option maxHeartbeats 8000000 in
theorem costof8_5_2 (Fs : List F8) (gg B : Nat) (w : World) (_hG : Gz8 w B gg Fs) (_hok : ∀ F ∈ Fs, Fok8 F) (_hT : Tb8 w) (hn : Fs.length = 2) : Yl 44 #[.slice (some ⟨gg, 0, none⟩) 2 2, .int .i64 5] w (.int .i64 (cost8 Fs 5)) := by
  have hm : mo8 5 (2 : Int) = true := by decide
  have HM := Lib.hid (fun W => hm ▸ madeof8_any 5 2 W)
  have hv : cost8 Fs 5 = 90 := by unfold cost8; rw [hn]; first | rfl | (simp [hm]; done) | (rw [if_neg (by decide)]; rfl)
  rw [hv]
  have e1 : IntKind.i64.wrap (45 * 2) = 90 := IntWalk.i64_in _ (by omega)
  clear _hG _hok _hT hn hv hm
  go_enter Tryd.func44, Tryd.ntmps44
  go_wp2_with fail
  refine (HM.out _).mono ?_
  rintro e v0 ⟨rfl, hb0⟩
  go_wp2_with fail
  go_ret
  exact ⟨rfl, hb0⟩
theorem costof8_any (Fs : List F8) (gg B : Nat) (w : World) (hG : Gz8 w B gg Fs) (hok : ∀ F ∈ Fs, Fok8 F) (hT : Tb8 w) (hn : Fs.length = 1 ∨ Fs.length = 2) (k : Int) (hk : 1 ≤ k ∧ k ≤ 5) : Yl 44 #[.slice (some ⟨gg, 0, none⟩) Fs.length Fs.length, .int .i64 k] w (.int .i64 (cost8 Fs k)) := by
  rcases hn with hn | hn <;> rcases (show k = 1 ∨ k = 2 ∨ k = 3 ∨ k = 4 ∨ k = 5 by omega) with rfl | rfl | rfl | rfl | rfl <;> (have h2 := hn; rw [hn])
  · exact costof8_1_1 Fs gg B w hG hok hT h2
  · exact costof8_2_1 Fs gg B w hG hok hT h2
  · exact costof8_3_1 Fs gg B w hG hok hT h2
  · exact costof8_4_1 Fs gg B w hG hok hT h2
  · exact costof8_5_1 Fs gg B w hG hok hT h2
  · exact costof8_1_2 Fs gg B w hG hok hT h2
  · exact costof8_2_2 Fs gg B w hG hok hT h2
  · exact costof8_3_2 Fs gg B w hG hok hT h2
  · exact costof8_4_2 Fs gg B w hG hok hT h2
  · exact costof8_5_2 Fs gg B w hG hok hT h2
end Go.Proofs.YtmjcjaecaigahaaDoor
