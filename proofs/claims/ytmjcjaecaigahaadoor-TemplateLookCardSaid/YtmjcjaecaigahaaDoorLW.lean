/- The contracts of Cost, Fits and Cheapest. Conditions: readable strokes that read, the tables. | The contracts of around, Shape and Letters. Conditions: readable strokes that read, the tables. -/
import Derived.Test.YtmjcjaecaigahaaDoorLU
import Derived.Test.YtmjcjaecaigahaaDoorLO
namespace Go.Proofs.YtmjcjaecaigahaaDoor
open Go.RowKit Go.Lib

noncomputable def fs8 (l : List K8) : List F8 := l.map fun s => look8 s.ds
theorem fs8_len (l : List K8) : (fs8 l).length = l.length := by simp [fs8]
/-- The least cost and its kind among the kinds up to k + 1. -/
def chp8 (Fs : List F8) : Nat → Int × Int
  | 0 => (1, cost8 Fs 1)
  | k + 1 => if cost8 Fs ((k : Int) + 2) < (chp8 Fs k).2 then ((k : Int) + 2, cost8 Fs ((k : Int) + 2)) else chp8 Fs k
set_option maxRecDepth 100000 in
set_option maxHeartbeats 8000000 in
theorem cost8_yes (l : List K8) (A : Option Addr) (c : Nat) (w : World) (hL : Lz8 w A l) (h : Rd8 l) (hT : Tb8 w) (k : Int) (hk : 1 ≤ k ∧ k ≤ 5) : Yl 13 #[.slice A l.length c, .int .i64 k] w (.tuple #[.int .i64 (cost8 (fs8 l) k), .int .i64 0]) := by
  have HR := Lib.hid (readable8_yes l A c w hL h)
  have HF := Lib.hid (fun W (hb : Below w.heap.size w W) => features8_yes l A c W (hL.below hb (Nat.le_refl _)) h (hT.1.below hb (Nat.le_refl _)))
  have HC := Lib.hid (fun gg B W (k : Int) (hb : Below w.heap.size w W) (hG : Gz8 W B gg (fs8 l)) (hok : ∀ F ∈ fs8 l, Fok8 F) (hk : 1 ≤ k ∧ k ≤ 5) => costof8_any (fs8 l) gg B W hG hok (hT.below hb (Nat.le_refl _)) (by rw [fs8_len]; exact h.1) k hk)
  simp only [fs8_len] at HC
  have HK := Lib.hid (fun W => isfrom8_yes k 1 5 W hk)
  have HC2 := Lib.hid (fun gg B W hb hG hok => HC.out gg B W k hb hG hok hk)
  clear hL h hT hk HC
  generalize cost8 (fs8 l) k = co at *
  go_enter Tryd.func13, Tryd.ntmps13
  go_wp2_with fail
  refine HR.out.mono ?_
  rintro e v0 ⟨rfl, hb0⟩
  go_wp2_with fail
  refine (HK.out _).mono ?_
  rintro e v1 ⟨rfl, hb1⟩
  have B1 := Lib.hid (hb0.trans (hb1.mono hb0.size)); clear hb0 hb1
  go_wp2_with fail
  refine (HF.out _ B1.out).mono ?_
  rintro e v2 ⟨⟨gg, rfl, hG, hok⟩, hb2⟩
  have B2 := Lib.hid (B1.out.trans (hb2.mono B1.out.size))
  have HCC := Lib.hid (HC2.out gg _ v2 B2.out hG hok)
  clear hb2 hG hok
  go_wp2_with fail
  refine HCC.out.mono ?_
  rintro e v3 ⟨rfl, hb3⟩
  go_wp2_with fail
  exact bodyPost_ret (v := .tuple #[.int .i64 co, .int .i64 0]) (by simp [results, Tryd.results13, go_sem]) rfl ⟨rfl, B2.out.trans (hb3.mono B2.out.size)⟩
set_option maxRecDepth 100000 in
set_option maxHeartbeats 8000000 in
theorem cost8_none (A : Option Addr) (c : Nat) (k : Int) (w : World) : Yl 13 #[.slice A 0 c, .int .i64 k] w (.tuple #[.int .i64 0, .int .i64 80]) := by
  have HR := Lib.hid (readable8_none w A c)
  have hundef := un_none
  go_enter Tryd.func13, Tryd.ntmps13
  go_wp2_with fail
  refine HR.out.mono ?_
  rintro e v0 ⟨rfl, hb0⟩
  go_wp2_with fail
  exact bodyPost_ret (v := .tuple #[.int .i64 0, .int .i64 80]) (by simp [results, Tryd.results13, go_sem]) rfl ⟨rfl, hb0⟩
set_option maxRecDepth 100000 in
set_option maxHeartbeats 8000000 in
theorem fits8_yes (l : List K8) (A : Option Addr) (c : Nat) (w : World) (hL : Lz8 w A l) (h : Rd8 l) (hT : Tb8 w) (k : Int) (hk : 1 ≤ k ∧ k ≤ 5) : Yl 17 #[.slice A l.length c, .int .i64 k] w (.bool (decide (cost8 (fs8 l) k ≤ 20))) := by
  have HC := Lib.hid (cost8_yes l A c w hL h hT k hk)
  clear hL h hT hk
  generalize cost8 (fs8 l) k = co at *
  go_enter Tryd.func17, Tryd.ntmps17
  go_wp2_with fail
  refine HC.out.mono ?_
  rintro e v0 ⟨rfl, hb0⟩
  go_wp2_with fail
  go_ret
  exact ⟨rfl, hb0⟩
set_option maxRecDepth 100000 in
set_option maxHeartbeats 8000000 in
theorem cheapest8_yes (l : List K8) (A : Option Addr) (c : Nat) (w : World) (hL : Lz8 w A l) (h : Rd8 l) (hT : Tb8 w) : Yl 19 #[.slice A l.length c] w (.tuple #[.int .i64 (chp8 (fs8 l) 4).1, .int .i64 (chp8 (fs8 l) 4).2, .int .i64 0]) := by
  have HR := Lib.hid (readable8_yes l A c w hL h)
  have HF := Lib.hid (fun W (hb : Below w.heap.size w W) => features8_yes l A c W (hL.below hb (Nat.le_refl _)) h (hT.1.below hb (Nat.le_refl _)))
  have HC := Lib.hid (fun gg B W (k : Int) (hb : Below w.heap.size w W) (hG : Gz8 W B gg (fs8 l)) (hok : ∀ F ∈ fs8 l, Fok8 F) (hk : 1 ≤ k ∧ k ≤ 5) => costof8_any (fs8 l) gg B W hG hok (hT.below hb (Nat.le_refl _)) (by rw [fs8_len]; exact h.1) k hk)
  simp only [fs8_len] at HC
  obtain ⟨Fs, hFs⟩ : ∃ Fs, Fs = fs8 l := ⟨_, rfl⟩
  rw [← hFs] at HC ⊢
  have HFS := Lib.hid hFs
  have HSZ : Hid (1 ≤ l.length ∧ l.length ≤ 2) := Lib.hid (by have := h.1; omega)
  clear hL h hT hFs
  go_enter Tryd.func19, Tryd.ntmps19
  go_wp2_with fail
  refine HR.out.mono ?_
  rintro e v0 ⟨rfl, hb0⟩
  have B0 := Lib.hid hb0; clear hb0
  go_wp2_with fail
  refine (HF.out _ B0.out).mono ?_
  rintro e v1 ⟨⟨gg, rfl, hG, hok⟩, hb1⟩
  have B1 := Lib.hid (B0.out.trans (hb1.mono B0.out.size))
  have HCC : Hid (∀ W (k : Int), Below v1.heap.size v1 W → 1 ≤ k ∧ k ≤ 5 → Yl 44 #[.slice (some ⟨gg, 0, none⟩) l.length l.length, .int .i64 k] W (.int .i64 (cost8 Fs k))) := Lib.hid (fun W k hb hk => HC.out gg _ W k (B1.out.trans (hb.mono B1.out.size)) (by rw [HFS.out]; exact hG.below hb (Nat.le_refl _)) (by rw [HFS.out]; exact hok) hk)
  have h1 := HCC.out v1 1 (Below.refl _ _) (by omega)
  have hc0 : cost8 Fs 1 = (chp8 Fs 0).2 := rfl
  have hc1 : (1 : Int) = (chp8 Fs 0).1 := rfl
  rw [hc0] at h1
  have H1 := Lib.hid h1
  obtain ⟨m0, hm0⟩ : ∃ m, m = (chp8 Fs 0).2 := ⟨_, rfl⟩
  rw [← hm0] at H1
  have HM0 := Lib.hid hm0
  clear hb1 hG hok h1 hc0 hc1 hm0
  go_wp2_with fail
  refine H1.out.mono ?_
  rintro e v2 ⟨rfl, hb2⟩
  go_wp2_with fail
  go_loopw [6, 7, 8] (fun bb mm kk wr => ∃ k : Nat, kk = .int .i64 ((k : Int) + 2) ∧ k ≤ 4 ∧ bb = .int .i64 (chp8 Fs k).1 ∧ mm = .int .i64 (chp8 Fs k).2 ∧ Below v1.heap.size v1 wr) (fun _ _ kk _ => 6 - (intOf kk).toNat)
  case atStart => exact ⟨0, rfl, by omega, rfl, by rw [HM0.out], hb2⟩
  case round =>
    clear hb2
    obtain ⟨k, rfl, hk, rfl, rfl, hB⟩ := hrel
    rename World => wr
    have HB := Lib.hid hB; clear hB
    obtain ⟨k2, hk2⟩ : ∃ k2, k2 = (k : Int) + 2 := ⟨_, rfl⟩
    have hst : chp8 Fs (k + 1) = if cost8 Fs ((k : Int) + 2) < (chp8 Fs k).2 then ((k : Int) + 2, cost8 Fs ((k : Int) + 2)) else chp8 Fs k := rfl
    rw [← hk2] at hst ⊢
    by_cases h4 : k < 4
    case neg =>
      obtain rfl : k = 4 := by omega
      have q1 : ¬ k2 ≤ 5 := by omega
      have HE := Lib.hid (B1.out.trans (HB.out.mono B1.out.size))
      clear hk h4 hk2 hst
      go_wp2_with fail
      exact bodyPost_ret (v := .tuple #[.int .i64 (chp8 Fs 4).1, .int .i64 (chp8 Fs 4).2, .int .i64 0]) (by simp [results, Tryd.results19, go_sem]) rfl ⟨rfl, HE.out⟩
    case pos =>
      have q1 : k2 ≤ 5 := by omega
      have HCK := Lib.hid (HCC.out wr k2 HB.out (by omega))
      obtain ⟨co, hco⟩ : ∃ co, co = cost8 Fs k2 := ⟨_, rfl⟩
      rw [← hco] at HCK hst
      obtain ⟨sv, hsv⟩ : ∃ sv, sv = chp8 Fs k := ⟨_, rfl⟩
      rw [← hsv] at hst ⊢
      obtain ⟨s1, s2⟩ := sv
      simp only at hst ⊢
      have e1 : IntKind.i64.wrap (k2 + 1) = k2 + 1 := IntWalk.i64_in _ (by omega)
      have HST := Lib.hid hst; have HK2 := Lib.hid hk2; have H4 := Lib.hid h4
      have HK3 : Hid (k2 + 1 = ((k + 1 : Nat) : Int) + 2) := Lib.hid (by omega)
      clear hst hco hsv hk2 hk h4
      go_wp2_with fail
      refine HCK.out.mono ?_
      rintro e v3 ⟨rfl, hb3⟩
      have HB3 := Lib.hid (HB.out.trans (hb3.mono HB.out.size)); clear hb3
      by_cases h1 : co < s2
      case pos =>
        go_wp2_with fail
        go_roundw
        case rel => exact ⟨k + 1, by rw [← HK3.out], by have := H4.out; omega, by rw [HST.out, if_pos h1], by rw [HST.out, if_pos h1], HB3.out⟩
        case measure => have := HK2.out; have := H4.out; simp [intOf]; omega
      case neg =>
        go_wp2_with fail
        go_roundw
        case rel => exact ⟨k + 1, by rw [← HK3.out], by have := H4.out; omega, by rw [HST.out, if_neg (Int.not_lt.mpr h1)], by rw [HST.out, if_neg (Int.not_lt.mpr h1)], HB3.out⟩
        case measure => have := HK2.out; have := H4.out; simp [intOf]; omega
end Go.Proofs.YtmjcjaecaigahaaDoor
namespace Go.Proofs.YtmjcjaecaigahaaDoor
open Go.RowKit Go.Lib

/-- The box of dots. -/
noncomputable def bx8 (ds : List Dt) : R7 := by
  classical exact if h : ∃ r : R7, IsBox ds r.x r.y r.w r.h then h.choose else ⟨0, 0, 0, 0⟩
theorem bx8_eq {ds : List Dt} {x y ww hh : Int} (h : IsBox ds x y ww hh) : bx8 ds = ⟨x, y, ww, hh⟩ := by
  have hx : ∃ r : R7, IsBox ds r.x r.y r.w r.h := ⟨⟨x, y, ww, hh⟩, h⟩
  unfold bx8
  rw [dif_pos hx]
  obtain ⟨h1, h2, h3, h4⟩ := hx.choose_spec.unique h
  cases hc : hx.choose
  rw [hc] at h1 h2 h3 h4
  simp only at h1 h2 h3 h4
  rw [h1, h2, h3, h4]
theorem least8 {α : Type} (f : α → Int) : ∀ l : List α, l ≠ [] → ∃ m, (∃ d ∈ l, f d = m) ∧ ∀ d ∈ l, m ≤ f d
  | [], h => absurd rfl h
  | [a], _ => ⟨f a, ⟨a, by simp, rfl⟩, fun d hd => by simp at hd; subst hd; omega⟩
  | a :: b :: r, _ => by
    obtain ⟨m, ⟨d, hd, he⟩, hm⟩ := least8 f (b :: r) (by simp)
    by_cases h : f a ≤ m
    · exact ⟨f a, ⟨a, by simp, rfl⟩, fun x hx => by
        rcases List.mem_cons.1 hx with rfl | hx
        · omega
        · have := hm x hx; omega⟩
    · exact ⟨m, ⟨d, List.mem_cons_of_mem _ hd, he⟩, fun x hx => by
        rcases List.mem_cons.1 hx with rfl | hx
        · omega
        · exact hm x hx⟩
theorem isbox8 {P N : Int} {ds : List Dt} (hv : Vd P N ds) : IsBox ds (bx8 ds).x (bx8 ds).y (bx8 ds).w (bx8 ds).h := by
  have hne : ds ≠ [] := fun h => by have := hv.2.2.1; rw [h] at this; simp at this
  obtain ⟨lx, ⟨d1, h1, e1⟩, m1⟩ := least8 Dt.x ds hne
  obtain ⟨ly, ⟨d2, h2, e2⟩, m2⟩ := least8 Dt.y ds hne
  obtain ⟨gx, ⟨d3, h3, e3⟩, m3⟩ := least8 (fun d => -d.x) ds hne
  obtain ⟨gy, ⟨d4, h4, e4⟩, m4⟩ := least8 (fun d => -d.y) ds hne
  have hb : IsBox ds lx ly (-gx - lx) (-gy - ly) := ⟨fun d hd => by
      have h5 : lx ≤ d.x := m1 d hd; have h6 : ly ≤ d.y := m2 d hd; have h7 : gx ≤ -d.x := m3 d hd; have h8 : gy ≤ -d.y := m4 d hd; omega,
    ⟨d1, h1, e1⟩, ⟨d3, h3, by have h5 : -d3.x = gx := e3; omega⟩, ⟨d2, h2, e2⟩, ⟨d4, h4, by have h5 : -d4.y = gy := e4; omega⟩⟩
  rw [bx8_eq hb]; exact hb
def bnd8 (r : R7) : Prop := (0 ≤ r.x ∧ r.x ≤ 4095) ∧ (0 ≤ r.y ∧ r.y ≤ 4095) ∧ (0 ≤ r.w ∧ r.w ≤ 4095) ∧ (0 ≤ r.h ∧ r.h ≤ 4095)
theorem bx8_bnd {P N : Int} {ds : List Dt} (hv : Vd P N ds) : bnd8 (bx8 ds) := box_on hv (isbox8 hv)
theorem pbox8 (P N : Int) (ds : List Dt) (A : Option Addr) (c : Nat) (w : World) (hA : Dz w A ds) (hv : Vd P N ds) :
    Yl 79 #[.agg #[.int .i64 P, .int .i64 N, .slice A ds.length c]] w (.tuple #[r7v (bx8 ds), .int .i64 0]) := by
  refine (pbox_yes P N ds A c w hA (by have := hv.2.2.1; omega) hv).mono ?_
  rintro e v0 ⟨x, y, ww, hh, hbx, rfl, hb⟩
  rw [bx8_eq hbx]
  exact ⟨rfl, hb⟩
theorem set4_8 {W : World} {z : Nat} {T : Nat} {a b c d : Value} (h : Blk W z T #[a, b, c, d]) (x y u v : Value) : Blk ((((W.setCell ⟨z, 0, none⟩ x).setCell ⟨z, 1, none⟩ y).setCell ⟨z, 2, none⟩ u).setCell ⟨z, 3, none⟩ v) z T #[x, y, u, v] := (((h.set 0 x).set 1 y).set 2 u).set 3 v
def jn8 (a b : R7) : R7 := ⟨min a.x b.x, min a.y b.y, max (a.x + a.w) (b.x + b.w) - min a.x b.x, max (a.y + a.h) (b.y + b.h) - min a.y b.y⟩
set_option maxRecDepth 100000 in
set_option maxHeartbeats 8000000 in
theorem around1_any (l : List K8) (b o c a i : Nat) (w : World) (hi : i < l.length) (ha : w.cell? ⟨a, 0, none⟩ = some (.slice (some ⟨b, o, none⟩) l.length c)) (hL : Lz8 w (some ⟨b, o, none⟩) l) (h : ∀ s ∈ l, s.ok) :
    Yl 78 #[.int .i64 (i : Int), .pointer (some ⟨a, 0, none⟩)] w (r7v (bx8 l[i].ds)) := by
  have HCA : Hid (∀ W, Below w.heap.size w W → W.cell? ⟨a, 0, none⟩ = some (.slice (some ⟨b, o, none⟩) l.length c) ∧ W.cell? ⟨b, o + i * 3, none⟩ = some (.int .i64 l[i].P) ∧ W.cell? ⟨b, o + i * 3 + 1, none⟩ = some (.int .i64 l[i].N) ∧ W.cell? ⟨b, o + i * 3 + 2, none⟩ = some (.slice l[i].A l[i].ds.length l[i].c)) := Lib.hid (fun W hW =>
    ⟨(hW.cell (p := ⟨a, 0, none⟩) (cell_lt8 ha)).trans ha, hL.cells hW (Nat.le_refl _) hi⟩)
  have HBX : Hid (∀ W, Below w.heap.size w W → Yl 79 #[.agg #[.int .i64 l[i].P, .int .i64 l[i].N, .slice l[i].A l[i].ds.length l[i].c]] W (.tuple #[r7v (bx8 l[i].ds), .int .i64 0])) := Lib.hid (fun W hW => pbox8 l[i].P l[i].N l[i].ds l[i].A l[i].c W ((hL.2 l[i] (List.getElem_mem hi)).below hW (Nat.le_refl _)) (h l[i] (List.getElem_mem hi)).1)
  have q1 : (0 : Int) ≤ (i : Int) := by omega
  have q2 : (i : Int) < (l.length : Int) := by omega
  clear ha hL h
  generalize bx8 l[i].ds = r at *
  generalize l[i] = s at *
  clear hi
  generalize l.length = n at *
  have Z_0 : Hid (Blk (w.alloc (.cells #[.int .i64 0, .int .i64 0, .int .i64 0, .int .i64 0] 38)) w.heap.size 38 #[.int .i64 0, .int .i64 0, .int .i64 0, .int .i64 0]) := allocs_blk [(#[.int .i64 0, .int .i64 0, .int .i64 0, .int .i64 0], 38)] w 0 _ rfl
  have HB_0 : Hid (Below w.heap.size w (w.alloc (.cells #[.int .i64 0, .int .i64 0, .int .i64 0, .int .i64 0] 38))) := allocs_below [(#[.int .i64 0, .int .i64 0, .int .i64 0, .int .i64 0], 38)] w (Below.refl w.heap.size w) (Nat.le_refl _)
  go_enter Tryd.func78, Tryd.ntmps78
  obtain ⟨d0, d1, d2, d3⟩ := HCA.out _ HB_0.out
  go_wp2_with fail
  refine (HBX.out _ HB_0.out).mono ?_
  rintro e v0 ⟨rfl, hb⟩
  clear d0 d1 d2 d3
  have Z_1 : Hid (Blk (v0.alloc (.cells #[.int .i64 r.x, .int .i64 r.y, .int .i64 r.w, .int .i64 r.h] 38)) w.heap.size 38 #[.int .i64 0, .int .i64 0, .int .i64 0, .int .i64 0]) := Lib.hid (allocs_keep [(#[.int .i64 r.x, .int .i64 r.y, .int .i64 r.w, .int .i64 r.h], 38)] _ (Z_0.out.below hb Z_0.out.lt))
  have HB_1 : Hid (Below w.heap.size w (v0.alloc (.cells #[.int .i64 r.x, .int .i64 r.y, .int .i64 r.w, .int .i64 r.h] 38))) := Lib.hid (allocs_below [(#[.int .i64 r.x, .int .i64 r.y, .int .i64 r.w, .int .i64 r.h], 38)] _ (HB_0.out.trans (hb.mono HB_0.out.size)) (HB_0.out.trans (hb.mono HB_0.out.size)).size)
  have R_1 : Hid (Blk (v0.alloc (.cells #[.int .i64 r.x, .int .i64 r.y, .int .i64 r.w, .int .i64 r.h] 38)) v0.heap.size 38 #[.int .i64 r.x, .int .i64 r.y, .int .i64 r.w, .int .i64 r.h]) := Lib.hid (allocs_blk [(#[.int .i64 r.x, .int .i64 r.y, .int .i64 r.w, .int .i64 r.h], 38)] v0 0 _ rfl)
  clear hb Z_0 HB_0
  have yy0 := R_1.out.cell (i := 0) (v := .int .i64 r.x) rfl; have yy1 := R_1.out.cell (i := 1) (v := .int .i64 r.y) rfl; have yy2 := R_1.out.cell (i := 2) (v := .int .i64 r.w) rfl; have yy3 := R_1.out.cell (i := 3) (v := .int .i64 r.h) rfl
  have r0 := Z_1.out.cell (i := 0) (v := .int .i64 0) rfl; have f0 := Z_1.out.frozen 0
  have r1 := Z_1.out.cell (i := 1) (v := .int .i64 0) rfl; have f1 := Z_1.out.frozen 1
  have r2 := Z_1.out.cell (i := 2) (v := .int .i64 0) rfl; have f2 := Z_1.out.frozen 2
  have r3 := Z_1.out.cell (i := 3) (v := .int .i64 0) rfl; have f3 := Z_1.out.frozen 3
  go_wp2_with fail
  clear yy0 yy1 yy2 yy3
  clear r0 f0 r1 f1 r2 f2 r3 f3
  have HFZ := Lib.hid ((((Z_1.out.set 0 (.int .i64 r.x)).set 1 (.int .i64 r.y)).set 2 (.int .i64 r.w)).set 3 (.int .i64 r.h))
  have rZ0 := HFZ.out.cell (i := 0) (v := .int .i64 r.x) rfl
  have rZ1 := HFZ.out.cell (i := 1) (v := .int .i64 r.y) rfl
  have rZ2 := HFZ.out.cell (i := 2) (v := .int .i64 r.w) rfl
  have rZ3 := HFZ.out.cell (i := 3) (v := .int .i64 r.h) rfl
  exact bodyPost_ret (v := .agg #[.int .i64 r.x, .int .i64 r.y, .int .i64 r.w, .int .i64 r.h]) (by simp [results, Tryd.results78, go_sem, rZ0, rZ1, rZ2, rZ3]) rfl ⟨rfl, ((((HB_1.out.setCell (p := ⟨w.heap.size, 0, none⟩) (by show w.heap.size ≤ w.heap.size; omega) (.int .i64 r.x)).setCell (p := ⟨w.heap.size, 1, none⟩) (by show w.heap.size ≤ w.heap.size; omega) (.int .i64 r.y)).setCell (p := ⟨w.heap.size, 2, none⟩) (by show w.heap.size ≤ w.heap.size; omega) (.int .i64 r.w)).setCell (p := ⟨w.heap.size, 3, none⟩) (by show w.heap.size ≤ w.heap.size; omega) (.int .i64 r.h))⟩
set_option maxRecDepth 100000 in
set_option maxHeartbeats 8000000 in
theorem around2_any (a b : R7) (w : World) (ha : bnd8 a) (hb0 : bnd8 b) : Yl 81 #[r7v a, r7v b] w (r7v (jn8 a b)) := by
  unfold bnd8 at ha hb0
  have e1 : IntKind.i64.wrap (a.x + a.w) = a.x + a.w := IntWalk.i64_in _ (by omega)
  have e2 : IntKind.i64.wrap (b.x + b.w) = b.x + b.w := IntWalk.i64_in _ (by omega)
  have e3 : IntKind.i64.wrap (a.y + a.h) = a.y + a.h := IntWalk.i64_in _ (by omega)
  have e4 : IntKind.i64.wrap (b.y + b.h) = b.y + b.h := IntWalk.i64_in _ (by omega)
  have e5 : IntKind.i64.wrap (max (a.x + a.w) (b.x + b.w) - min a.x b.x) = max (a.x + a.w) (b.x + b.w) - min a.x b.x := IntWalk.i64_in _ (by omega)
  have e6 : IntKind.i64.wrap (max (a.y + a.h) (b.y + b.h) - min a.y b.y) = max (a.y + a.h) (b.y + b.h) - min a.y b.y := IntWalk.i64_in _ (by omega)
  have S_0 : Hid (Blk (((w.alloc (.cells #[.int .i64 a.x, .int .i64 a.y, .int .i64 a.w, .int .i64 a.h] 38)).alloc (.cells #[.int .i64 b.x, .int .i64 b.y, .int .i64 b.w, .int .i64 b.h] 38)).alloc (.cells #[.int .i64 0, .int .i64 0, .int .i64 0, .int .i64 0] 38)) w.heap.size 38 #[.int .i64 a.x, .int .i64 a.y, .int .i64 a.w, .int .i64 a.h]) := allocs_blk [(#[.int .i64 a.x, .int .i64 a.y, .int .i64 a.w, .int .i64 a.h], 38), (#[.int .i64 b.x, .int .i64 b.y, .int .i64 b.w, .int .i64 b.h], 38), (#[.int .i64 0, .int .i64 0, .int .i64 0, .int .i64 0], 38)] w 0 _ rfl
  have T_0 : Hid (Blk (((w.alloc (.cells #[.int .i64 a.x, .int .i64 a.y, .int .i64 a.w, .int .i64 a.h] 38)).alloc (.cells #[.int .i64 b.x, .int .i64 b.y, .int .i64 b.w, .int .i64 b.h] 38)).alloc (.cells #[.int .i64 0, .int .i64 0, .int .i64 0, .int .i64 0] 38)) (w.heap.size + 1) 38 #[.int .i64 b.x, .int .i64 b.y, .int .i64 b.w, .int .i64 b.h]) := allocs_blk [(#[.int .i64 a.x, .int .i64 a.y, .int .i64 a.w, .int .i64 a.h], 38), (#[.int .i64 b.x, .int .i64 b.y, .int .i64 b.w, .int .i64 b.h], 38), (#[.int .i64 0, .int .i64 0, .int .i64 0, .int .i64 0], 38)] w 1 _ rfl
  have Z_0 : Hid (Blk (((w.alloc (.cells #[.int .i64 a.x, .int .i64 a.y, .int .i64 a.w, .int .i64 a.h] 38)).alloc (.cells #[.int .i64 b.x, .int .i64 b.y, .int .i64 b.w, .int .i64 b.h] 38)).alloc (.cells #[.int .i64 0, .int .i64 0, .int .i64 0, .int .i64 0] 38)) (w.heap.size + 2) 38 #[.int .i64 0, .int .i64 0, .int .i64 0, .int .i64 0]) := allocs_blk [(#[.int .i64 a.x, .int .i64 a.y, .int .i64 a.w, .int .i64 a.h], 38), (#[.int .i64 b.x, .int .i64 b.y, .int .i64 b.w, .int .i64 b.h], 38), (#[.int .i64 0, .int .i64 0, .int .i64 0, .int .i64 0], 38)] w 2 _ rfl
  have HB_0 : Hid (Below w.heap.size w (((w.alloc (.cells #[.int .i64 a.x, .int .i64 a.y, .int .i64 a.w, .int .i64 a.h] 38)).alloc (.cells #[.int .i64 b.x, .int .i64 b.y, .int .i64 b.w, .int .i64 b.h] 38)).alloc (.cells #[.int .i64 0, .int .i64 0, .int .i64 0, .int .i64 0] 38))) := allocs_below [(#[.int .i64 a.x, .int .i64 a.y, .int .i64 a.w, .int .i64 a.h], 38), (#[.int .i64 b.x, .int .i64 b.y, .int .i64 b.w, .int .i64 b.h], 38), (#[.int .i64 0, .int .i64 0, .int .i64 0, .int .i64 0], 38)] w (Below.refl w.heap.size w) (Nat.le_refl _)
  go_enter Tryd.func81, Tryd.ntmps81
  go_upto_region 1 with fail
  refine wp_region_grow (S := (fun w' => w'.cell? ⟨w.heap.size, 0, none⟩ = some (.int .i64 a.x) ∧ w'.cell? ⟨w.heap.size, 1, none⟩ = some (.int .i64 a.y) ∧ w'.cell? ⟨w.heap.size, 2, none⟩ = some (.int .i64 a.w) ∧ w'.cell? ⟨w.heap.size, 3, none⟩ = some (.int .i64 a.h) ∧ w'.cell? ⟨(w.heap.size + 1), 0, none⟩ = some (.int .i64 b.x) ∧ w'.cell? ⟨(w.heap.size + 1), 1, none⟩ = some (.int .i64 b.y) ∧ w'.cell? ⟨(w.heap.size + 1), 2, none⟩ = some (.int .i64 b.w) ∧ w'.cell? ⟨(w.heap.size + 1), 3, none⟩ = some (.int .i64 b.h))) ((fun w' => Below (((w.alloc (.cells #[.int .i64 a.x, .int .i64 a.y, .int .i64 a.w, .int .i64 a.h] 38)).alloc (.cells #[.int .i64 b.x, .int .i64 b.y, .int .i64 b.w, .int .i64 b.h] 38)).alloc (.cells #[.int .i64 0, .int .i64 0, .int .i64 0, .int .i64 0] 38)).heap.size (((w.alloc (.cells #[.int .i64 a.x, .int .i64 a.y, .int .i64 a.w, .int .i64 a.h] 38)).alloc (.cells #[.int .i64 b.x, .int .i64 b.y, .int .i64 b.w, .int .i64 b.h] 38)).alloc (.cells #[.int .i64 0, .int .i64 0, .int .i64 0, .int .i64 0] 38)) w')) (by kernel_rfl) (⟨fun w2 h2 => ⟨(S_0.out.below h2 S_0.out.lt).cell (i := 0) (v := .int .i64 a.x) rfl, (S_0.out.below h2 S_0.out.lt).cell (i := 1) (v := .int .i64 a.y) rfl, (S_0.out.below h2 S_0.out.lt).cell (i := 2) (v := .int .i64 a.w) rfl, (S_0.out.below h2 S_0.out.lt).cell (i := 3) (v := .int .i64 a.h) rfl, (T_0.out.below h2 T_0.out.lt).cell (i := 0) (v := .int .i64 b.x) rfl, (T_0.out.below h2 T_0.out.lt).cell (i := 1) (v := .int .i64 b.y) rfl, (T_0.out.below h2 T_0.out.lt).cell (i := 2) (v := .int .i64 b.w) rfl, (T_0.out.below h2 T_0.out.lt).cell (i := 3) (v := .int .i64 b.h) rfl⟩, fun w2 w3 h2 hb2 => h2.trans (hb2.mono h2.size)⟩) ((Below.refl (((w.alloc (.cells #[.int .i64 a.x, .int .i64 a.y, .int .i64 a.w, .int .i64 a.h] 38)).alloc (.cells #[.int .i64 b.x, .int .i64 b.y, .int .i64 b.w, .int .i64 b.h] 38)).alloc (.cells #[.int .i64 0, .int .i64 0, .int .i64 0, .int .i64 0] 38)).heap.size (((w.alloc (.cells #[.int .i64 a.x, .int .i64 a.y, .int .i64 a.w, .int .i64 a.h] 38)).alloc (.cells #[.int .i64 b.x, .int .i64 b.y, .int .i64 b.w, .int .i64 b.h] 38)).alloc (.cells #[.int .i64 0, .int .i64 0, .int .i64 0, .int .i64 0] 38))).drew) (fun hCalm => ?_)
  refine grow_take 0 (some 7) ?_ rfl rfl (by kernel_rfl) (fun _ _ _ h => h) (by kernel_rfl) hCalm ?_ ?_
  rotate_left
  · intro wS hS; (try dsimp only at hS); go_simp <;> with_reducible rfl
  try simp only [Act.put, List.setIfInBounds_toArray, List.set_cons_zero, List.set_cons_succ]
  refine grow_take 1 (some 8) ?_ rfl rfl (by kernel_rfl) (fun _ _ _ h => h) (by kernel_rfl) hCalm ?_ ?_
  rotate_left
  · intro wS hS; (try dsimp only at hS); go_simp <;> with_reducible rfl
  try simp only [Act.put, List.setIfInBounds_toArray, List.set_cons_zero, List.set_cons_succ]
  refine grow_take 2 (some 9) ?_ rfl rfl (by kernel_rfl) (fun _ _ _ h => h) (by kernel_rfl) hCalm ?_ ?_
  rotate_left
  · intro wS hS; (try dsimp only at hS); go_simp <;> with_reducible rfl
  try simp only [Act.put, List.setIfInBounds_toArray, List.set_cons_zero, List.set_cons_succ]
  refine grow_take 3 (some 10) ?_ rfl rfl (by kernel_rfl) (fun _ _ _ h => h) (by kernel_rfl) hCalm ?_ ?_
  rotate_left
  · intro wS hS; (try dsimp only at hS); go_simp <;> with_reducible rfl
  try simp only [Act.put, List.setIfInBounds_toArray, List.set_cons_zero, List.set_cons_succ]
  refine grow_take 4 (some 11) ?_ rfl rfl (by kernel_rfl) (fun _ _ _ h => h) (by kernel_rfl) hCalm ?_ ?_
  rotate_left
  · intro wS hS; (try dsimp only at hS); go_simp <;> with_reducible rfl
  try simp only [Act.put, List.setIfInBounds_toArray, List.set_cons_zero, List.set_cons_succ]
  refine grow_take 5 (some 12) ?_ rfl rfl (by kernel_rfl) (fun _ _ _ h => h) (by kernel_rfl) hCalm ?_ ?_
  rotate_left
  · intro wS hS; (try dsimp only at hS); go_simp <;> with_reducible rfl
  try simp only [Act.put, List.setIfInBounds_toArray, List.set_cons_zero, List.set_cons_succ]
  refine grow_take 6 (some 13) ?_ rfl rfl (by kernel_rfl) (fun _ _ _ h => h) (by kernel_rfl) hCalm ?_ ?_
  rotate_left
  · intro wS hS; (try dsimp only at hS); go_simp <;> with_reducible rfl
  try simp only [Act.put, List.setIfInBounds_toArray, List.set_cons_zero, List.set_cons_succ]
  refine grow_take 7 (some 14) ?_ rfl rfl (by kernel_rfl) (fun _ _ _ h => h) (by kernel_rfl) hCalm ?_ ?_
  rotate_left
  · intro wS hS; (try dsimp only at hS); go_simp <;> with_reducible rfl
  try simp only [Act.put, List.setIfInBounds_toArray, List.set_cons_zero, List.set_cons_succ]
  refine grow_take 8 (some 15) ?_ rfl rfl (by kernel_rfl) (fun _ _ _ h => h) (by kernel_rfl) hCalm ?_ ?_
  rotate_left
  · intro wS hS; (try dsimp only at hS); go_simp <;> with_reducible rfl
  try simp only [Act.put, List.setIfInBounds_toArray, List.set_cons_zero, List.set_cons_succ]
  refine grow_take 9 (some 16) ?_ rfl rfl (by kernel_rfl) (fun _ _ _ h => h) (by kernel_rfl) hCalm ?_ ?_
  rotate_left
  · intro wS hS; (try dsimp only at hS); go_simp <;> with_reducible rfl
  try simp only [Act.put, List.setIfInBounds_toArray, List.set_cons_zero, List.set_cons_succ]
  refine grow_take 10 (some 5) ?_ rfl rfl (by kernel_rfl) (fun _ _ _ h => h) (by kernel_rfl) hCalm ?_ ?_
  rotate_left
  · intro wS hS; (try dsimp only at hS); go_simp <;> with_reducible rfl
  try simp only [Act.put, List.setIfInBounds_toArray, List.set_cons_zero, List.set_cons_succ]
  refine grow_take 11 (some 6) ?_ rfl rfl (by kernel_rfl) (fun _ _ _ h => h) (by kernel_rfl) hCalm ?_ ?_
  rotate_left
  · intro wS hS; (try dsimp only at hS); go_simp <;> with_reducible rfl
  try simp only [Act.put, List.setIfInBounds_toArray, List.set_cons_zero, List.set_cons_succ]
  refine grow_done (by kernel_rfl) (fun wA hA => ?_) _
  obtain ⟨v0, hv0⟩ : ∃ x, x = wA := ⟨_, rfl⟩
  rw [← hv0] at hA ⊢
  clear hv0
  have hb := hA; clear hA hCalm
  have S_1 : Hid (Blk v0 w.heap.size 38 #[.int .i64 a.x, .int .i64 a.y, .int .i64 a.w, .int .i64 a.h]) := Lib.hid (S_0.out.below hb S_0.out.lt)
  have T_1 : Hid (Blk v0 (w.heap.size + 1) 38 #[.int .i64 b.x, .int .i64 b.y, .int .i64 b.w, .int .i64 b.h]) := Lib.hid (T_0.out.below hb T_0.out.lt)
  have Z_1 : Hid (Blk v0 (w.heap.size + 2) 38 #[.int .i64 0, .int .i64 0, .int .i64 0, .int .i64 0]) := Lib.hid (Z_0.out.below hb Z_0.out.lt)
  have HB_1 : Hid (Below w.heap.size w v0) := Lib.hid (HB_0.out.trans (hb.mono HB_0.out.size))
  clear hb S_0 T_0 Z_0 HB_0
  have yy0 := S_1.out.cell (i := 0) (v := .int .i64 a.x) rfl; have yy1 := S_1.out.cell (i := 1) (v := .int .i64 a.y) rfl; have yy2 := S_1.out.cell (i := 2) (v := .int .i64 a.w) rfl; have yy3 := S_1.out.cell (i := 3) (v := .int .i64 a.h) rfl
  have yy4 := T_1.out.cell (i := 0) (v := .int .i64 b.x) rfl; have yy5 := T_1.out.cell (i := 1) (v := .int .i64 b.y) rfl; have yy6 := T_1.out.cell (i := 2) (v := .int .i64 b.w) rfl; have yy7 := T_1.out.cell (i := 3) (v := .int .i64 b.h) rfl
  have r0 := Z_1.out.cell (i := 0) (v := .int .i64 0) rfl; have f0 := Z_1.out.frozen 0
  have r1 := Z_1.out.cell (i := 1) (v := .int .i64 0) rfl; have f1 := Z_1.out.frozen 1
  have r2 := Z_1.out.cell (i := 2) (v := .int .i64 0) rfl; have f2 := Z_1.out.frozen 2
  have r3 := Z_1.out.cell (i := 3) (v := .int .i64 0) rfl; have f3 := Z_1.out.frozen 3
  go_wp2_with fail
  clear yy0 yy1 yy2 yy3 yy4 yy5 yy6 yy7
  all_goals
    clear r0 f0 r1 f1 r2 f2 r3 f3
    have c0 := fun x y u v => (set4_8 Z_1.out x y u v).cell (i := 0) (v := x) rfl
    have c1 := fun x y u v => (set4_8 Z_1.out x y u v).cell (i := 1) (v := y) rfl
    have c2 := fun x y u v => (set4_8 Z_1.out x y u v).cell (i := 2) (v := u) rfl
    have c3 := fun x y u v => (set4_8 Z_1.out x y u v).cell (i := 3) (v := v) rfl
    refine bodyPost_ret (v := r7v (jn8 a b)) ?_ rfl ⟨rfl, ((((HB_1.out.setCell (p := ⟨w.heap.size + 2, 0, none⟩) (by show w.heap.size ≤ w.heap.size + 2; omega) _).setCell (p := ⟨w.heap.size + 2, 1, none⟩) (by show w.heap.size ≤ w.heap.size + 2; omega) _).setCell (p := ⟨w.heap.size + 2, 2, none⟩) (by show w.heap.size ≤ w.heap.size + 2; omega) _).setCell (p := ⟨w.heap.size + 2, 3, none⟩) (by show w.heap.size ≤ w.heap.size + 2; omega) _)⟩
    simp [results, Tryd.results81, go_sem, c0, c1, c2, c3, jn8]
    try omega
set_option maxRecDepth 100000 in
set_option maxHeartbeats 8000000 in
theorem rcomb8_one (a : Nat) (x : R7) (w : World) (h0 : ∀ W, Below w.heap.size w W → Yl 78 #[.int .i64 0, .pointer (some ⟨a, 0, none⟩)] W (r7v x)) :
    Yl 80 #[.int .i64 1, .func (.func 78) #[] #[.pointer (some ⟨a, 0, none⟩)], .func (.func 81) #[] #[]] w (r7v x) := by
  have H0 := Lib.hid h0; clear h0
  have Z_0 : Hid (Blk (w.alloc (.cells #[.int .i64 0, .int .i64 0, .int .i64 0, .int .i64 0] 38)) w.heap.size 38 #[.int .i64 0, .int .i64 0, .int .i64 0, .int .i64 0]) := allocs_blk [(#[.int .i64 0, .int .i64 0, .int .i64 0, .int .i64 0], 38)] w 0 _ rfl
  have HB_0 : Hid (Below w.heap.size w (w.alloc (.cells #[.int .i64 0, .int .i64 0, .int .i64 0, .int .i64 0] 38))) := allocs_below [(#[.int .i64 0, .int .i64 0, .int .i64 0, .int .i64 0], 38)] w (Below.refl w.heap.size w) (Nat.le_refl _)
  go_enter Tryd.func80, Tryd.ntmps80
  go_wp2_with fail
  refine (H0.out _ HB_0.out).mono ?_
  rintro e v0 ⟨rfl, hb⟩
  have hle := (Z_0.out.below hb Z_0.out.lt).lt
  have Z_1 : Hid (Blk (v0.alloc (.cells #[.int .i64 x.x, .int .i64 x.y, .int .i64 x.w, .int .i64 x.h] 38)) w.heap.size 38 #[.int .i64 0, .int .i64 0, .int .i64 0, .int .i64 0]) := Lib.hid (allocs_keep [(#[.int .i64 x.x, .int .i64 x.y, .int .i64 x.w, .int .i64 x.h], 38)] _ (Z_0.out.below hb Z_0.out.lt))
  have HB_1 : Hid (Below w.heap.size w (v0.alloc (.cells #[.int .i64 x.x, .int .i64 x.y, .int .i64 x.w, .int .i64 x.h] 38))) := Lib.hid (allocs_below [(#[.int .i64 x.x, .int .i64 x.y, .int .i64 x.w, .int .i64 x.h], 38)] _ (HB_0.out.trans (hb.mono HB_0.out.size)) (HB_0.out.trans (hb.mono HB_0.out.size)).size)
  have R_1 : Hid (Blk (v0.alloc (.cells #[.int .i64 x.x, .int .i64 x.y, .int .i64 x.w, .int .i64 x.h] 38)) v0.heap.size 38 #[.int .i64 x.x, .int .i64 x.y, .int .i64 x.w, .int .i64 x.h]) := Lib.hid (allocs_blk [(#[.int .i64 x.x, .int .i64 x.y, .int .i64 x.w, .int .i64 x.h], 38)] v0 0 _ rfl)
  clear hb Z_0 HB_0
  go_wp2_with fail
  go_loopw [8] (fun ii wr => (Blk wr v0.heap.size 38 #[.int .i64 x.x, .int .i64 x.y, .int .i64 x.w, .int .i64 x.h] ∧ ii = .int .i64 1) ∧ Blk wr w.heap.size 38 #[.int .i64 0, .int .i64 0, .int .i64 0, .int .i64 0] ∧ Below w.heap.size w wr) (fun ii _ => 0)
  case atStart => exact ⟨⟨R_1.out, rfl⟩, Z_1.out, HB_1.out⟩
  case round =>
    clear R_1 Z_1 HB_1
    obtain ⟨⟨hR, rfl⟩, hZ, hB⟩ := hrel
    rename World => wr
    have HZ := Lib.hid hZ; have HR := Lib.hid hR; have HB := Lib.hid hB; clear hZ hR hB
    have r0 := HZ.out.cell (i := 0) (v := .int .i64 0) rfl; have f0 := HZ.out.frozen 0; have y0 := HR.out.cell (i := 0) (v := .int .i64 x.x) rfl
    have r1 := HZ.out.cell (i := 1) (v := .int .i64 0) rfl; have f1 := HZ.out.frozen 1; have y1 := HR.out.cell (i := 1) (v := .int .i64 x.y) rfl
    have r2 := HZ.out.cell (i := 2) (v := .int .i64 0) rfl; have f2 := HZ.out.frozen 2; have y2 := HR.out.cell (i := 2) (v := .int .i64 x.w) rfl
    have r3 := HZ.out.cell (i := 3) (v := .int .i64 0) rfl; have f3 := HZ.out.frozen 3; have y3 := HR.out.cell (i := 3) (v := .int .i64 x.h) rfl
    go_wp2_with fail
    clear r0 f0 y0 r1 f1 y1 r2 f2 y2 r3 f3 y3
    have c0 := fun x y u v => (set4_8 HZ.out x y u v).cell (i := 0) (v := x) rfl
    have c1 := fun x y u v => (set4_8 HZ.out x y u v).cell (i := 1) (v := y) rfl
    have c2 := fun x y u v => (set4_8 HZ.out x y u v).cell (i := 2) (v := u) rfl
    have c3 := fun x y u v => (set4_8 HZ.out x y u v).cell (i := 3) (v := v) rfl
    refine bodyPost_ret (v := r7v x) ?_ rfl ⟨rfl, ((((HB.out.setCell (p := ⟨w.heap.size, 0, none⟩) (by show w.heap.size ≤ w.heap.size; omega) _).setCell (p := ⟨w.heap.size, 1, none⟩) (by show w.heap.size ≤ w.heap.size; omega) _).setCell (p := ⟨w.heap.size, 2, none⟩) (by show w.heap.size ≤ w.heap.size; omega) _).setCell (p := ⟨w.heap.size, 3, none⟩) (by show w.heap.size ≤ w.heap.size; omega) _)⟩
    simp [results, Tryd.results80, go_sem, c0, c1, c2, c3]
set_option maxRecDepth 100000 in
set_option maxHeartbeats 8000000 in
theorem rcomb8_two (a : Nat) (x y : R7) (w : World) (hx : bnd8 x) (hy : bnd8 y) (h0 : ∀ W, Below w.heap.size w W → Yl 78 #[.int .i64 0, .pointer (some ⟨a, 0, none⟩)] W (r7v x)) (h1 : ∀ W, Below w.heap.size w W → Yl 78 #[.int .i64 1, .pointer (some ⟨a, 0, none⟩)] W (r7v y)) :
    Yl 80 #[.int .i64 2, .func (.func 78) #[] #[.pointer (some ⟨a, 0, none⟩)], .func (.func 81) #[] #[]] w (r7v (jn8 x y)) := by
  have H0 := Lib.hid h0; clear h0
  have H1 := Lib.hid h1; clear h1
  have HJ := Lib.hid (fun W => around2_any x y W hx hy); clear hx hy
  generalize jn8 x y = z at *
  have Z_0 : Hid (Blk (w.alloc (.cells #[.int .i64 0, .int .i64 0, .int .i64 0, .int .i64 0] 38)) w.heap.size 38 #[.int .i64 0, .int .i64 0, .int .i64 0, .int .i64 0]) := allocs_blk [(#[.int .i64 0, .int .i64 0, .int .i64 0, .int .i64 0], 38)] w 0 _ rfl
  have HB_0 : Hid (Below w.heap.size w (w.alloc (.cells #[.int .i64 0, .int .i64 0, .int .i64 0, .int .i64 0] 38))) := allocs_below [(#[.int .i64 0, .int .i64 0, .int .i64 0, .int .i64 0], 38)] w (Below.refl w.heap.size w) (Nat.le_refl _)
  go_enter Tryd.func80, Tryd.ntmps80
  go_wp2_with fail
  refine (H0.out _ HB_0.out).mono ?_
  rintro e v0 ⟨rfl, hb⟩
  have hle := (Z_0.out.below hb Z_0.out.lt).lt
  have Z_1 : Hid (Blk (v0.alloc (.cells #[.int .i64 x.x, .int .i64 x.y, .int .i64 x.w, .int .i64 x.h] 38)) w.heap.size 38 #[.int .i64 0, .int .i64 0, .int .i64 0, .int .i64 0]) := Lib.hid (allocs_keep [(#[.int .i64 x.x, .int .i64 x.y, .int .i64 x.w, .int .i64 x.h], 38)] _ (Z_0.out.below hb Z_0.out.lt))
  have HB_1 : Hid (Below w.heap.size w (v0.alloc (.cells #[.int .i64 x.x, .int .i64 x.y, .int .i64 x.w, .int .i64 x.h] 38))) := Lib.hid (allocs_below [(#[.int .i64 x.x, .int .i64 x.y, .int .i64 x.w, .int .i64 x.h], 38)] _ (HB_0.out.trans (hb.mono HB_0.out.size)) (HB_0.out.trans (hb.mono HB_0.out.size)).size)
  have R_1 : Hid (Blk (v0.alloc (.cells #[.int .i64 x.x, .int .i64 x.y, .int .i64 x.w, .int .i64 x.h] 38)) v0.heap.size 38 #[.int .i64 x.x, .int .i64 x.y, .int .i64 x.w, .int .i64 x.h]) := Lib.hid (allocs_blk [(#[.int .i64 x.x, .int .i64 x.y, .int .i64 x.w, .int .i64 x.h], 38)] v0 0 _ rfl)
  clear hb Z_0 HB_0
  go_wp2_with fail
  go_loopw [8] (fun ii wr => (Blk wr v0.heap.size 38 #[.int .i64 x.x, .int .i64 x.y, .int .i64 x.w, .int .i64 x.h] ∧ ii = .int .i64 1 ∨ Blk wr v0.heap.size 38 #[.int .i64 z.x, .int .i64 z.y, .int .i64 z.w, .int .i64 z.h] ∧ ii = .int .i64 2) ∧ Blk wr w.heap.size 38 #[.int .i64 0, .int .i64 0, .int .i64 0, .int .i64 0] ∧ Below w.heap.size w wr) (fun ii _ => 2 - (intOf ii).toNat)
  case atStart => exact ⟨Or.inl ⟨R_1.out, rfl⟩, Z_1.out, HB_1.out⟩
  case round =>
    clear R_1 Z_1 HB_1
    obtain ⟨⟨hR, rfl⟩ | ⟨hR, rfl⟩, hZ, hB⟩ := hrel
    · rename World => wr
      have HZ := Lib.hid hZ; have HR := Lib.hid hR; have HB := Lib.hid hB; clear hZ hR hB
      go_wp2_with fail
      refine wp_region_grow (S := (fun w' => Below w.heap.size w w')) ((fun w' => ((Below w.heap.size w w') ∧ Blk w' v0.heap.size 38 #[.int .i64 x.x, .int .i64 x.y, .int .i64 x.w, .int .i64 x.h]) ∧ Blk w' w.heap.size 38 #[.int .i64 0, .int .i64 0, .int .i64 0, .int .i64 0])) (by kernel_rfl) (⟨fun w2 h2 => h2.1.1, fun w2 w3 h2 hb2 => ⟨⟨h2.1.1.trans (hb2.mono h2.1.1.size), h2.1.2.below hb2 h2.1.2.lt⟩, h2.2.below hb2 h2.2.lt⟩⟩) (⟨⟨HB.out.drew, HR.out.drew⟩, HZ.out.drew⟩) (fun hCalm => ?_)
      refine grow_take 0 (some 16) ?_ rfl rfl (by kernel_rfl) (fun _ _ _ h => h) (by kernel_rfl) hCalm ?_ ?_
      rotate_left
      · intro wS hS; (try dsimp only at hS); go_simp <;> with_reducible rfl
      try simp only [Act.put, List.setIfInBounds_toArray, List.set_cons_zero, List.set_cons_succ]
      refine grow_take 2 (some 18) ?_ rfl rfl (by kernel_rfl) (fun _ _ _ h => h) (by kernel_rfl) hCalm ?_ ?_
      rotate_left
      · intro wS hS; (try dsimp only at hS); go_simp <;> with_reducible rfl
      try simp only [Act.put, List.setIfInBounds_toArray, List.set_cons_zero, List.set_cons_succ]
      refine grow_take 3 (some 19) ?_ rfl rfl (by kernel_rfl) (fun _ _ _ h => h) (by kernel_rfl) hCalm ?_ ?_
      rotate_left
      · intro wS hS; (try dsimp only at hS); go_simp <;> with_reducible rfl
      try simp only [Act.put, List.setIfInBounds_toArray, List.set_cons_zero, List.set_cons_succ]
      refine grow_enter 4 (some 20) (r7v y) 78 (#[.int .i64 1, .pointer (some ⟨a, 0, none⟩)]) rfl rfl (by kernel_rfl) (fun _ _ _ h => h) (by kernel_rfl) hCalm (fun wz hz => H1.out wz hz) ?_ ?_
      · intro wS hS; (try dsimp only at hS); go_simp
      try simp only [Act.put, List.setIfInBounds_toArray, List.set_cons_zero, List.set_cons_succ]
      refine grow_each [1] (by kernel_rfl) (by decide) ?_
      refine grow_cons 1 rfl (by kernel_rfl) (fun wA hA K hK => ?_) grow_nil
      have z0 := hA.1.2.cell (i := 0) (v := .int .i64 x.x) rfl
      have z1 := hA.1.2.cell (i := 1) (v := .int .i64 x.y) rfl
      have z2 := hA.1.2.cell (i := 2) (v := .int .i64 x.w) rfl
      have z3 := hA.1.2.cell (i := 3) (v := .int .i64 x.h) rfl
      go_simp
      clear hCalm; refine grow_put hK (fun w' => ((Below w.heap.size w w') ∧ Blk w' v0.heap.size 38 #[.int .i64 x.x, .int .i64 x.y, .int .i64 x.w, .int .i64 x.h]) ∧ Blk w' w.heap.size 38 #[.int .i64 0, .int .i64 0, .int .i64 0, .int .i64 0]) ⟨fun w2 h2 => h2.1.1, fun w2 w3 h2 hb2 => ⟨⟨h2.1.1.trans (hb2.mono h2.1.1.size), h2.1.2.below hb2 h2.1.2.lt⟩, h2.2.below hb2 h2.2.lt⟩⟩ ⟨⟨hA.1.1, hA.1.2⟩, hA.2⟩ (fun hCalm => ?_)
      clear z0 z1 z2 z3 hK K hA wA
      try simp only [Act.put, List.setIfInBounds_toArray, List.set_cons_zero, List.set_cons_succ]
      refine grow_enter 5 (some 21) (r7v z) 81 (#[r7v x, r7v y]) rfl rfl (by kernel_rfl) (fun _ _ _ h => h) (by kernel_rfl) hCalm (fun wz _ => HJ.out wz) ?_ ?_
      · intro wS hS; (try dsimp only at hS); go_simp
      try simp only [Act.put, List.setIfInBounds_toArray, List.set_cons_zero, List.set_cons_succ]
      refine grow_each [6] (by kernel_rfl) (by decide) ?_
      refine grow_cons 6 rfl (by kernel_rfl) (fun wA hA K hK => ?_) grow_nil
      have z0 := hA.1.2.cell (i := 0) (v := .int .i64 x.x) rfl; have f0 := hA.1.2.frozen 0
      have z1 := hA.1.2.cell (i := 1) (v := .int .i64 x.y) rfl; have f1 := hA.1.2.frozen 1
      have z2 := hA.1.2.cell (i := 2) (v := .int .i64 x.w) rfl; have f2 := hA.1.2.frozen 2
      have z3 := hA.1.2.cell (i := 3) (v := .int .i64 x.h) rfl; have f3 := hA.1.2.frozen 3
      go_simp
      clear hCalm; refine grow_put hK (fun w' => ((Below w.heap.size w w') ∧ Blk w' v0.heap.size 38 #[(.int .i64 z.x), (.int .i64 z.y), (.int .i64 z.w), (.int .i64 z.h)]) ∧ Blk w' w.heap.size 38 #[.int .i64 0, .int .i64 0, .int .i64 0, .int .i64 0]) ⟨fun w2 h2 => h2.1.1, fun w2 w3 h2 hb2 => ⟨⟨h2.1.1.trans (hb2.mono h2.1.1.size), h2.1.2.below hb2 h2.1.2.lt⟩, h2.2.below hb2 h2.2.lt⟩⟩ ⟨⟨((((hA.1.1.setCell (p := ⟨v0.heap.size, 0, none⟩) (by show w.heap.size ≤ v0.heap.size; omega) _).setCell (p := ⟨v0.heap.size, 1, none⟩) (by show w.heap.size ≤ v0.heap.size; omega) _).setCell (p := ⟨v0.heap.size, 2, none⟩) (by show w.heap.size ≤ v0.heap.size; omega) _).setCell (p := ⟨v0.heap.size, 3, none⟩) (by show w.heap.size ≤ v0.heap.size; omega) _), ((((hA.1.2.set 0 _).set 1 _).set 2 _).set 3 _)⟩, ((((hA.2.far (p := ⟨v0.heap.size, 0, none⟩) (by show w.heap.size ≠ v0.heap.size; omega) _).far (p := ⟨v0.heap.size, 1, none⟩) (by show w.heap.size ≠ v0.heap.size; omega) _).far (p := ⟨v0.heap.size, 2, none⟩) (by show w.heap.size ≠ v0.heap.size; omega) _).far (p := ⟨v0.heap.size, 3, none⟩) (by show w.heap.size ≠ v0.heap.size; omega) _)⟩ (fun hCalm => ?_)
      clear z0 f0 z1 f1 z2 f2 z3 f3 hK K hA wA
      try simp only [Act.put]
      refine grow_done (by kernel_rfl) (fun wA hA => ?_) _
      have HR := Lib.hid hA.1.2; have HZ := Lib.hid hA.2; have HB := Lib.hid hA.1.1; clear hA hCalm
      go_wp2_with fail
      go_roundw
      case rel => exact ⟨Or.inr ⟨HR.out, rfl⟩, HZ.out, HB.out⟩
      case measure => simp [intOf]
    · rename World => wr
      have HZ := Lib.hid hZ; have HR := Lib.hid hR; have HB := Lib.hid hB; clear hZ hR hB
      have r0 := HZ.out.cell (i := 0) (v := .int .i64 0) rfl; have f0 := HZ.out.frozen 0; have y0 := HR.out.cell (i := 0) (v := .int .i64 z.x) rfl
      have r1 := HZ.out.cell (i := 1) (v := .int .i64 0) rfl; have f1 := HZ.out.frozen 1; have y1 := HR.out.cell (i := 1) (v := .int .i64 z.y) rfl
      have r2 := HZ.out.cell (i := 2) (v := .int .i64 0) rfl; have f2 := HZ.out.frozen 2; have y2 := HR.out.cell (i := 2) (v := .int .i64 z.w) rfl
      have r3 := HZ.out.cell (i := 3) (v := .int .i64 0) rfl; have f3 := HZ.out.frozen 3; have y3 := HR.out.cell (i := 3) (v := .int .i64 z.h) rfl
      go_wp2_with fail
      clear r0 f0 y0 r1 f1 y1 r2 f2 y2 r3 f3 y3
      have c0 := fun x y u v => (set4_8 HZ.out x y u v).cell (i := 0) (v := x) rfl
      have c1 := fun x y u v => (set4_8 HZ.out x y u v).cell (i := 1) (v := y) rfl
      have c2 := fun x y u v => (set4_8 HZ.out x y u v).cell (i := 2) (v := u) rfl
      have c3 := fun x y u v => (set4_8 HZ.out x y u v).cell (i := 3) (v := v) rfl
      refine bodyPost_ret (v := r7v z) ?_ rfl ⟨rfl, ((((HB.out.setCell (p := ⟨w.heap.size, 0, none⟩) (by show w.heap.size ≤ w.heap.size; omega) _).setCell (p := ⟨w.heap.size, 1, none⟩) (by show w.heap.size ≤ w.heap.size; omega) _).setCell (p := ⟨w.heap.size, 2, none⟩) (by show w.heap.size ≤ w.heap.size; omega) _).setCell (p := ⟨w.heap.size, 3, none⟩) (by show w.heap.size ≤ w.heap.size; omega) _)⟩
      simp [results, Tryd.results80, go_sem, c0, c1, c2, c3]
noncomputable def ar8 (l : List K8) : R7 := if l.length = 1 then bx8 ((l.map (·.ds)).getD 0 []) else jn8 (bx8 ((l.map (·.ds)).getD 0 [])) (bx8 ((l.map (·.ds)).getD 1 []))
set_option maxRecDepth 100000 in
set_option maxHeartbeats 8000000 in
theorem around8_yes (l : List K8) (A : Option Addr) (c : Nat) (w : World) (hL : Lz8 w A l) (h : Rd8 l) : Yl 49 #[.slice A l.length c] w (r7v (ar8 l)) := by
  have hl := h.1
  obtain ⟨b, o, rfl⟩ := hL.1.some (by omega)
  have HE : Hid (∀ (a i : Nat) (W : World), Below w.heap.size w W → i < l.length → W.cell? ⟨a, 0, none⟩ = some (.slice (some ⟨b, o, none⟩) l.length c) → Yl 78 #[.int .i64 (i : Int), .pointer (some ⟨a, 0, none⟩)] W (r7v (bx8 ((l.map (·.ds)).getD i [])))) := Lib.hid (fun a i W hb hi ha => by
    have h2 := around1_any l b o c a i W hi ha (hL.below hb (Nat.le_refl _)) (fun s hs => h.2.1 s hs)
    rwa [show (l.map (·.ds)).getD i [] = l[i].ds by rw [List.getD_eq_getElem?_getD, List.getElem?_map, List.getElem?_eq_getElem hi]; rfl])
  have HBD : Hid (∀ i, i < l.length → bnd8 (bx8 ((l.map (·.ds)).getD i []))) := Lib.hid (fun i hi => by
    rw [show (l.map (·.ds)).getD i [] = l[i].ds by rw [List.getD_eq_getElem?_getD, List.getElem?_map, List.getElem?_eq_getElem hi]; rfl]
    exact bx8_bnd (h.2.1 _ (List.getElem_mem hi)).1)
  obtain ⟨n, hn⟩ : ∃ n, n = l.length := ⟨_, rfl⟩
  obtain ⟨r, hr⟩ : ∃ r, r = ar8 l := ⟨_, rfl⟩
  have HRC : Hid (∀ (a : Nat) (W : World), Below w.heap.size w W → (∀ W', Below W.heap.size W W' → W'.cell? ⟨a, 0, none⟩ = some (.slice (some ⟨b, o, none⟩) n c)) → Yl 80 #[.int .i64 (n : Int), .func (.func 78) #[] #[.pointer (some ⟨a, 0, none⟩)], .func (.func 81) #[] #[]] W (r7v r)) := Lib.hid (fun a W hb ha => by
    rw [hn] at ha ⊢
    rw [hr]
    unfold ar8
    rcases hl with h1 | h1
    · rw [if_pos h1, h1]
      exact rcomb8_one a _ W (fun W' hb' => HE.out a 0 W' (hb.trans (hb'.mono hb.size)) (by omega) (ha W' hb'))
    · rw [if_neg (by omega), h1]
      exact rcomb8_two a _ _ W (HBD.out 0 (by omega)) (HBD.out 1 (by omega)) (fun W' hb' => HE.out a 0 W' (hb.trans (hb'.mono hb.size)) (by omega) (ha W' hb')) (fun W' hb' => HE.out a 1 W' (hb.trans (hb'.mono hb.size)) (by omega) (ha W' hb')))
  rw [← hn, ← hr]
  clear hr hn hL h hl HE HBD
  have S_0 : Hid (Blk ((w.alloc (.cells #[.slice (some ⟨b, o, none⟩) n c] 30)).alloc (.cells #[.int .i64 0, .int .i64 0, .int .i64 0, .int .i64 0] 38)) w.heap.size 30 #[.slice (some ⟨b, o, none⟩) n c]) := allocs_blk [(#[.slice (some ⟨b, o, none⟩) n c], 30), (#[.int .i64 0, .int .i64 0, .int .i64 0, .int .i64 0], 38)] w 0 _ rfl
  have Z_0 : Hid (Blk ((w.alloc (.cells #[.slice (some ⟨b, o, none⟩) n c] 30)).alloc (.cells #[.int .i64 0, .int .i64 0, .int .i64 0, .int .i64 0] 38)) (w.heap.size + 1) 38 #[.int .i64 0, .int .i64 0, .int .i64 0, .int .i64 0]) := allocs_blk [(#[.slice (some ⟨b, o, none⟩) n c], 30), (#[.int .i64 0, .int .i64 0, .int .i64 0, .int .i64 0], 38)] w 1 _ rfl
  have HB_0 : Hid (Below w.heap.size w ((w.alloc (.cells #[.slice (some ⟨b, o, none⟩) n c] 30)).alloc (.cells #[.int .i64 0, .int .i64 0, .int .i64 0, .int .i64 0] 38))) := allocs_below [(#[.slice (some ⟨b, o, none⟩) n c], 30), (#[.int .i64 0, .int .i64 0, .int .i64 0, .int .i64 0], 38)] w (Below.refl w.heap.size w) (Nat.le_refl _)
  go_enter Tryd.func49, Tryd.ntmps49
  have yy0 := S_0.out.cell (i := 0) (v := .slice (some ⟨b, o, none⟩) n c) rfl
  go_wp2_with fail
  refine (HRC.out _ _ HB_0.out (fun W hb => (S_0.out.below hb S_0.out.lt).cell (i := 0) rfl)).mono ?_
  rintro e v0 ⟨rfl, hb⟩
  clear yy0
  have S_1 : Hid (Blk v0 w.heap.size 30 #[.slice (some ⟨b, o, none⟩) n c]) := Lib.hid (S_0.out.below hb S_0.out.lt)
  have Z_1 : Hid (Blk v0 (w.heap.size + 1) 38 #[.int .i64 0, .int .i64 0, .int .i64 0, .int .i64 0]) := Lib.hid (Z_0.out.below hb Z_0.out.lt)
  have HB_1 : Hid (Below w.heap.size w v0) := Lib.hid (HB_0.out.trans (hb.mono HB_0.out.size))
  clear hb S_0 Z_0 HB_0
  obtain ⟨x, y, ww, hh⟩ := r
  have r0 := Z_1.out.cell (i := 0) (v := .int .i64 0) rfl; have f0 := Z_1.out.frozen 0
  have r1 := Z_1.out.cell (i := 1) (v := .int .i64 0) rfl; have f1 := Z_1.out.frozen 1
  have r2 := Z_1.out.cell (i := 2) (v := .int .i64 0) rfl; have f2 := Z_1.out.frozen 2
  have r3 := Z_1.out.cell (i := 3) (v := .int .i64 0) rfl; have f3 := Z_1.out.frozen 3
  go_wp2_with fail
  clear r0 f0 r1 f1 r2 f2 r3 f3
  have HFZ := Lib.hid ((((Z_1.out.set 0 (.int .i64 x)).set 1 (.int .i64 y)).set 2 (.int .i64 ww)).set 3 (.int .i64 hh))
  have rZ0 := HFZ.out.cell (i := 0) (v := .int .i64 x) rfl
  have rZ1 := HFZ.out.cell (i := 1) (v := .int .i64 y) rfl
  have rZ2 := HFZ.out.cell (i := 2) (v := .int .i64 ww) rfl
  have rZ3 := HFZ.out.cell (i := 3) (v := .int .i64 hh) rfl
  exact bodyPost_ret (v := .agg #[.int .i64 x, .int .i64 y, .int .i64 ww, .int .i64 hh]) (by simp [results, Tryd.results49, go_sem, rZ0, rZ1, rZ2, rZ3]) rfl ⟨rfl, ((((HB_1.out.setCell (p := ⟨(w.heap.size + 1), 0, none⟩) (by show w.heap.size ≤ (w.heap.size + 1); omega) (.int .i64 x)).setCell (p := ⟨(w.heap.size + 1), 1, none⟩) (by show w.heap.size ≤ (w.heap.size + 1); omega) (.int .i64 y)).setCell (p := ⟨(w.heap.size + 1), 2, none⟩) (by show w.heap.size ≤ (w.heap.size + 1); omega) (.int .i64 ww)).setCell (p := ⟨(w.heap.size + 1), 3, none⟩) (by show w.heap.size ≤ (w.heap.size + 1); omega) (.int .i64 hh))⟩
end Go.Proofs.YtmjcjaecaigahaaDoor
