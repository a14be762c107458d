/- The contract of the reference's Kept. Conditions: the slices read. | Strokes that are moved and turned: what stays. No conditions. | The contract of jumpsOf. Conditions: dots on the board; a tolerance. -/
import Derived.Deep.CutBlock
import Derived.Deep.CutRange
import Derived.Test.YtmjcjaecaigahaaDoorLK
import Derived.Test.YtmjcjaecaigahaaDoorLF
import Derived.Test.YtmjcjaecaigahaaDoorLC
import Derived.Test.YtmjcjaecaigahaaDoorLJ
import Derived.Test.YtmjcjaecaigahaaDoorLG
namespace Go.Proofs.YtmjcjaecaigahaaDoor
open Go.RowKit Go.Lib Go.Shelf

/-- The index at place i is one, and greater than the one before. -/
def OkK (n : Nat) (l : List Int) (i : Nat) : Prop := ∀ k, l[i]? = some k → (0 ≤ k ∧ k < (n : Int)) ∧ (0 < i → ∀ a, l[i - 1]? = some a → a < k)
def KeptP (P N : Int) (ds : List Dt) (l : List Int) : Prop := Vd P N ds ∧ (1 ≤ l.length ∧ l.length ≤ ds.length) ∧ ∀ i, i < l.length → OkK ds.length l i
/-- The dots at the indices. -/
def keptD (ds : List Dt) (l : List Int) : List Dt := l.map fun k => ds.getD k.toNat ⟨0, 0, 0, 0⟩
end Go.Proofs.YtmjcjaecaigahaaDoor
namespace Go.Proofs.YtmjcjaecaigahaaDoor
open Go.RowKit Go.Lib

theorem Vd.map {P N : Int} {ds : List Dt} {f : Dt → Dt} (h : Vd P N ds) (hok : ∀ d ∈ ds, d.ok → (f d).ok) (ht : ∀ d, (f d).t = d.t) : Vd P N (ds.map f) := by
  refine ⟨h.1, h.2.1, by rw [List.length_map]; exact h.2.2.1, fun i hi d hd => ?_⟩
  rw [List.length_map] at hi
  rw [List.getElem?_map] at hd
  obtain ⟨d0, h0, rfl⟩ := Option.map_eq_some_iff.1 hd
  obtain ⟨h1, h2⟩ := h.2.2.2 i hi d0 h0
  refine ⟨hok d0 (List.mem_of_getElem? h0) h1, fun e he => ?_⟩
  rw [List.getElem?_map] at he
  obtain ⟨e0, h3, rfl⟩ := Option.map_eq_some_iff.1 he
  rw [ht, ht]; exact h2 e0 h3
theorem trn_one (d : Dt) : trn 1 d = ⟨4095 - d.y, d.x, d.t, d.p⟩ := rfl
theorem betw_next (ds : List Dt) (z : Int) (i : Nat) : BetwP ds z i (i + 1) := fun n h1 h2 => by omega
/-- The box moves, and turns. -/
theorem IsBox.moved {ds : List Dt} {x y w h : Int} (a b : Int) (hb : IsBox ds x y w h) : IsBox (ds.map (mvd a b)) (x + a) (y + b) w h := by
  obtain ⟨h0, ⟨d1, m1, e1⟩, ⟨d2, m2, e2⟩, ⟨d3, m3, e3⟩, ⟨d4, m4, e4⟩⟩ := hb
  refine ⟨fun d hd => ?_, ⟨_, List.mem_map_of_mem m1, by simp only [mvd]; omega⟩, ⟨_, List.mem_map_of_mem m2, by simp only [mvd]; omega⟩, ⟨_, List.mem_map_of_mem m3, by simp only [mvd]; omega⟩, ⟨_, List.mem_map_of_mem m4, by simp only [mvd]; omega⟩⟩
  obtain ⟨d0, hd0, rfl⟩ := List.mem_map.1 hd
  have := h0 d0 hd0
  simp only [mvd]; omega
theorem IsBox.turned {ds : List Dt} {x y w h : Int} (hb : IsBox ds x y w h) : IsBox (ds.map (trn 1)) (4095 - y - h) x h w := by
  obtain ⟨h0, ⟨d1, m1, e1⟩, ⟨d2, m2, e2⟩, ⟨d3, m3, e3⟩, ⟨d4, m4, e4⟩⟩ := hb
  refine ⟨fun d hd => ?_, ⟨_, List.mem_map_of_mem m4, by simp only [trn_one]; omega⟩, ⟨_, List.mem_map_of_mem m3, by simp only [trn_one]; omega⟩, ⟨_, List.mem_map_of_mem m1, by simp only [trn_one]; omega⟩, ⟨_, List.mem_map_of_mem m2, by simp only [trn_one]; omega⟩⟩
  obtain ⟨d0, hd0, rfl⟩ := List.mem_map.1 hd
  have := h0 d0 hd0
  simp only [trn_one]; omega
/-- The box of some of the dots is in the box of all. -/
theorem IsBox.sub {ds es : List Dt} {x y w h x2 y2 w2 h2 : Int} (hs : ∀ d ∈ es, d ∈ ds) (a : IsBox ds x y w h) (b : IsBox es x2 y2 w2 h2) : x ≤ x2 ∧ y ≤ y2 ∧ x2 + w2 ≤ x + w ∧ y2 + h2 ≤ y + h := by
  obtain ⟨a0, _⟩ := a
  obtain ⟨_, ⟨f1, n1, g1⟩, ⟨f2, n2, g2⟩, ⟨f3, n3, g3⟩, ⟨f4, n4, g4⟩⟩ := b
  have := a0 _ (hs _ n1); have := a0 _ (hs _ n2); have := a0 _ (hs _ n3); have := a0 _ (hs _ n4)
  omega
theorem KeptP.sub {P N : Int} {ds : List Dt} {l : List Int} (h : KeptP P N ds l) : ∀ d ∈ keptD ds l, d ∈ ds := fun d hd => by
  obtain ⟨k, hk, rfl⟩ := List.mem_map.1 hd
  obtain ⟨i, hi, rfl⟩ := List.getElem_of_mem hk
  have h1 := (h.2.2 i hi _ (List.getElem?_eq_getElem hi)).1
  have h2 : (l[i]).toNat < ds.length := by omega
  rw [List.getD_eq_getElem?_getD, List.getElem?_eq_getElem h2]
  exact List.getElem_mem h2
theorem vd_asc {P N : Int} {ds : List Dt} (h : Vd P N ds) : ∀ (n i : Nat) (d e : Dt), ds[i]? = some d → ds[i + n]? = some e → d.t ≤ e.t
  | 0, i, d, e, h1, h2 => by rw [Nat.add_zero, h1] at h2; cases h2; exact Int.le_refl _
  | n + 1, i, d, e, h1, h2 => by
    have hl := (List.getElem?_eq_some_iff.1 h2).1
    have h3 := vd_asc h n i d _ h1 (List.getElem?_eq_getElem (show i + n < ds.length by omega))
    have h4 := (h.2.2.2 (i + (n + 1)) hl e h2).2 (ds[i + n]'(by omega)) (by rw [show i + (n + 1) - 1 = i + n by omega]; exact List.getElem?_eq_getElem _)
    omega
theorem KeptP.vd {P N : Int} {ds : List Dt} {l : List Int} (h : KeptP P N ds l) : Vd P N (keptD ds l) := by
  have hlen : (keptD ds l).length = l.length := by unfold keptD; rw [List.length_map]
  refine ⟨h.1.1, h.1.2.1, by rw [hlen]; have := h.1.2.2.1; have := h.2.1; omega, fun i hi d hd => ⟨h.1.mem d (h.sub d (List.mem_of_getElem? hd)), fun e he => ?_⟩⟩
  rw [hlen] at hi
  have hat : ∀ j d, (keptD ds l)[j]? = some d → ∃ k : Int, l[j]? = some k ∧ (0 ≤ k ∧ k < (ds.length : Int)) ∧ ds[k.toNat]? = some d := fun j d hj => by
    unfold keptD at hj
    rw [List.getElem?_map] at hj
    obtain ⟨k, hk, rfl⟩ := Option.map_eq_some_iff.1 hj
    have h1 := (h.2.2 j (List.getElem?_eq_some_iff.1 hk).1 k hk).1
    refine ⟨k, hk, h1, ?_⟩
    have h2 : k.toNat < ds.length := by omega
    rw [List.getD_eq_getElem?_getD, List.getElem?_eq_getElem h2]; rfl
  obtain ⟨k, hk, hkr, hkd⟩ := hat i d hd
  obtain ⟨m, hm, hmr, hmd⟩ := hat (i - 1) e he
  by_cases h0 : 0 < i
  · have hlt := (h.2.2 i hi k hk).2 h0 m hm
    have := vd_asc h.1 (k.toNat - m.toNat) m.toNat e d hmd (by rw [show m.toNat + (k.toNat - m.toNat) = k.toNat by omega]; exact hkd)
    exact this
  · have : i - 1 = i := by omega
    rw [this, hd] at he
    cases he
    exact Int.le_refl _
end Go.Proofs.YtmjcjaecaigahaaDoor
namespace Go.Proofs.YtmjcjaecaigahaaDoor
open Go.RowKit Go.Lib Go.Shelf

theorem results_cellv {P : Program} {fn : Func} {a : Tmp} {ty : TypeId} (h : fn.results = #[.cell a ty]) (tmps : Array Value) (ad : Addr) (v : Value) (w : World) (ha : tmps.getD a undef = .pointer (some ad)) (hl : (loadVar ty ad).run P w = .ok v w) : (results fn tmps).run P w = .ok v w := by
  have ha2 : tmps[a]?.getD undef = .pointer (some ad) := by simpa using ha
  unfold results
  rw [h]
  simp [ha2, asAddr, hl]
theorem upd_upd (f : Nat → Int) (i : Nat) (u v : Int) : upd (upd f i u) i v = upd f i v := by
  funext j; unfold upd; split <;> rfl
/-- Part of the dots. -/
theorem dz_part {w : World} {b o : Nat} {ds : List Dt} (h : Dz w (some ⟨b, o, none⟩) ds) {i n : Nat} (hn : i + n ≤ ds.length) : Dz w (some ⟨b, o + i * 4, none⟩) ((ds.drop i).take n) := fun h0 => by
  rw [List.length_take, List.length_drop] at h0
  obtain ⟨b2, o2, he, hl, hc⟩ := h (by omega)
  obtain ⟨rfl, rfl, -⟩ : b = b2 ∧ o = o2 ∧ True := by simpa using he
  refine ⟨b, o + i * 4, rfl, hl, fun j hj => ?_⟩
  rw [List.length_take, List.length_drop] at hj
  obtain ⟨k0, k1, k2, k3⟩ := hc (i + j) (by omega)
  rw [show o + (i + j) * 4 = o + i * 4 + j * 4 from by omega] at k0 k1 k2 k3
  rw [List.getElem_take, List.getElem_drop]
  exact ⟨k0, k1, k2, k3⟩
theorem betw_part {ds : List Dt} {z : Int} {i m : Nat} (h : i < m) (hm : m < ds.length) : BetwP ((ds.drop i).take (m + 1 - i)) z 0 (((ds.drop i).take (m + 1 - i)).length - 1) ↔ BetwP ds z i m := by
  have hat : ∀ j, j < m + 1 - i → ((ds.drop i).take (m + 1 - i))[j]? = ds[i + j]? := fun j hj => by rw [List.getElem?_take_of_lt hj, List.getElem?_drop]
  rw [show ((ds.drop i).take (m + 1 - i)).length - 1 = m - i from by rw [List.length_take, List.length_drop]; omega]
  constructor
  · intro h1 n h2 h3 d e f h4 h5 h6
    refine h1 (n - i) (by omega) (by omega) d e f ?_ ?_ ?_
    · rw [hat _ (by omega)]; simpa using h4
    · rw [hat _ (by omega), show i + (m - i) = m from by omega]; exact h5
    · rw [hat _ (by omega), show i + (n - i) = n from by omega]; exact h6
  · intro h1 n h2 h3 d e f h4 h5 h6
    rw [hat _ (by omega)] at h4 h5 h6
    refine h1 (i + n) (by omega) (by omega) d e f ?_ ?_ h6
    · simpa using h4
    · rw [show i + (m - i) = m from by omega] at h5; exact h5
set_option maxRecDepth 100000 in
set_option maxHeartbeats 8000000 in
theorem pjumps_any (ds : List Dt) (A : Option Addr) (c : Nat) (z : Int) (w : World) (hA : Dz w A ds) (hl : 1 ≤ ds.length ∧ ds.length ≤ 200) (hc : ds.length ≤ c) (hon : ∀ d ∈ ds, OnP d.x d.y) (hz : 0 ≤ z ∧ z ≤ 1000) :
    Calls Tryd.prog 97 #[.slice A ds.length c, .int .i64 z] w fun e w' => ∃ T C, e = .returned (.agg (jc T C).toArray) ∧ Known (BetwP ds z) (ds.length - 1) T C 0 ∧ Below w.heap.size w w' := by
  obtain ⟨b, o, rfl⟩ := hA.some (by omega)
  obtain ⟨n, hn⟩ : ∃ n, n = ds.length - 1 := ⟨_, rfl⟩
  have HSE : Hid (∀ i m W, i < m → m ≤ n → Below w.heap.size w W → Calls Tryd.prog 99 #[.slice (some ⟨b, o + i * 4, none⟩) (m + 1 - i) (c - i), .int .i64 z] W fun e w' => e = .returned (.bool (decide (BetwP ds z i m))) ∧ Below W.heap.size W w') := Lib.hid (fun i m W h1 h2 hb => by
    have hlen : ((ds.drop i).take (m + 1 - i)).length = m + 1 - i := by rw [List.length_take, List.length_drop]; omega
    have h3 := psays_any ((ds.drop i).take (m + 1 - i)) (some ⟨b, o + i * 4, none⟩) (c - i) z W (dz_part (hA.below hb (Nat.le_refl _)) (by omega)) (by rw [hlen]; omega) (by rw [hlen]; omega) (fun d hd => hon d (List.mem_of_mem_drop (List.mem_of_mem_take hd))) hz
    rw [decide_eq_decide.2 (betw_part h1 (by omega)), hlen] at h3
    exact h3)
  have e1 : IntKind.i64.wrap ((ds.length : Int) - 1) = (n : Int) := by rw [IntWalk.i64_in _ (by omega)]; omega
  have hn2 : n < 200 := by omega
  have HN : Hid (n < 200 ∧ n + 1 ≤ c) := Lib.hid ⟨hn2, by omega⟩
  rw [← hn]
  clear hA hl hc hon hz hn
  go_enter Tryd.func97, Tryd.ntmps97
  go_upto_region 3 with fail
  have R_0 : Hid (Blk ((w.alloc (.cells Tryd.zeroCells126 126)).alloc (.cells Tryd.zeroCells126 126)) w.heap.size 126 Tryd.zeroCells126) := Lib.hid ((Blk.new w _ _).alloc _)
  have J_0 : Hid (Blk ((w.alloc (.cells Tryd.zeroCells126 126)).alloc (.cells Tryd.zeroCells126 126)) (w.heap.size + 1) 126 (jc (fun _ => 0) (fun _ => 0)).toArray) := Lib.hid (by rw [← zero_jumps]; have h := Blk.new (w.alloc (.cells Tryd.zeroCells126 126)) 126 Tryd.zeroCells126; rwa [World.size_alloc] at h)
  have HB_0 : Hid (Below w.heap.size w ((w.alloc (.cells Tryd.zeroCells126 126)).alloc (.cells Tryd.zeroCells126 126))) := Lib.hid (((Below.refl _ _).alloc (Nat.le_refl _) _).alloc (by simp) _)
  go_cut [] from 14 to 16 (fun wx => Blk wx w.heap.size 126 Tryd.zeroCells126 ∧ Blk wx (w.heap.size + 1) 126 (jc (fun _ => 0) (upd (fun _ => 0) n 1)).toArray ∧ Below w.heap.size w wx)
  case first =>
    have q0 : n * 2 + 1 < 400 := by omega
    have z0 := J_0.out.cell (i := n * 2 + 1) (v := .int .i64 0) (jc_cnt hn2); have f0 := J_0.out.frozen (n * 2 + 1)
    have q1 : (0 : Int) ≤ (n : Int) := by omega
    have q2 : (n : Int) < 200 := by omega
    go_wp2_with fail
    clear z0 f0
    go_meet
    have hz : Tryd.zeroCells126.setIfInBounds (n * 2 + 1) (.int .i64 1) = (jc (fun _ => 0) (upd (fun _ => 0) n 1)).toArray := by rw [zero_jumps, jc_setCnt]
    refine ⟨(Blk.new w _ _).alloc _, ?_, ((Below.refl _ _).alloc (Nat.le_refl _) _).alloc (by simp) _⟩
    have h := Blk.new (w.alloc (.cells Tryd.zeroCells126 126)) 126 (Tryd.zeroCells126.setIfInBounds (n * 2 + 1) (.int .i64 1))
    rw [World.size_alloc] at h
    rw [← hz]
    exact h
  case rest =>
    obtain ⟨hR, hJ, hB⟩ := hcut
    rename World => wc
    clear R_0 J_0 HB_0
    have HR := Lib.hid hR; have HJ := Lib.hid hJ; have HB := Lib.hid hB; clear hR hJ hB
    go_wp2_with fail
    go_loopw [18] (fun ii wr => ∃ (s : Nat) (T C : Nat → Int), ii = .int .i64 s ∧ s ≤ n ∧ Known (BetwP ds z) n T C (n - s) ∧ (∀ k, k ≤ n → 0 ≤ C k ∧ C k ≤ 1 + ((n : Int) - k)) ∧ Blk wr w.heap.size 126 Tryd.zeroCells126 ∧ Blk wr (w.heap.size + 1) 126 (jc T C).toArray ∧ Below w.heap.size w wr) (fun ii _ => n - (intOf ii).toNat)
    case atStart =>
      refine ⟨0, _, _, rfl, Nat.zero_le _, Known.last (upd_same _ _ _), fun k hk => ?_, HR.out, HJ.out, HB.out⟩
      by_cases hkn : k = n
      · rw [hkn, upd_same]; omega
      · rw [upd_ne hkn]; omega
    case round =>
      clear HR HJ HB
      obtain ⟨s, T, C, rfl, hs, hkn, hcb, hR, hJ, hB⟩ := hrel
      have HR := Lib.hid hR; have HJ := Lib.hid hJ; have HB := Lib.hid hB; have HKN := Lib.hid hkn; have HCB := Lib.hid hcb; clear hR hJ hB hkn hcb
      by_cases hlt : s < n
      case neg =>
        obtain rfl : s = n := by omega
        have hni : ¬ ((s : Int) < (s : Int)) := by omega
        have hk0 : Known (BetwP ds z) s T C 0 := by have h := HKN.out; rwa [Nat.sub_self] at h
        have HK0 := Lib.hid hk0; clear hk0 hs hlt
        have hz4 : Tryd.zeroCells126.size = 400 := by rw [zero_jumps]; simp [jc_length]
        have hth : wr.there w.heap.size 0 400 := by have h := there_of_blk HR.out; rwa [hz4] at h
        have hst : (storeCells ⟨w.heap.size, 0, none⟩ (jc T C)).run Tryd.prog wr = .ok () (wr.setCells w.heap.size 0 (jc T C)) := by
          have h := run_storeCells_cells (P := Tryd.prog) w.heap.size 0 (jc T C) 0 wr (fun j hj => by rw [jc_length] at hj; simpa using (hth j hj).1) (fun j hj => by rw [jc_length] at hj; simpa using (hth j hj).2) (fun v hv => by have h2 := jc_one T C; exact (Array.all_eq_true_iff_forall_mem.1 h2) v (by simpa using hv))
          simpa using h
        have HTH := Lib.hid hth; clear hth hz4
        go_wp2_with (refine wpList_load_mid rfl 126 _ rfl (w.heap.size + 1) 0 rfl (jc T C) _ (range_of_blk HJ.out) Tryd.underlying126 rfl (show (Tryd.prog.info? 126).map (·.size) = some _ from by rw [jc_length]; kernel_rfl) ?_)
        have hld : (loadVar 126 ⟨w.heap.size, 0, none⟩).run Tryd.prog (wr.setCells w.heap.size 0 (jc T C)) = .ok (.agg (jc T C).toArray) (wr.setCells w.heap.size 0 (jc T C)) := run_loadVar_mid _ _ _ _ _ _ (World.rangeAt_setCells_same wr w.heap.size 0 (jc T C) (by rw [jc_length]; exact HTH.out)) Tryd.underlying126 rfl (show (Tryd.prog.info? 126).map (·.size) = some _ from by rw [jc_length]; kernel_rfl)
        exact bodyPost_ret (v := .agg (jc T C).toArray) (results_cellv rfl _ ⟨w.heap.size, 0, none⟩ _ _ rfl hld) rfl ⟨T, C, rfl, HK0.out, below_cellsS (Nat.le_refl _) _ _ _ HB.out⟩
      case pos =>
        obtain ⟨i, hi⟩ : ∃ i, i = n - (s + 1) := ⟨_, rfl⟩
        obtain ⟨i1, hi1⟩ : ∃ m, m = i + 1 := ⟨_, rfl⟩
        obtain ⟨i2, hi2⟩ : ∃ m, m = i + 2 := ⟨_, rfl⟩
        have HII : Hid (i1 = i + 1 ∧ i2 = i + 2 ∧ i1 ≤ n ∧ n - s = i + 1 ∧ i = n - (s + 1)) := Lib.hid ⟨hi1, hi2, by omega, by omega, hi⟩
        have hcb1 := HCB.out i1 (by omega)
        obtain ⟨c1, hc1⟩ : ∃ v, v = C i1 := ⟨_, rfl⟩
        obtain ⟨v1, hv1⟩ : ∃ v, v = 1 + c1 := ⟨_, rfl⟩
        have HC1 : Hid (c1 = C i1 ∧ v1 = 1 + c1 ∧ 0 ≤ c1 ∧ c1 ≤ 1 + ((n : Int) - i1)) := Lib.hid ⟨hc1, hv1, by omega, by omega⟩
        have a1 : IntKind.i64.wrap ((n : Int) - 1) = (n : Int) - 1 := IntWalk.i64_in _ (by omega)
        have a2 : IntKind.i64.wrap ((n : Int) - 1 - (s : Int)) = (i : Int) := by rw [IntWalk.i64_in _ (by omega)]; omega
        have a3 : IntKind.i64.wrap ((i : Int) + 1) = (i1 : Int) := by rw [IntWalk.i64_in _ (by omega)]; omega
        have a4 : IntKind.i64.wrap ((i : Int) + 2) = (i2 : Int) := by rw [IntWalk.i64_in _ (by omega)]; omega
        have a5 : IntKind.i64.wrap (1 + c1) = v1 := by rw [IntWalk.i64_in _ (by omega)]; omega
        have b1 : (0 : Int) ≤ (i1 : Int) := by omega
        have b2 : (i1 : Int) < 200 := by omega
        have b3 : (0 : Int) ≤ (i : Int) := by omega
        have b4 : (i : Int) < 200 := by omega
        have j1 := HJ.out.cell (i := i1 * 2 + 1) (v := .int .i64 c1) (by rw [hc1]; exact jc_cnt (by omega))
        have j2 := HJ.out.cell (i := i * 2) (v := .int .i64 (T i)) (jc_to (by omega)); have j3 := HJ.out.cell (i := i * 2 + 1) (v := .int .i64 (C i)) (jc_cnt (by omega))
        have f2 := HJ.out.frozen (i * 2); have f3 := HJ.out.frozen (i * 2 + 1)
        have HLT := Lib.hid hlt
        clear hi hi1 hi2 hc1 hv1 hcb1 hs
        have hlti : (s : Int) < (n : Int) := by omega
        go_upto_block 2 with fail
        clear hlti hlt
        clear a1 a2 a3 a4 a5 b1 b2 j1 j2 j3 f2 f3
        have J_9 : Hid (Blk ((wr.setCell ⟨w.heap.size + 1, i * 2, none⟩ (.int .i64 (i1 : Nat))).setCell ⟨w.heap.size + 1, i * 2 + 1, none⟩ (.int .i64 v1)) (w.heap.size + 1) 126 (jc (upd T i (i1 : Nat)) (upd C i (1 + C i1))).toArray) := Lib.hid (by have h := (HJ.out.set (i * 2) (.int .i64 (i1 : Nat))).set (i * 2 + 1) (.int .i64 v1); rw [jc_setTo, jc_setCnt] at h; rw [show (1 + C i1) = v1 from by have := HC1.out; omega]; exact h)
        have R_9 : Hid (Blk ((wr.setCell ⟨w.heap.size + 1, i * 2, none⟩ (.int .i64 (i1 : Nat))).setCell ⟨w.heap.size + 1, i * 2 + 1, none⟩ (.int .i64 v1)) w.heap.size 126 Tryd.zeroCells126) := Lib.hid ((HR.out.far (p := ⟨w.heap.size + 1, i * 2, none⟩) (by show w.heap.size ≠ w.heap.size + 1; omega) _).far (p := ⟨w.heap.size + 1, i * 2 + 1, none⟩) (by show w.heap.size ≠ w.heap.size + 1; omega) _)
        have B_9 : Hid (Below w.heap.size w ((wr.setCell ⟨w.heap.size + 1, i * 2, none⟩ (.int .i64 (i1 : Nat))).setCell ⟨w.heap.size + 1, i * 2 + 1, none⟩ (.int .i64 v1))) := Lib.hid ((HB.out.setCell (p := ⟨w.heap.size + 1, i * 2, none⟩) (by show w.heap.size ≤ w.heap.size + 1; omega) _).setCell (p := ⟨w.heap.size + 1, i * 2 + 1, none⟩) (by show w.heap.size ≤ w.heap.size + 1; omega) _)
        clear HR HJ HB
        go_wp2_with fail
        go_loopw [9] (fun tt wr2 => ∃ (m k : Nat), tt = .int .i64 m ∧ i2 ≤ m ∧ m ≤ n + 1 ∧ BestN (BetwP ds z) C i m k ∧ Blk wr2 w.heap.size 126 Tryd.zeroCells126 ∧ Blk wr2 (w.heap.size + 1) 126 (jc (upd T i (k : Nat)) (upd C i (1 + C k))).toArray ∧ Below w.heap.size w wr2) (fun tt _ => n + 1 - (intOf tt).toNat)
        case atStart => exact ⟨i2, i1, rfl, Nat.le_refl _, by have := HII.out; omega, by have h := BestN.first (B := BetwP ds z) (C := C) (i := i) (betw_next _ _ _); obtain ⟨h1, h2, -⟩ := HII.out; rwa [← h1, ← h2] at h, R_9.out, J_9.out, B_9.out⟩
        case round =>
          clear J_9 R_9 B_9
          obtain ⟨m, k, rfl, hm1, hm2, hbn, hR, hJ, hB⟩ := hrel
          have HR := Lib.hid hR; have HJ := Lib.hid hJ; have HB := Lib.hid hB; have HBN := Lib.hid hbn; clear hR hJ hB hbn
          by_cases hlm : m ≤ n
          case neg =>
            have HME : Hid (m = n + 1) := Lib.hid (by omega)
            have hni : ¬ ((m : Int) ≤ (n : Int)) := by omega
            clear hm1 hm2 hlm
            have HKS : Hid (Known (BetwP ds z) n (upd T i (k : Nat)) (upd C i (1 + C k)) i) := Lib.hid (Known.step (by have h := HKN.out; rwa [HII.out.2.2.2.1] at h) (by have := HII.out; omega) (by have h := HBN.out; rwa [HME.out] at h))
            have HCK : Hid (∀ q, q ≤ n → 0 ≤ upd C i (1 + C k) q ∧ upd C i (1 + C k) q ≤ 1 + ((n : Int) - q)) := Lib.hid (fun q hq => by
              have h1 := HBN.out.1
              have h3 := HME.out
              have h2 := HCB.out k (by omega)
              by_cases hqi : q = i
              · rw [hqi, upd_same]; omega
              · rw [upd_ne hqi]; exact HCB.out q hq)
            have q5 : (s : Int) + 1 ≤ 9223372036854775807 := by have := HN.out; have := HLT.out; omega
            go_wp2_with fail
            go_roundw
            case rel => exact ⟨s + 1, _, _, by go_num, by have := HLT.out; omega, by rw [← HII.out.2.2.2.2]; exact HKS.out, HCK.out, HR.out, HJ.out, HB.out⟩
            case measure => have := HLT.out; simp [intOf]; omega
          case pos =>
            have hkm := HBN.out.1
            have hin := HII.out
            obtain ⟨m1, hm⟩ : ∃ q, q = m + 1 := ⟨_, rfl⟩
            have hcm := HCB.out m hlm; have hck := HCB.out k (by omega)
            obtain ⟨cm, hcm1⟩ : ∃ v, v = C m := ⟨_, rfl⟩
            obtain ⟨ck, hck1⟩ : ∃ v, v = C k := ⟨_, rfl⟩
            obtain ⟨vm, hvm⟩ : ∃ v, v = 1 + cm := ⟨_, rfl⟩
            obtain ⟨vk, hvk⟩ : ∃ v, v = 1 + ck := ⟨_, rfl⟩
            have HCM : Hid (cm = C m ∧ ck = C k ∧ vm = 1 + cm ∧ vk = 1 + ck) := Lib.hid ⟨hcm1, hck1, hvm, hvk⟩
            have HMM : Hid (m ≤ n ∧ i2 ≤ m ∧ m1 = m + 1) := Lib.hid ⟨hlm, hm1, hm⟩
            have a1 : IntKind.i64.wrap (1 + cm) = vm := by rw [IntWalk.i64_in _ (by omega)]; omega
            have a2 : IntKind.i64.wrap ((m : Int) + 1) = (m1 : Int) := by rw [IntWalk.i64_in _ (by omega)]; omega
            have b1 : (0 : Int) ≤ (m : Int) := by omega
            have b2 : (m : Int) < 200 := by omega
            have lm : (m : Int) ≤ (n : Int) := by omega
            have j1 := HJ.out.cell (i := m * 2 + 1) (v := .int .i64 cm) (by rw [hcm1]; have h := jc_cnt (T := upd T i (k : Nat)) (C := upd C i (1 + C k)) (i := m) (by omega); rwa [upd_ne (by omega)] at h)
            have j2 := HJ.out.cell (i := i * 2 + 1) (v := .int .i64 vk) (by rw [show vk = 1 + C k from by omega]; have h := jc_cnt (T := upd T i (k : Nat)) (C := upd C i (1 + C k)) (i := i) (by omega); rwa [upd_same] at h)
            have q5 : (m : Int) + 1 ≤ 9223372036854775807 := by omega
            have HTI : Hid (i < 200 ∧ i < m) := Lib.hid ⟨by omega, by omega⟩
            by_cases hlt2 : vm < vk
            case neg =>
              have HKEEP := Lib.hid (HBN.out.keep (fun h => hlt2 (by have := h.1; omega)))
              have hundef := un_none
              clear hkm hin hm hcm hck hcm1 hck1 hvm hvk hm1 hm2 hlm
              go_wp2_with fail
              go_roundw
              case rel => exact ⟨m1, k, by have := HMM.out; go_num, by have := HMM.out; omega, by have := HMM.out; omega, by have h := HKEEP.out; rwa [← HMM.out.2.2] at h, HR.out, HJ.out, HB.out⟩
              case measure => have := HMM.out; simp [intOf]; omega
            case pos =>
              have s1 : (i : Int) ≤ (m1 : Int) := by omega
              have s2 : (m1 : Int) ≤ (c : Int) := by have := HN.out; omega
              have s3 : ¬ c = i := by have := HN.out; omega
              have HCA := Lib.hid (HSE.out i m wr (by omega) hlm HB.out)
              have HLT2 := Lib.hid hlt2
              rw [← hm] at HCA
              by_cases hbt : BetwP ds z i m
              case neg =>
                rw [decide_eq_false hbt] at HCA
                have HKEEP := Lib.hid (HBN.out.keep (fun h => hbt h.2))
                clear hkm hin hm hcm hck hcm1 hck1 hvm hvk hm1 hm2 hlm hbt
                go_wp2_with fail
                refine HCA.out.mono ?_
                rintro e v5 ⟨rfl, hb⟩
                have HR5 := Lib.hid (HR.out.below hb HR.out.lt); have HJ5 := Lib.hid (HJ.out.below hb HJ.out.lt); have HB5 := Lib.hid (HB.out.trans (hb.mono HB.out.size))
                clear hb j1 j2 HR HJ HB
                go_wp2_with fail
                go_roundw
                case rel => exact ⟨m1, k, by have := HMM.out; go_num, by have := HMM.out; omega, by have := HMM.out; omega, by have h := HKEEP.out; rwa [← HMM.out.2.2] at h, HR5.out, HJ5.out, HB5.out⟩
                case measure => have := HMM.out; simp [intOf]; omega
              case pos =>
                rw [decide_eq_true hbt] at HCA
                have HTURN := Lib.hid (HBN.out.turn (by omega) ⟨by omega, hbt⟩)
                clear hkm hin hm hcm hck hcm1 hck1 hvm hvk hm1 hm2 hlm hbt
                go_wp2_with fail
                refine HCA.out.mono ?_
                rintro e v5 ⟨rfl, hb⟩
                have HR5 := Lib.hid (HR.out.below hb HR.out.lt); have HJ5 := Lib.hid (HJ.out.below hb HJ.out.lt); have HB5 := Lib.hid (HB.out.trans (hb.mono HB.out.size))
                clear hb j1 j2 HR HJ HB
                have j3 := HJ5.out.cell (i := i * 2) (v := .int .i64 (upd T i (k : Nat) i)) (jc_to HTI.out.1); have j4 := HJ5.out.cell (i := i * 2 + 1) (v := .int .i64 (upd C i (1 + C k) i)) (jc_cnt HTI.out.1)
                have f3 := HJ5.out.frozen (i * 2); have f4 := HJ5.out.frozen (i * 2 + 1)
                go_wp2_with fail
                clear j3 j4 f3 f4
                go_roundw
                case rel => exact ⟨m1, m, by have := HMM.out; go_num, by have := HMM.out; omega, by have := HMM.out; omega, by have h := HTURN.out; rwa [← HMM.out.2.2] at h, (HR5.out.far (p := ⟨w.heap.size + 1, i * 2, none⟩) (by show w.heap.size ≠ w.heap.size + 1; omega) _).far (p := ⟨w.heap.size + 1, i * 2 + 1, none⟩) (by show w.heap.size ≠ w.heap.size + 1; omega) _, (by have h := (HJ5.out.set (i * 2) (.int .i64 (m : Nat))).set (i * 2 + 1) (.int .i64 vm); rw [jc_setTo, jc_setCnt, upd_upd, upd_upd] at h; rw [show (1 + C m) = vm from by have := HCM.out; omega]; exact h), (HB5.out.setCell (p := ⟨w.heap.size + 1, i * 2, none⟩) (by show w.heap.size ≤ w.heap.size + 1; omega) _).setCell (p := ⟨w.heap.size + 1, i * 2 + 1, none⟩) (by show w.heap.size ≤ w.heap.size + 1; omega) _⟩
                case measure => have := HMM.out; simp [intOf]; omega
end Go.Proofs.YtmjcjaecaigahaaDoor
