
/- The contract of the statements' spread. Conditions: valid meetings read, a person, an advance that does not overflow. -/
import Derived.Test.YtbcgfohacbapoaaMe6
import Derived.Test.YtbcgfohacbapoaaCs6
namespace Go.Proofs.Ytbcgfohacbapoaa
open Go.RowKit Go.Lib

theorem blk_eq {W : World} {g : Nat} {t : TypeId} {cs cs' : Array Value} (h : Blk W g t cs) (e : cs = cs') : Blk W g t cs' := e ▸ h
def outC (v : Int → Int) : Array Value := ((List.range 40).map fun q : Nat => (.int .i64 (v q) : Value)).toArray
def knC (k : Int → Bool) : Array Value := ((List.range 40).map fun q : Nat => (.bool (k q) : Value)).toArray
def upd {β : Type} (f : Int → β) (q : Int) (x : β) : Int → β := fun y => if y = q then x else f y
theorem upd_eq {β : Type} (f : Int → β) (q : Int) (x : β) : upd f q x q = x := by unfold upd; rw [if_pos rfl]
theorem upd_ne {β : Type} (f : Int → β) {q y : Int} (x : β) (h : y ≠ q) : upd f q x y = f y := by unfold upd; rw [if_neg h]
theorem outC_at (v : Int → Int) {q : Nat} (h : q < 40) : (outC v)[q]? = some (.int .i64 (v q)) := by
  unfold outC; rw [List.getElem?_toArray, List.getElem?_map, List.getElem?_range h]; rfl
theorem knC_at (k : Int → Bool) {q : Nat} (h : q < 40) : (knC k)[q]? = some (.bool (k q)) := by
  unfold knC; rw [List.getElem?_toArray, List.getElem?_map, List.getElem?_range h]; rfl
theorem outC_set (v : Int → Int) {q : Nat} (_ : q < 40) (x : Int) : (outC v).setIfInBounds q (.int .i64 x) = outC (upd v q x) := by
  unfold outC
  rw [List.setIfInBounds_toArray]
  congr 1
  refine List.ext_getElem (by simp) fun i h1 h2 => ?_
  simp only [List.length_map, List.length_range] at h2
  rw [List.getElem_set]
  simp only [List.getElem_map, List.getElem_range]
  by_cases e : q = i
  · subst e; rw [if_pos rfl, upd_eq]
  · rw [if_neg e, upd_ne _ _ (by omega)]
theorem knC_set (k : Int → Bool) {q : Nat} (_ : q < 40) (x : Bool) : (knC k).setIfInBounds q (.bool x) = knC (upd k q x) := by
  unfold knC
  rw [List.setIfInBounds_toArray]
  congr 1
  refine List.ext_getElem (by simp) fun i h1 h2 => ?_
  simp only [List.length_map, List.length_range] at h2
  rw [List.getElem_set]
  simp only [List.getElem_map, List.getElem_range]
  by_cases e : q = i
  · subst e; rw [if_pos rfl, upd_eq]
  · rw [if_neg e, upd_ne _ _ (by omega)]
theorem run_make_40 (w : World) : (Instr.makeSlice 32 (.int .i64 40) (.int .i64 40)).run Try.prog w = .ok (.slice (some ⟨w.heap.size, 0, none⟩) 40 40) (w.alloc (.cells (outC fun _ => 0) 3)) := run_make_ints 32 Try.underlying32 40 40 (by omega) (by omega) w
theorem run_make_b40 (w : World) : (Instr.makeSlice 100 (.int .i64 40) (.int .i64 40)).run Try.prog w = .ok (.slice (some ⟨w.heap.size, 0, none⟩) 40 40) (w.alloc (.cells (knC fun _ => false) 4)) := by
  obtain ⟨i, hi, hz, hs, hb⟩ := info_of (show (Try.prog.info? 4).map (fun i => (i.zero, i.size, i.bytes)) = some (some (.bool false), 1, 1) from by kernel_rfl)
  have h := run_make (P := Try.prog) w 100 4 i (.bool false) Try.underlying100 hi hz .i64 .i64 40 40 (by omega) (by omega) (by rw [hb]; omega) (by omega)
  rw [hs] at h
  rw [show madeCells (Value.bool false).cells (Int.toNat 40 * 1) = knC (fun _ => false) from by kernel_rfl] at h
  exact h
/-- Values within bounds. -/
def KnB (C : Int) (N : Nat) (v : Int → Int) : Prop := ∀ q, -(C + 1000000 * N) ≤ v q ∧ v q ≤ C + 1000000 * N
theorem KnB.upd {C : Int} {N : Nat} {v : Int → Int} (h : KnB C N v) {q x : Int} (hx : -(C + 1000000 * ((N + 1 : Nat) : Int)) ≤ x ∧ x ≤ C + 1000000 * ((N + 1 : Nat) : Int)) : KnB C (N + 1) (upd v q x) := fun y => by
  have := h y
  unfold Go.Proofs.Ytbcgfohacbapoaa.upd; split <;> omega
theorem KnB.more {C : Int} {N : Nat} {v : Int → Int} (h : KnB C N v) : KnB C (N + 1) v := fun y => by have := h y; omega
/-- The states of the rounds. -/
def kn0 (P V : Int) : Kn := ⟨upd (fun _ => 0) P V, upd (fun _ => false) P true⟩
theorem snd0 (ms : List Mt) (P V : Int) : Snd ms P V (kn0 P V) := ⟨upd_eq (fun _ => false) P true, upd_eq (fun _ => 0) P V, fun A _ hP q hq => by
  by_cases e : q = P
  · subst e; exact (upd_eq (fun _ => 0) q V).trans hP.symm
  · have h2 : (kn0 P V).k q = false := upd_ne (fun _ => false) true e
    rw [h2] at hq; cases hq⟩
def stt (ms : List Mt) (P V : Int) (t i : Nat) : Kn := spL (ms.take i) (spN ms t (kn0 P V))
theorem stt_succ (ms : List Mt) (P V : Int) (t : Nat) {i : Nat} (hi : i < ms.length) : stt ms P V t (i + 1) = sp1 (stt ms P V t i) ms[i] := by
  unfold stt spL; rw [take_snoc hi, List.foldl_append]; rfl
theorem stt_zero (ms : List Mt) (P V : Int) (t : Nat) : stt ms P V t 0 = spN ms t (kn0 P V) := by unfold stt; simp [spL]
theorem stt_all (ms : List Mt) (P V : Int) (t : Nat) : stt ms P V t ms.length = spN ms (t + 1) (kn0 P V) := by unfold stt; rw [List.take_length]; rfl
theorem spL_snd {ms : List Mt} {P V : Int} : ∀ (l : List Mt) (s : Kn), (∀ m ∈ l, m ∈ ms) → Snd ms P V s → Snd ms P V (spL l s)
  | [], _, _, h => h
  | m :: r, s, hs, h => spL_snd r (sp1 s m) (fun x hx => hs x (by simp [hx])) (h.step (hs m (by simp)))
theorem spN_snd {ms : List Mt} {P V : Int} : ∀ t, Snd ms P V (spN ms t (kn0 P V))
  | 0 => snd0 ms P V
  | t + 1 => spL_snd ms _ (fun _ h => h) (spN_snd t)
theorem stt_snd (ms : List Mt) (P V : Int) (t i : Nat) : Snd ms P V (stt ms P V t i) := spL_snd _ _ (fun _ h => List.mem_of_mem_take h) (spN_snd t)
/-- No contradiction was seen in the round. -/
def Chk (ms : List Mt) (P V : Int) (t i : Nat) : Prop := ∀ j (hj : j < ms.length), j < i → ¬ bad1 (stt ms P V t (j + 1)) ms[j]
theorem Chk.done {ms : List Mt} {P V : Int} (h : Chk ms P V ms.length ms.length) : IsSp ms P V (spN ms (ms.length + 1) (kn0 P V)) true := by
  have hc : Clo ms (spN ms ms.length (kn0 P V)) := spN_all _
  have he : spN ms (ms.length + 1) (kn0 P V) = spN ms ms.length (kn0 P V) := clo_spL hc ms (fun _ h => h)
  refine ⟨fun h => (by cases h), fun _ => ⟨spN_snd _, by rw [he]; exact hc, fun m hm ha => ?_⟩⟩
  obtain ⟨j, hj, rfl⟩ := List.getElem_of_mem hm
  have h1 := h j hj hj
  have h2 : stt ms P V ms.length (j + 1) = spN ms ms.length (kn0 P V) := clo_spL hc _ (fun _ h => List.mem_of_mem_take h)
  rw [h2, ← he] at h1
  have hb : (spN ms (ms.length + 1) (kn0 P V)).k ms[j].b = true := by rw [he] at ha ⊢; rw [← hc _ hm]; exact ha
  refine Classical.byContradiction fun hn => h1 ⟨ha, hb, hn⟩
/-- What spread hands back. -/
def SprP (ms : List Mt) (P V : Int) (e : Ending) (w' : World) : Prop :=
  ∃ (s : Kn) (ok : Bool) (gO gK : Nat), e = .returned (.tuple #[.slice (some ⟨gO, 0, none⟩) 40 40, .slice (some ⟨gK, 0, none⟩) 40 40, .bool ok]) ∧ Blk w' gO 3 (outC s.v) ∧ Blk w' gK 4 (knC s.k) ∧ IsSp ms P V s ok ∧ (∀ q, -10000000000 ≤ s.v q ∧ s.v q ≤ 10000000000)
set_option maxRecDepth 100000 in
set_option maxHeartbeats 16000000 in
theorem lspread_any (l : List Sk) (ms : List Mt) (A B : Option Addr) (c d : Nat) (p : Nat) (V : Int) (w : World) (hB : Mz w B ms) (hm : MtOk l ms) (hs : SkOk l) (hp : p < 40) (hV : -1000000 ≤ V ∧ V ≤ 1000000) :
    Calls Try.prog 64 #[.slice A l.length c, .slice B ms.length d, .int .i64 (p : Nat), .int .i64 V] w fun e w' => SprP ms p V e w' ∧ Below w.heap.size w w' := by
  have HM := Lib.hid hB; have HL := Lib.hid hm.1
  have HPS : Hid (∀ i (hi : i < ms.length), ∃ a b : Nat, ms[i].a = (a : Int) ∧ ms[i].b = (b : Int) ∧ a < 40 ∧ b < 40 ∧ a ≠ b ∧ (0 ≤ ms[i].ta ∧ ms[i].ta ≤ 1000000) ∧ (0 ≤ ms[i].tb ∧ ms[i].tb ≤ 1000000)) := Lib.hid (fun i hi => by
    have h1 := hm.2 _ (List.getElem_mem hi)
    have key : ∀ q, (fnd l q).isSome = true → 0 ≤ q ∧ q ≤ 39 := fun q hq => by
      obtain ⟨s, hs2, rfl⟩ := List.mem_map.1 (fnd_isSome.1 hq)
      exact (hs.mem hs2).1
    have h2 := key _ h1.2.1; have h3 := key _ h1.2.2.1; have h4 := h1.1
    exact ⟨ms[i].a.toNat, ms[i].b.toNat, by omega, by omega, by omega, by omega, by omega, h1.2.2.2.1, h1.2.2.2.2⟩)
  have hn60 := hm.1
  obtain ⟨n, hn⟩ : ∃ n, n = ms.length := ⟨_, rfl⟩
  have HN := Lib.hid hn
  rw [← hn] at hn60
  rw [← hn]
  have hmk := run_make_40; have hmb := run_make_b40
  have q0 : (0 : Int) ≤ (p : Int) := by omega
  have q1 : (p : Int) < 40 := by omega
  have O_0 : Hid (Blk ((w.alloc (.cells (outC fun _ => 0) 3)).alloc (.cells (knC fun _ => false) 4)) w.heap.size 3 (outC fun _ => 0)) := Lib.hid ((Blk.new w _ _).alloc _)
  have K_0 : Hid (Blk ((w.alloc (.cells (outC fun _ => 0) 3)).alloc (.cells (knC fun _ => false) 4)) (w.heap.size + 1) 4 (knC fun _ => false)) := Lib.hid (by have h := Blk.new (w.alloc (.cells (outC fun _ => 0) 3)) 4 (knC fun _ => false); rwa [World.size_alloc] at h)
  have HB_0 : Hid (Below w.heap.size w ((w.alloc (.cells (outC fun _ => 0) 3)).alloc (.cells (knC fun _ => false) 4))) := Lib.hid (((Below.refl _ _).alloc (Nat.le_refl _) _).alloc (by simp) _)
  have HP := Lib.hid hp
  have HVB := Lib.hid hV
  have oc := O_0.out.cell (outC_at (fun _ => 0) hp); have of := O_0.out.frozen p
  have K_1 : Hid (Blk ((w.alloc (.cells ((outC fun _ => 0).setIfInBounds p (.int .i64 V)) 3)).alloc (.cells (knC fun _ => false) 4)) (w.heap.size + 1) 4 (knC fun _ => false)) := Lib.hid (by have h := Blk.new (w.alloc (.cells ((outC fun _ => 0).setIfInBounds p (.int .i64 V)) 3)) 4 (knC fun _ => false); rwa [World.size_alloc] at h)
  have kc := K_1.out.cell (knC_at (fun _ => false) hp); have kf := K_1.out.frozen p
  have O_2 : Hid (Blk ((w.alloc (.cells ((outC fun _ => 0).setIfInBounds p (.int .i64 V)) 3)).alloc (.cells ((knC fun _ => false).setIfInBounds p (.bool true)) 4)) w.heap.size 3 (outC (upd (fun _ => 0) (p : Int) V))) := Lib.hid (blk_eq ((Blk.new w _ _).alloc _) (outC_set _ hp V))
  have K_2 : Hid (Blk ((w.alloc (.cells ((outC fun _ => 0).setIfInBounds p (.int .i64 V)) 3)).alloc (.cells ((knC fun _ => false).setIfInBounds p (.bool true)) 4)) (w.heap.size + 1) 4 (knC (upd (fun _ => false) (p : Int) true))) := Lib.hid (blk_eq (by have h := Blk.new (w.alloc (.cells ((outC fun _ => 0).setIfInBounds p (.int .i64 V)) 3)) 4 ((knC fun _ => false).setIfInBounds p (.bool true)); rwa [World.size_alloc] at h) (knC_set _ hp true))
  have HB_2 : Hid (Below w.heap.size w ((w.alloc (.cells ((outC fun _ => 0).setIfInBounds p (.int .i64 V)) 3)).alloc (.cells ((knC fun _ => false).setIfInBounds p (.bool true)) 4))) := Lib.hid (((Below.refl _ _).alloc (Nat.le_refl _) _).alloc (by simp) _)
  clear hB hm hs hn hp hV O_0 K_0 HB_0
  go_enter Try.func64, Try.ntmps64
  go_wp2_with fail
  clear hmk hmb oc of kc kf
  have HV0 : Hid (KnB 1000000 0 (stt ms p V 0 0).v) := Lib.hid (fun q => by
    rw [stt_zero]
    show _ ≤ upd (fun _ => 0) (p : Int) V q ∧ upd (fun _ => 0) (p : Int) V q ≤ _
    have := HVB.out
    unfold upd; split <;> simp <;> omega)
  clear K_1
  go_loopw [13] (fun tt wr => ∃ (t N : Nat), tt = .int .i64 t ∧ t ≤ n + 1 ∧ N ≤ 60 * t ∧ (Blk wr w.heap.size 3 (outC (stt ms p V t 0).v) ∧ Blk wr (w.heap.size + 1) 4 (knC (stt ms p V t 0).k)) ∧ KnB 1000000 N (stt ms p V t 0).v ∧ (0 < t → Chk ms p V (t - 1) n) ∧ Below w.heap.size w wr) (fun tt _ => n + 1 - (intOf tt).toNat)
  case atStart => exact ⟨0, 0, rfl, Nat.zero_le _, Nat.zero_le _, ⟨by rw [stt_zero]; exact O_2.out, by rw [stt_zero]; exact K_2.out⟩, HV0.out, fun h => absurd h (by omega), HB_2.out⟩
  case round =>
    clear O_2 K_2 HB_2 HV0
    obtain ⟨t, N, rfl, ht, hN, ⟨hO, hK⟩, hbd, hck, hB⟩ := hrel
    have HO := Lib.hid hO; have HK := Lib.hid hK; have HBD := Lib.hid hbd; have HCK := Lib.hid hck; have HB := Lib.hid hB; have HTN := Lib.hid hN; clear hO hK hbd hck hB hN
    by_cases hlt : t ≤ n
    case neg =>
      obtain rfl : t = n + 1 := by omega
      have HSP : Hid (IsSp ms p V (stt ms p V (n + 1) 0) true) := Lib.hid (by
        rw [stt_zero]
        have h := HCK.out (by omega)
        rw [Nat.add_sub_cancel, HN.out] at h
        rw [HN.out]; exact h.done)
      have HBB : Hid (∀ q, -10000000000 ≤ (stt ms p V (n + 1) 0).v q ∧ (stt ms p V (n + 1) 0).v q ≤ 10000000000) := Lib.hid (fun q => by have h1 := HBD.out q; have h2 := HTN.out; omega)
      have q3 : ¬ ((n : Int) + 1 ≤ (n : Int)) := by omega
      have q4 : ¬ (n + 1 ≤ n) := by omega
      clear hlt ht
      go_wp2_with fail
      exact bodyPost_ret (v := .tuple #[.slice (some ⟨w.heap.size, 0, none⟩) 40 40, .slice (some ⟨w.heap.size + 1, 0, none⟩) 40 40, .bool true]) (by kernel_rfl) rfl ⟨⟨_, true, _, _, rfl, HO.out, HK.out, HSP.out, HBB.out⟩, HB.out⟩
    case pos =>
      have q3 : (t : Int) ≤ (n : Int) := by omega
      have HTL := Lib.hid hlt
      clear hlt ht
      go_wp2_with fail
      go_loopw [14] (fun ii wr => ∃ (i N2 : Nat), ii = .int .i64 i ∧ i ≤ n ∧ N2 ≤ 60 * t + i ∧ (Blk wr w.heap.size 3 (outC (stt ms p V t i).v) ∧ Blk wr (w.heap.size + 1) 4 (knC (stt ms p V t i).k)) ∧ KnB 1000000 N2 (stt ms p V t i).v ∧ Chk ms p V t i ∧ Below w.heap.size w wr) (fun ii _ => n - (intOf ii).toNat)
      case atStart => exact ⟨0, N, rfl, Nat.zero_le _, by have := HTN.out; omega, ⟨HO.out, HK.out⟩, HBD.out, fun j _ h => absurd h (by omega), HB.out⟩
      case round =>
        clear HO HK HBD HB
        obtain ⟨i, N2, rfl, hi, hN2, ⟨hO, hK⟩, hbd, hck, hB⟩ := hrel
        have HO := Lib.hid hO; have HK := Lib.hid hK; have HBD := Lib.hid hbd; have HCI := Lib.hid hck; have HB := Lib.hid hB; have HTN2 := Lib.hid hN2; clear hO hK hbd hck hB hN2
        by_cases hlt : i < n
        case neg =>
          obtain rfl : i = n := by omega
          have q5 : (t : Int) + 1 ≤ 9223372036854775807 := by have := HTL.out; omega
          have HIN : Hid (i ≤ 60) := Lib.hid hn60
          clear hlt hi hn60
          go_wp2_with fail
          go_roundw
          case rel => exact ⟨t + 1, N2, by go_num, by have := HTL.out; omega, by have := HTN2.out; have := HIN.out; omega, ⟨by have h := HO.out; rw [stt_zero]; rwa [HN.out, stt_all] at h, by have h := HK.out; rw [stt_zero]; rwa [HN.out, stt_all] at h⟩, by have h := HBD.out; rw [stt_zero]; rwa [HN.out, stt_all] at h, fun _ => HCI.out, HB.out⟩
          case measure => have := HTL.out; simp [intOf]; omega
        case pos =>
          have him : i < ms.length := by have := HN.out; omega
          obtain ⟨b, o, rfl⟩ := HM.out.some (by omega)
          obtain ⟨k0, k1, k2, k3⟩ := Mz.cell HM.out HB.out (Nat.le_refl _) him
          obtain ⟨a, bb, hma, hmb, ha40, hb40, hab, hta, htb⟩ := HPS.out i him
          have HSU := Lib.hid (stt_succ ms p V t him)
          have HSND := Lib.hid (stt_snd ms p V t (i + 1))
          have HCN : Hid (¬ bad1 (stt ms p V t (i + 1)) ms[i] → Chk ms p V t (i + 1)) := Lib.hid (fun h j hj hji => by
            by_cases e : j = i
            · subst e; exact h
            · exact HCI.out j hj (by omega))
          have HBX : Hid (bad1 (stt ms p V t (i + 1)) ms[i] → ∀ A, Mtg ms A → A p = V → False) := Lib.hid (fun h A hA hP => HSND.out.bad (List.getElem_mem him) h hA hP)
          obtain ⟨s, hs⟩ : ∃ s, s = stt ms p V t i := ⟨_, rfl⟩
          rw [← hs] at HO HK HBD HSU
          obtain ⟨s2, hs2⟩ : ∃ s2, s2 = stt ms p V t (i + 1) := ⟨_, rfl⟩
          rw [← hs2] at HSU HCN HBX
          have HS2 : Hid (stt ms p V t (i + 1) = s2) := Lib.hid hs2.symm
          obtain ⟨m, hm⟩ : ∃ m, m = ms[i] := ⟨_, rfl⟩
          rw [← hm] at k0 k1 k2 k3 hma hmb hta htb HSU HCN HBX
          obtain ⟨ma, ta, mb, tb⟩ := m
          dsimp only at k0 k1 k2 k3 hma hmb hta htb
          subst hma; subst hmb
          obtain ⟨g, hg⟩ : ∃ g, g = ta - tb := ⟨_, rfl⟩
          have e1 : IntKind.i64.wrap (ta - tb) = g := by rw [hg]; exact IntWalk.i64_in _ (by omega)
          obtain ⟨va, hva⟩ : ∃ x, x = s.v (a : Int) := ⟨_, rfl⟩
          obtain ⟨vb, hvb⟩ : ∃ x, x = s.v (bb : Int) := ⟨_, rfl⟩
          have hba := HBD.out (a : Int); have hbb := HBD.out (bb : Int)
          rw [← hva] at hba; rw [← hvb] at hbb
          have hN2 := HTN2.out
          obtain ⟨nb, hnb⟩ : ∃ x, x = va - g := ⟨_, rfl⟩
          obtain ⟨na, hna⟩ : ∃ x, x = vb + g := ⟨_, rfl⟩
          obtain ⟨df, hdf⟩ : ∃ x, x = va - vb := ⟨_, rfl⟩
          have ht60 := HTL.out
          have e2 : IntKind.i64.wrap (va - g) = nb := by rw [hnb]; exact IntWalk.i64_in _ (by omega)
          have e3 : IntKind.i64.wrap (vb + g) = na := by rw [hna]; exact IntWalk.i64_in _ (by omega)
          have e4 : IntKind.i64.wrap (va - vb) = df := by rw [hdf]; exact IntWalk.i64_in _ (by omega)
          have e5 : IntKind.i64.wrap (va - nb) = g := by rw [IntWalk.i64_in _ (by omega)]; omega
          have e6 : IntKind.i64.wrap (na - vb) = g := by rw [IntWalk.i64_in _ (by omega)]; omega
          have HBN : Hid (KnB 1000000 (N2 + 1) (upd s.v (bb : Int) nb)) := Lib.hid (HBD.out.upd (by omega))
          have HBA : Hid (KnB 1000000 (N2 + 1) (upd s.v (a : Int) na)) := Lib.hid (HBD.out.upd (by omega))
          have q6 : (0 : Int) ≤ (a : Int) := by omega
          have q7 : (a : Int) < 40 := by omega
          have q8 : (0 : Int) ≤ (bb : Int) := by omega
          have q9 : (bb : Int) < 40 := by omega
          have p1 : (0 : Int) ≤ (i : Int) := by omega
          have p2 : (i : Int) < (n : Int) := by omega
          have p5 : (i : Int) + 1 ≤ 9223372036854775807 := by omega
          have HI := Lib.hid hlt; have HA4 := Lib.hid ha40; have HB4 := Lib.hid hb40; have HAB := Lib.hid hab; have HVA := Lib.hid hva; have HVB2 := Lib.hid hvb; have HG := Lib.hid hg; have HNB := Lib.hid hnb; have HNA := Lib.hid hna; have HDF := Lib.hid hdf
          have HO1 := Lib.hid (HO.out.alloc (.cells #[.int .i64 (a : Nat), .int .i64 ta, .int .i64 (bb : Nat), .int .i64 tb] 79)); have HK1 := Lib.hid (HK.out.alloc (.cells #[.int .i64 (a : Nat), .int .i64 ta, .int .i64 (bb : Nat), .int .i64 tb] 79)); have HB1 := Lib.hid (HB.out.alloc HB.out.size (.cells #[.int .i64 (a : Nat), .int .i64 ta, .int .i64 (bb : Nat), .int .i64 tb] 79))
          have HD1 := Lib.hid (Blk.new wr 79 #[.int .i64 (a : Nat), .int .i64 ta, .int .i64 (bb : Nat), .int .i64 tb])
          have LW := Lib.hid HO.out.lt; have LK := Lib.hid HK.out.lt
          clear hs hs2 hm hg hva hvb hba hbb hN2 hnb hna hdf ht60 hta htb hlt hi him hab HO HK HB
          have d0 := HD1.out.cell (i := 0) (v := .int .i64 (a : Nat)) rfl; have d1 := HD1.out.cell (i := 1) (v := .int .i64 ta) rfl; have d2 := HD1.out.cell (i := 2) (v := .int .i64 (bb : Nat)) rfl; have d3 := HD1.out.cell (i := 3) (v := .int .i64 tb) rfl
          have ca := HK1.out.cell (knC_at s.k ha40); have cb := HK1.out.cell (knC_at s.k hb40)
          obtain ⟨ka, hka⟩ : ∃ x, x = s.k (a : Int) := ⟨_, rfl⟩
          obtain ⟨kb, hkb⟩ : ∃ x, x = s.k (bb : Int) := ⟨_, rfl⟩
          rw [← hka] at ca; rw [← hkb] at cb
          have HKA := Lib.hid hka; have HKB := Lib.hid hkb
          clear hka hkb ha40 hb40
          cases ka
          case false =>
            cases kb
            case false =>
              have HSS : Hid (s2 = s) := Lib.hid (by rw [HSU.out]; unfold sp1; rw [if_neg (by dsimp only; rw [← HKA.out]; simp), if_neg (by dsimp only; rw [← HKB.out]; simp)])
              have HSV : Hid (s2.v = s.v) := Lib.hid (by rw [HSS.out]); have HSK : Hid (s2.k = s.k) := Lib.hid (by rw [HSS.out])
              have HCK2 := Lib.hid (HCN.out (fun h => by have h1 := h.1; rw [HSK.out] at h1; dsimp only at h1; rw [← HKA.out] at h1; cases h1))
              have HFA : Hid ((knC s.k)[a]? = some (.bool false)) := Lib.hid (by rw [knC_at s.k HA4.out, ← HKA.out]); have HFB : Hid ((knC s.k)[bb]? = some (.bool false)) := Lib.hid (by rw [knC_at s.k HB4.out, ← HKB.out])
              have hundef := un_none
              go_wp2_with fail
              clear d0 d1 d2 d3 k0 k1 k2 k3 ca cb
              refine wp_region_grow (S := (fun w' => w'.cell? ⟨wr.heap.size, 0, none⟩ = some (.int .i64 (a : Nat)) ∧ w'.cell? ⟨wr.heap.size, 2, none⟩ = some (.int .i64 (bb : Nat)) ∧ w'.cell? ⟨w.heap.size + 1, a, none⟩ = some (.bool false) ∧ w'.cell? ⟨w.heap.size + 1, bb, none⟩ = some (.bool false))) ((fun w' => Below w.heap.size w w' ∧ Blk w' w.heap.size 3 (outC s.v) ∧ Blk w' (w.heap.size + 1) 4 (knC s.k) ∧ Blk w' wr.heap.size 79 #[.int .i64 (a : Nat), .int .i64 ta, .int .i64 (bb : Nat), .int .i64 tb])) (by kernel_rfl) (⟨fun w2 h2 => ⟨h2.2.2.2.cell (i := 0) (v := .int .i64 (a : Nat)) rfl, h2.2.2.2.cell (i := 2) (v := .int .i64 (bb : Nat)) rfl, h2.2.2.1.cell HFA.out, h2.2.2.1.cell HFB.out⟩, fun w2 w3 h2 hb2 => ⟨h2.1.trans (hb2.mono h2.1.size), h2.2.1.below hb2 h2.2.1.lt, h2.2.2.1.below hb2 h2.2.2.1.lt, h2.2.2.2.below hb2 h2.2.2.2.lt⟩⟩) (⟨HB1.out.drew, HO1.out.drew, HK1.out.drew, HD1.out.drew⟩) (fun hCalm => ?_)
              refine grow_take 0 (some 103) ?_ rfl rfl (by kernel_rfl) (fun _ _ _ h => h) (by kernel_rfl) hCalm ?_ ?_
              rotate_left
              · intro wS hS; (try dsimp only at hS); go_simp <;> with_reducible rfl
              try simp only [Act.put, List.setIfInBounds_toArray, List.set_cons_zero, List.set_cons_succ]
              refine grow_take 1 (some 104) ?_ rfl rfl (by kernel_rfl) (fun _ _ _ h => h) (by kernel_rfl) hCalm ?_ ?_
              rotate_left
              · intro wS hS; (try dsimp only at hS); go_simp <;> with_reducible rfl
              try simp only [Act.put, List.setIfInBounds_toArray, List.set_cons_zero, List.set_cons_succ]
              refine grow_take 2 (some 105) ?_ rfl rfl (by kernel_rfl) (fun _ _ _ h => h) (by kernel_rfl) hCalm ?_ ?_
              rotate_left
              · intro wS hS; (try dsimp only at hS); go_simp <;> with_reducible rfl
              try simp only [Act.put, List.setIfInBounds_toArray, List.set_cons_zero, List.set_cons_succ]
              refine grow_take 3 (some 106) ?_ rfl rfl (by kernel_rfl) (fun _ _ _ h => h) (by kernel_rfl) hCalm ?_ ?_
              rotate_left
              · intro wS hS; (try dsimp only at hS); go_simp <;> with_reducible rfl
              try simp only [Act.put, List.setIfInBounds_toArray, List.set_cons_zero, List.set_cons_succ]
              refine grow_take 4 (some 107) ?_ rfl rfl (by kernel_rfl) (fun _ _ _ h => h) (by kernel_rfl) hCalm ?_ ?_
              rotate_left
              · intro wS hS; (try dsimp only at hS); go_simp <;> with_reducible rfl
              try simp only [Act.put, List.setIfInBounds_toArray, List.set_cons_zero, List.set_cons_succ]
              refine grow_take 5 (some 108) ?_ rfl rfl (by kernel_rfl) (fun _ _ _ h => h) (by kernel_rfl) hCalm ?_ ?_
              rotate_left
              · intro wS hS; (try dsimp only at hS); go_simp <;> with_reducible rfl
              try simp only [Act.put, List.setIfInBounds_toArray, List.set_cons_zero, List.set_cons_succ]
              refine grow_skip 6 (some 109) rfl rfl (by kernel_rfl) (fun _ _ _ h => h) (by kernel_rfl) hCalm ?_
              try simp only [Act.put, List.setIfInBounds_toArray, List.set_cons_zero, List.set_cons_succ]
              refine grow_skip 7 (some 110) rfl rfl (by kernel_rfl) (fun _ _ _ h => h) (by kernel_rfl) hCalm ?_
              try simp only [Act.put, List.setIfInBounds_toArray, List.set_cons_zero, List.set_cons_succ]
              refine grow_skip 8 (some 111) rfl rfl (by kernel_rfl) (fun _ _ _ h => h) (by kernel_rfl) hCalm ?_
              try simp only [Act.put, List.setIfInBounds_toArray, List.set_cons_zero, List.set_cons_succ]
              refine grow_skip 9 (some 112) rfl rfl (by kernel_rfl) (fun _ _ _ h => h) (by kernel_rfl) hCalm ?_
              try simp only [Act.put, List.setIfInBounds_toArray, List.set_cons_zero, List.set_cons_succ]
              refine grow_skip 10 (some 113) rfl rfl (by kernel_rfl) (fun _ _ _ h => h) (by kernel_rfl) hCalm ?_
              try simp only [Act.put, List.setIfInBounds_toArray, List.set_cons_zero, List.set_cons_succ]
              refine grow_take 11 (some 114) ?_ rfl rfl (by kernel_rfl) (fun _ _ _ h => h) (by kernel_rfl) hCalm ?_ ?_
              rotate_left
              · intro wS hS; (try dsimp only at hS); go_simp <;> with_reducible rfl
              try simp only [Act.put, List.setIfInBounds_toArray, List.set_cons_zero, List.set_cons_succ]
              refine grow_take 12 (some 115) ?_ rfl rfl (by kernel_rfl) (fun _ _ _ h => h) (by kernel_rfl) hCalm ?_ ?_
              rotate_left
              · intro wS hS; (try dsimp only at hS); go_simp <;> with_reducible rfl
              try simp only [Act.put, List.setIfInBounds_toArray, List.set_cons_zero, List.set_cons_succ]
              refine grow_skip 13 (some 116) rfl rfl (by kernel_rfl) (fun _ _ _ h => h) (by kernel_rfl) hCalm ?_
              try simp only [Act.put, List.setIfInBounds_toArray, List.set_cons_zero, List.set_cons_succ]
              refine grow_skip 14 (some 117) rfl rfl (by kernel_rfl) (fun _ _ _ h => h) (by kernel_rfl) hCalm ?_
              try simp only [Act.put, List.setIfInBounds_toArray, List.set_cons_zero, List.set_cons_succ]
              refine grow_skip 15 (some 118) rfl rfl (by kernel_rfl) (fun _ _ _ h => h) (by kernel_rfl) hCalm ?_
              try simp only [Act.put, List.setIfInBounds_toArray, List.set_cons_zero, List.set_cons_succ]
              refine grow_skip 16 (some 119) rfl rfl (by kernel_rfl) (fun _ _ _ h => h) (by kernel_rfl) hCalm ?_
              try simp only [Act.put, List.setIfInBounds_toArray, List.set_cons_zero, List.set_cons_succ]
              refine grow_skip 17 (some 120) rfl rfl (by kernel_rfl) (fun _ _ _ h => h) (by kernel_rfl) hCalm ?_
              try simp only [Act.put, List.setIfInBounds_toArray, List.set_cons_zero, List.set_cons_succ]
              refine grow_skip 18 (some 121) rfl rfl (by kernel_rfl) (fun _ _ _ h => h) (by kernel_rfl) hCalm ?_
              try simp only [Act.put, List.setIfInBounds_toArray, List.set_cons_zero, List.set_cons_succ]
              refine grow_skip 19 (some 122) rfl rfl (by kernel_rfl) (fun _ _ _ h => h) (by kernel_rfl) hCalm ?_
              try simp only [Act.put, List.setIfInBounds_toArray, List.set_cons_zero, List.set_cons_succ]
              refine grow_skip 20 (some 123) rfl rfl (by kernel_rfl) (fun _ _ _ h => h) (by kernel_rfl) hCalm ?_
              try simp only [Act.put, List.setIfInBounds_toArray, List.set_cons_zero, List.set_cons_succ]
              refine grow_skip 21 (some 124) rfl rfl (by kernel_rfl) (fun _ _ _ h => h) (by kernel_rfl) hCalm ?_
              try simp only [Act.put, List.setIfInBounds_toArray, List.set_cons_zero, List.set_cons_succ]
              refine grow_skip 22 (some 125) rfl rfl (by kernel_rfl) (fun _ _ _ h => h) (by kernel_rfl) hCalm ?_
              try simp only [Act.put, List.setIfInBounds_toArray, List.set_cons_zero, List.set_cons_succ]
              refine grow_skip 23 (some 126) rfl rfl (by kernel_rfl) (fun _ _ _ h => h) (by kernel_rfl) hCalm ?_
              try simp only [Act.put, List.setIfInBounds_toArray, List.set_cons_zero, List.set_cons_succ]
              refine grow_skip 24 (some 127) rfl rfl (by kernel_rfl) (fun _ _ _ h => h) (by kernel_rfl) hCalm ?_
              try simp only [Act.put, List.setIfInBounds_toArray, List.set_cons_zero, List.set_cons_succ]
              refine grow_skip 25 (some 128) rfl rfl (by kernel_rfl) (fun _ _ _ h => h) (by kernel_rfl) hCalm ?_
              try simp only [Act.put, List.setIfInBounds_toArray, List.set_cons_zero, List.set_cons_succ]
              refine grow_take 26 (some 129) ?_ rfl rfl (by kernel_rfl) (fun _ _ _ h => h) (by kernel_rfl) hCalm ?_ ?_
              rotate_left
              · intro wS hS; (try dsimp only at hS); go_simp <;> with_reducible rfl
              try simp only [Act.put, List.setIfInBounds_toArray, List.set_cons_zero, List.set_cons_succ]
              refine grow_done (by kernel_rfl) (fun wA hA => ?_) _
              have HB9 := Lib.hid hA.1; have HO9 := Lib.hid hA.2.1; have HK9 := Lib.hid hA.2.2.1; clear hA
              go_wp2_with fail
              go_roundw
              case rel => exact ⟨i + 1, N2, by go_num, HI.out, by have := HTN2.out; omega, ⟨by rw [HS2.out, HSV.out]; exact HO9.out, by rw [HS2.out, HSK.out]; exact HK9.out⟩, by rw [HS2.out, HSV.out]; exact HBD.out, HCK2.out, HB9.out⟩
              case measure => have := HI.out; simp [intOf]; omega
            case true =>
              have HSS : Hid (s2 = ⟨upd s.v (a : Int) na, upd s.k (a : Int) true⟩) := Lib.hid (by rw [HSU.out]; unfold sp1; rw [if_neg (by dsimp only; rw [← HKA.out]; simp), if_pos ⟨HKB.out.symm, HKA.out.symm⟩]; dsimp only; rw [← HVB2.out, ← HG.out, ← HNA.out]; rfl)
              have HSV : Hid (s2.v = upd s.v (a : Int) na) := Lib.hid (by rw [HSS.out]); have HSK : Hid (s2.k = upd s.k (a : Int) true) := Lib.hid (by rw [HSS.out])
              have hne : (bb : Int) ≠ (a : Int) := by have := HAB.out; omega
              have HCK2 := Lib.hid (HCN.out (fun h => h.2.2 (by rw [HSV.out]; dsimp only; rw [upd_eq, upd_ne _ _ hne, ← HVB2.out, HNA.out, HG.out]; omega)))
              have HQO : Hid ((outC s.v)[bb]? = some (.int .i64 vb)) := Lib.hid (by rw [outC_at s.v HB4.out, ← HVB2.out]); have HQQ : Hid ((outC s.v)[a]? = some (.int .i64 va)) := Lib.hid (by rw [outC_at s.v HA4.out, ← HVA.out])
              have HQN : Hid ((outC (upd s.v (a : Int) na))[bb]? = some (.int .i64 vb)) := Lib.hid (by rw [outC_at _ HB4.out, upd_ne _ _ hne, ← HVB2.out]); have HQM : Hid ((outC (upd s.v (a : Int) na))[a]? = some (.int .i64 na)) := Lib.hid (by rw [outC_at _ HA4.out, upd_eq])
              have HFA : Hid ((knC s.k)[a]? = some (.bool false)) := Lib.hid (by rw [knC_at s.k HA4.out, ← HKA.out]); have HFB : Hid ((knC s.k)[bb]? = some (.bool true)) := Lib.hid (by rw [knC_at s.k HB4.out, ← HKB.out])
              have HGA : Hid ((knC (upd s.k (a : Int) true))[a]? = some (.bool true)) := Lib.hid (by rw [knC_at _ HA4.out, upd_eq]); have HGB : Hid ((knC (upd s.k (a : Int) true))[bb]? = some (.bool true)) := Lib.hid (by rw [knC_at _ HB4.out, upd_ne _ _ hne, ← HKB.out])
              clear hne
              have hundef := un_none
              go_wp2_with fail
              clear d0 d1 d2 d3 k0 k1 k2 k3 ca cb
              refine wp_region_grow (S := (fun w' => w'.cell? ⟨wr.heap.size, 0, none⟩ = some (.int .i64 (a : Nat)) ∧ w'.cell? ⟨wr.heap.size, 2, none⟩ = some (.int .i64 (bb : Nat)) ∧ w'.cell? ⟨w.heap.size, bb, none⟩ = some (.int .i64 vb))) ((fun w' => Below w.heap.size w w' ∧ Blk w' w.heap.size 3 (outC s.v) ∧ Blk w' (w.heap.size + 1) 4 (knC s.k) ∧ Blk w' wr.heap.size 79 #[.int .i64 (a : Nat), .int .i64 ta, .int .i64 (bb : Nat), .int .i64 tb])) (by kernel_rfl) (⟨fun w2 h2 => ⟨h2.2.2.2.cell (i := 0) (v := .int .i64 (a : Nat)) rfl, h2.2.2.2.cell (i := 2) (v := .int .i64 (bb : Nat)) rfl, h2.2.1.cell HQO.out⟩, fun w2 w3 h2 hb2 => ⟨h2.1.trans (hb2.mono h2.1.size), h2.2.1.below hb2 h2.2.1.lt, h2.2.2.1.below hb2 h2.2.2.1.lt, h2.2.2.2.below hb2 h2.2.2.2.lt⟩⟩) (⟨HB1.out.drew, HO1.out.drew, HK1.out.drew, HD1.out.drew⟩) (fun hCalm => ?_)
              refine grow_take 0 (some 88) ?_ rfl rfl (by kernel_rfl) (fun _ _ _ h => h) (by kernel_rfl) hCalm ?_ ?_
              rotate_left
              · intro wS hS; (try dsimp only at hS); go_simp <;> with_reducible rfl
              try simp only [Act.put, List.setIfInBounds_toArray, List.set_cons_zero, List.set_cons_succ]
              refine grow_take 1 (some 89) ?_ rfl rfl (by kernel_rfl) (fun _ _ _ h => h) (by kernel_rfl) hCalm ?_ ?_
              rotate_left
              · intro wS hS; (try dsimp only at hS); go_simp <;> with_reducible rfl
              try simp only [Act.put, List.setIfInBounds_toArray, List.set_cons_zero, List.set_cons_succ]
              refine grow_take 2 (some 90) ?_ rfl rfl (by kernel_rfl) (fun _ _ _ h => h) (by kernel_rfl) hCalm ?_ ?_
              rotate_left
              · intro wS hS; (try dsimp only at hS); go_simp <;> with_reducible rfl
              try simp only [Act.put, List.setIfInBounds_toArray, List.set_cons_zero, List.set_cons_succ]
              refine grow_take 3 (some 91) ?_ rfl rfl (by kernel_rfl) (fun _ _ _ h => h) (by kernel_rfl) hCalm ?_ ?_
              rotate_left
              · intro wS hS; (try dsimp only at hS); go_simp <;> with_reducible rfl
              try simp only [Act.put, List.setIfInBounds_toArray, List.set_cons_zero, List.set_cons_succ]
              refine grow_take 4 (some 92) ?_ rfl rfl (by kernel_rfl) (fun _ _ _ h => h) (by kernel_rfl) hCalm ?_ ?_
              rotate_left
              · intro wS hS; (try dsimp only at hS); go_simp <;> with_reducible rfl
              try simp only [Act.put, List.setIfInBounds_toArray, List.set_cons_zero, List.set_cons_succ]
              refine grow_take 5 (some 93) ?_ rfl rfl (by kernel_rfl) (fun _ _ _ h => h) (by kernel_rfl) hCalm ?_ ?_
              rotate_left
              · intro wS hS; (try dsimp only at hS); go_simp <;> with_reducible rfl
              try simp only [Act.put, List.setIfInBounds_toArray, List.set_cons_zero, List.set_cons_succ]
              refine grow_take 6 (some 94) ?_ rfl rfl (by kernel_rfl) (fun _ _ _ h => h) (by kernel_rfl) hCalm ?_ ?_
              rotate_left
              · intro wS hS; (try dsimp only at hS); go_simp <;> with_reducible rfl
              try simp only [Act.put, List.setIfInBounds_toArray, List.set_cons_zero, List.set_cons_succ]
              refine grow_take 7 (some 95) ?_ rfl rfl (by kernel_rfl) (fun _ _ _ h => h) (by kernel_rfl) hCalm ?_ ?_
              rotate_left
              · intro wS hS; (try dsimp only at hS); go_simp <;> with_reducible rfl
              try simp only [Act.put, List.setIfInBounds_toArray, List.set_cons_zero, List.set_cons_succ]
              refine grow_take 8 (some 96) ?_ rfl rfl (by kernel_rfl) (fun _ _ _ h => h) (by kernel_rfl) hCalm ?_ ?_
              rotate_left
              · intro wS hS; (try dsimp only at hS); go_simp <;> with_reducible rfl
              try simp only [Act.put, List.setIfInBounds_toArray, List.set_cons_zero, List.set_cons_succ]
              refine grow_take 9 (some 97) ?_ rfl rfl (by kernel_rfl) (fun _ _ _ h => h) (by kernel_rfl) hCalm ?_ ?_
              rotate_left
              · intro wS hS; (try dsimp only at hS); go_simp <;> with_reducible rfl
              try simp only [Act.put, List.setIfInBounds_toArray, List.set_cons_zero, List.set_cons_succ]
              refine grow_take 10 (some 98) ?_ rfl rfl (by kernel_rfl) (fun _ _ _ h => h) (by kernel_rfl) hCalm ?_ ?_
              rotate_left
              · intro wS hS; (try dsimp only at hS); go_simp <;> with_reducible rfl
              try simp only [Act.put, List.setIfInBounds_toArray, List.set_cons_zero, List.set_cons_succ]
              refine grow_each [11] (by kernel_rfl) (by decide) ?_
              refine grow_cons 11 rfl (by kernel_rfl) (fun wA hA K hK => ?_) grow_nil
              have z0 := hA.2.1.cell HQQ.out; have zf := hA.2.1.frozen a
              go_simp
              refine hK.out _ _ (fun w' => Below w.heap.size w w' ∧ Blk w' w.heap.size 3 (outC (upd s.v (a : Int) na)) ∧ Blk w' (w.heap.size + 1) 4 (knC s.k) ∧ Blk w' wr.heap.size 79 #[.int .i64 (a : Nat), .int .i64 ta, .int .i64 (bb : Nat), .int .i64 tb]) ⟨fun w2 h2 => ⟨h2.2.2.2.cell (i := 0) (v := .int .i64 (a : Nat)) rfl, h2.2.2.2.cell (i := 2) (v := .int .i64 (bb : Nat)) rfl, h2.2.1.cell HQN.out⟩, fun w2 w3 h2 hb2 => ⟨h2.1.trans (hb2.mono h2.1.size), h2.2.1.below hb2 h2.2.1.lt, h2.2.2.1.below hb2 h2.2.2.1.lt, h2.2.2.2.below hb2 h2.2.2.2.lt⟩⟩ ⟨hA.1.setCell (p := ⟨w.heap.size, a, none⟩) (Nat.le_refl _) _, (by have h := hA.2.1.set a (.int .i64 na); rw [outC_set _ HA4.out] at h; exact h), hA.2.2.1.far (p := ⟨w.heap.size, a, none⟩) (by show w.heap.size + 1 ≠ w.heap.size; omega) _, hA.2.2.2.far (p := ⟨w.heap.size, a, none⟩) (by have := LW.out; show wr.heap.size ≠ w.heap.size; omega) _⟩ ?_
              clear z0 zf hK K hA wA hCalm
              have hCalm : Calm (fun w' => w'.cell? ⟨wr.heap.size, 0, none⟩ = some (.int .i64 (a : Nat)) ∧ w'.cell? ⟨wr.heap.size, 2, none⟩ = some (.int .i64 (bb : Nat)) ∧ w'.cell? ⟨w.heap.size, bb, none⟩ = some (.int .i64 vb)) (fun w' => Below w.heap.size w w' ∧ Blk w' w.heap.size 3 (outC (upd s.v (a : Int) na)) ∧ Blk w' (w.heap.size + 1) 4 (knC s.k) ∧ Blk w' wr.heap.size 79 #[.int .i64 (a : Nat), .int .i64 ta, .int .i64 (bb : Nat), .int .i64 tb]) := ⟨fun w2 h2 => ⟨h2.2.2.2.cell (i := 0) (v := .int .i64 (a : Nat)) rfl, h2.2.2.2.cell (i := 2) (v := .int .i64 (bb : Nat)) rfl, h2.2.1.cell HQN.out⟩, fun w2 w3 h2 hb2 => ⟨h2.1.trans (hb2.mono h2.1.size), h2.2.1.below hb2 h2.2.1.lt, h2.2.2.1.below hb2 h2.2.2.1.lt, h2.2.2.2.below hb2 h2.2.2.2.lt⟩⟩
              try simp only [Act.put]
              refine grow_done (by kernel_rfl) (fun wA hA => ?_) _
              have HB2 := Lib.hid hA.1; have HO2 := Lib.hid hA.2.1; have HK2 := Lib.hid hA.2.2.1; have HD2 := Lib.hid hA.2.2.2; clear hA
              have d0 := HD2.out.cell (i := 0) (v := .int .i64 (a : Nat)) rfl
              have ca := HK2.out.cell HFA.out; have cf := HK2.out.frozen a
              have HO3 := Lib.hid (HO2.out.far (p := ⟨w.heap.size + 1, a, none⟩) (by show w.heap.size ≠ w.heap.size + 1; omega) (.bool true)); have HD3 := Lib.hid (HD2.out.far (p := ⟨w.heap.size + 1, a, none⟩) (by have := LK.out; show wr.heap.size ≠ w.heap.size + 1; omega) (.bool true)); have HB3 := Lib.hid (HB2.out.setCell (p := ⟨w.heap.size + 1, a, none⟩) (by show w.heap.size ≤ w.heap.size + 1; omega) (.bool true))
              have hk3 := HK2.out.set a (.bool true); rw [knC_set _ HA4.out] at hk3; have HK3 := Lib.hid hk3; clear hk3
              go_wp2_with fail
              clear d0 ca cf
              refine wp_region_grow (S := (fun w' => w'.cell? ⟨wr.heap.size, 0, none⟩ = some (.int .i64 (a : Nat)) ∧ w'.cell? ⟨wr.heap.size, 2, none⟩ = some (.int .i64 (bb : Nat)) ∧ w'.cell? ⟨w.heap.size + 1, a, none⟩ = some (.bool true) ∧ w'.cell? ⟨w.heap.size + 1, bb, none⟩ = some (.bool true) ∧ w'.cell? ⟨w.heap.size, a, none⟩ = some (.int .i64 na) ∧ w'.cell? ⟨w.heap.size, bb, none⟩ = some (.int .i64 vb))) ((fun w' => Below w.heap.size w w' ∧ Blk w' w.heap.size 3 (outC (upd s.v (a : Int) na)) ∧ Blk w' (w.heap.size + 1) 4 (knC (upd s.k (a : Int) true)) ∧ Blk w' wr.heap.size 79 #[.int .i64 (a : Nat), .int .i64 ta, .int .i64 (bb : Nat), .int .i64 tb])) (by kernel_rfl) (⟨fun w2 h2 => ⟨h2.2.2.2.cell (i := 0) (v := .int .i64 (a : Nat)) rfl, h2.2.2.2.cell (i := 2) (v := .int .i64 (bb : Nat)) rfl, h2.2.2.1.cell HGA.out, h2.2.2.1.cell HGB.out, h2.2.1.cell HQM.out, h2.2.1.cell HQN.out⟩, fun w2 w3 h2 hb2 => ⟨h2.1.trans (hb2.mono h2.1.size), h2.2.1.below hb2 h2.2.1.lt, h2.2.2.1.below hb2 h2.2.2.1.lt, h2.2.2.2.below hb2 h2.2.2.2.lt⟩⟩) (⟨HB3.out.drew, HO3.out.drew, HK3.out.drew, HD3.out.drew⟩) (fun hCalm => ?_)
              refine grow_take 0 (some 103) ?_ rfl rfl (by kernel_rfl) (fun _ _ _ h => h) (by kernel_rfl) hCalm ?_ ?_
              rotate_left
              · intro wS hS; (try dsimp only at hS); go_simp <;> with_reducible rfl
              try simp only [Act.put, List.setIfInBounds_toArray, List.set_cons_zero, List.set_cons_succ]
              refine grow_take 1 (some 104) ?_ rfl rfl (by kernel_rfl) (fun _ _ _ h => h) (by kernel_rfl) hCalm ?_ ?_
              rotate_left
              · intro wS hS; (try dsimp only at hS); go_simp <;> with_reducible rfl
              try simp only [Act.put, List.setIfInBounds_toArray, List.set_cons_zero, List.set_cons_succ]
              refine grow_take 2 (some 105) ?_ rfl rfl (by kernel_rfl) (fun _ _ _ h => h) (by kernel_rfl) hCalm ?_ ?_
              rotate_left
              · intro wS hS; (try dsimp only at hS); go_simp <;> with_reducible rfl
              try simp only [Act.put, List.setIfInBounds_toArray, List.set_cons_zero, List.set_cons_succ]
              refine grow_take 3 (some 106) ?_ rfl rfl (by kernel_rfl) (fun _ _ _ h => h) (by kernel_rfl) hCalm ?_ ?_
              rotate_left
              · intro wS hS; (try dsimp only at hS); go_simp <;> with_reducible rfl
              try simp only [Act.put, List.setIfInBounds_toArray, List.set_cons_zero, List.set_cons_succ]
              refine grow_take 4 (some 107) ?_ rfl rfl (by kernel_rfl) (fun _ _ _ h => h) (by kernel_rfl) hCalm ?_ ?_
              rotate_left
              · intro wS hS; (try dsimp only at hS); go_simp <;> with_reducible rfl
              try simp only [Act.put, List.setIfInBounds_toArray, List.set_cons_zero, List.set_cons_succ]
              refine grow_take 5 (some 108) ?_ rfl rfl (by kernel_rfl) (fun _ _ _ h => h) (by kernel_rfl) hCalm ?_ ?_
              rotate_left
              · intro wS hS; (try dsimp only at hS); go_simp <;> with_reducible rfl
              try simp only [Act.put, List.setIfInBounds_toArray, List.set_cons_zero, List.set_cons_succ]
              refine grow_take 6 (some 109) ?_ rfl rfl (by kernel_rfl) (fun _ _ _ h => h) (by kernel_rfl) hCalm ?_ ?_
              rotate_left
              · intro wS hS; (try dsimp only at hS); go_simp <;> with_reducible rfl
              try simp only [Act.put, List.setIfInBounds_toArray, List.set_cons_zero, List.set_cons_succ]
              refine grow_take 7 (some 110) ?_ rfl rfl (by kernel_rfl) (fun _ _ _ h => h) (by kernel_rfl) hCalm ?_ ?_
              rotate_left
              · intro wS hS; (try dsimp only at hS); go_simp <;> with_reducible rfl
              try simp only [Act.put, List.setIfInBounds_toArray, List.set_cons_zero, List.set_cons_succ]
              refine grow_take 8 (some 111) ?_ rfl rfl (by kernel_rfl) (fun _ _ _ h => h) (by kernel_rfl) hCalm ?_ ?_
              rotate_left
              · intro wS hS; (try dsimp only at hS); go_simp <;> with_reducible rfl
              try simp only [Act.put, List.setIfInBounds_toArray, List.set_cons_zero, List.set_cons_succ]
              refine grow_take 9 (some 112) ?_ rfl rfl (by kernel_rfl) (fun _ _ _ h => h) (by kernel_rfl) hCalm ?_ ?_
              rotate_left
              · intro wS hS; (try dsimp only at hS); go_simp <;> with_reducible rfl
              try simp only [Act.put, List.setIfInBounds_toArray, List.set_cons_zero, List.set_cons_succ]
              refine grow_take 10 (some 113) ?_ rfl rfl (by kernel_rfl) (fun _ _ _ h => h) (by kernel_rfl) hCalm ?_ ?_
              rotate_left
              · intro wS hS; (try dsimp only at hS); go_simp <;> with_reducible rfl
              try simp only [Act.put, List.setIfInBounds_toArray, List.set_cons_zero, List.set_cons_succ]
              refine grow_take 11 (some 114) ?_ rfl rfl (by kernel_rfl) (fun _ _ _ h => h) (by kernel_rfl) hCalm ?_ ?_
              rotate_left
              · intro wS hS; (try dsimp only at hS); go_simp <;> with_reducible rfl
              try simp only [Act.put, List.setIfInBounds_toArray, List.set_cons_zero, List.set_cons_succ]
              refine grow_take 12 (some 115) ?_ rfl rfl (by kernel_rfl) (fun _ _ _ h => h) (by kernel_rfl) hCalm ?_ ?_
              rotate_left
              · intro wS hS; (try dsimp only at hS); go_simp <;> with_reducible rfl
              try simp only [Act.put, List.setIfInBounds_toArray, List.set_cons_zero, List.set_cons_succ]
              refine grow_take 13 (some 116) ?_ rfl rfl (by kernel_rfl) (fun _ _ _ h => h) (by kernel_rfl) hCalm ?_ ?_
              rotate_left
              · intro wS hS; (try dsimp only at hS); go_simp <;> with_reducible rfl
              try simp only [Act.put, List.setIfInBounds_toArray, List.set_cons_zero, List.set_cons_succ]
              refine grow_take 14 (some 117) ?_ rfl rfl (by kernel_rfl) (fun _ _ _ h => h) (by kernel_rfl) hCalm ?_ ?_
              rotate_left
              · intro wS hS; (try dsimp only at hS); go_simp <;> with_reducible rfl
              try simp only [Act.put, List.setIfInBounds_toArray, List.set_cons_zero, List.set_cons_succ]
              refine grow_take 15 (some 118) ?_ rfl rfl (by kernel_rfl) (fun _ _ _ h => h) (by kernel_rfl) hCalm ?_ ?_
              rotate_left
              · intro wS hS; (try dsimp only at hS); go_simp <;> with_reducible rfl
              try simp only [Act.put, List.setIfInBounds_toArray, List.set_cons_zero, List.set_cons_succ]
              refine grow_take 16 (some 119) ?_ rfl rfl (by kernel_rfl) (fun _ _ _ h => h) (by kernel_rfl) hCalm ?_ ?_
              rotate_left
              · intro wS hS; (try dsimp only at hS); go_simp <;> with_reducible rfl
              try simp only [Act.put, List.setIfInBounds_toArray, List.set_cons_zero, List.set_cons_succ]
              refine grow_take 17 (some 120) ?_ rfl rfl (by kernel_rfl) (fun _ _ _ h => h) (by kernel_rfl) hCalm ?_ ?_
              rotate_left
              · intro wS hS; (try dsimp only at hS); go_simp <;> with_reducible rfl
              try simp only [Act.put, List.setIfInBounds_toArray, List.set_cons_zero, List.set_cons_succ]
              refine grow_take 18 (some 121) ?_ rfl rfl (by kernel_rfl) (fun _ _ _ h => h) (by kernel_rfl) hCalm ?_ ?_
              rotate_left
              · intro wS hS; (try dsimp only at hS); go_simp <;> with_reducible rfl
              try simp only [Act.put, List.setIfInBounds_toArray, List.set_cons_zero, List.set_cons_succ]
              refine grow_take 19 (some 122) ?_ rfl rfl (by kernel_rfl) (fun _ _ _ h => h) (by kernel_rfl) hCalm ?_ ?_
              rotate_left
              · intro wS hS; (try dsimp only at hS); go_simp <;> with_reducible rfl
              try simp only [Act.put, List.setIfInBounds_toArray, List.set_cons_zero, List.set_cons_succ]
              refine grow_take 20 (some 123) ?_ rfl rfl (by kernel_rfl) (fun _ _ _ h => h) (by kernel_rfl) hCalm ?_ ?_
              rotate_left
              · intro wS hS; (try dsimp only at hS); go_simp <;> with_reducible rfl
              try simp only [Act.put, List.setIfInBounds_toArray, List.set_cons_zero, List.set_cons_succ]
              refine grow_take 21 (some 124) ?_ rfl rfl (by kernel_rfl) (fun _ _ _ h => h) (by kernel_rfl) hCalm ?_ ?_
              rotate_left
              · intro wS hS; (try dsimp only at hS); go_simp <;> with_reducible rfl
              try simp only [Act.put, List.setIfInBounds_toArray, List.set_cons_zero, List.set_cons_succ]
              refine grow_take 22 (some 125) ?_ rfl rfl (by kernel_rfl) (fun _ _ _ h => h) (by kernel_rfl) hCalm ?_ ?_
              rotate_left
              · intro wS hS; (try dsimp only at hS); go_simp <;> with_reducible rfl
              try simp only [Act.put, List.setIfInBounds_toArray, List.set_cons_zero, List.set_cons_succ]
              refine grow_take 23 (some 126) ?_ rfl rfl (by kernel_rfl) (fun _ _ _ h => h) (by kernel_rfl) hCalm ?_ ?_
              rotate_left
              · intro wS hS; (try dsimp only at hS); go_simp <;> with_reducible rfl
              try simp only [Act.put, List.setIfInBounds_toArray, List.set_cons_zero, List.set_cons_succ]
              refine grow_take 24 (some 127) ?_ rfl rfl (by kernel_rfl) (fun _ _ _ h => h) (by kernel_rfl) hCalm ?_ ?_
              rotate_left
              · intro wS hS; (try dsimp only at hS); go_simp <;> with_reducible rfl
              try simp only [Act.put, List.setIfInBounds_toArray, List.set_cons_zero, List.set_cons_succ]
              refine grow_take 25 (some 128) (.bool false) rfl rfl (by kernel_rfl) (fun _ _ _ h => h) (by kernel_rfl) hCalm ?_ ?_
              · intro wS hS; (try dsimp only at hS); go_simp
              try simp only [Act.put, List.setIfInBounds_toArray, List.set_cons_zero, List.set_cons_succ]
              refine grow_take 26 (some 129) ?_ rfl rfl (by kernel_rfl) (fun _ _ _ h => h) (by kernel_rfl) hCalm ?_ ?_
              rotate_left
              · intro wS hS; (try dsimp only at hS); go_simp <;> with_reducible rfl
              try simp only [Act.put, List.setIfInBounds_toArray, List.set_cons_zero, List.set_cons_succ]
              refine grow_done (by kernel_rfl) (fun wA hA => ?_) _
              have HB9 := Lib.hid hA.1; have HO9 := Lib.hid hA.2.1; have HK9 := Lib.hid hA.2.2.1; clear hA
              go_wp2_with fail
              go_roundw
              case rel => exact ⟨i + 1, (N2 + 1), by go_num, HI.out, by have := HTN2.out; omega, ⟨by rw [HS2.out, HSV.out]; exact HO9.out, by rw [HS2.out, HSK.out]; exact HK9.out⟩, by rw [HS2.out, HSV.out]; exact HBA.out, HCK2.out, HB9.out⟩
              case measure => have := HI.out; simp [intOf]; omega
          case true =>
            cases kb
            case false =>
              have HSS : Hid (s2 = ⟨upd s.v (bb : Int) nb, upd s.k (bb : Int) true⟩) := Lib.hid (by rw [HSU.out]; unfold sp1; rw [if_pos ⟨HKA.out.symm, HKB.out.symm⟩]; dsimp only; rw [← HVA.out, ← HG.out, ← HNB.out]; rfl)
              have HSV : Hid (s2.v = upd s.v (bb : Int) nb) := Lib.hid (by rw [HSS.out]); have HSK : Hid (s2.k = upd s.k (bb : Int) true) := Lib.hid (by rw [HSS.out])
              have hne : (a : Int) ≠ (bb : Int) := by have := HAB.out; omega
              have HCK2 := Lib.hid (HCN.out (fun h => h.2.2 (by rw [HSV.out]; dsimp only; rw [upd_eq, upd_ne _ _ hne, ← HVA.out, HNB.out, HG.out]; omega)))
              have HQO : Hid ((outC s.v)[a]? = some (.int .i64 va)) := Lib.hid (by rw [outC_at s.v HA4.out, ← HVA.out]); have HQQ : Hid ((outC s.v)[bb]? = some (.int .i64 vb)) := Lib.hid (by rw [outC_at s.v HB4.out, ← HVB2.out])
              have HQN : Hid ((outC (upd s.v (bb : Int) nb))[a]? = some (.int .i64 va)) := Lib.hid (by rw [outC_at _ HA4.out, upd_ne _ _ hne, ← HVA.out]); have HQM : Hid ((outC (upd s.v (bb : Int) nb))[bb]? = some (.int .i64 nb)) := Lib.hid (by rw [outC_at _ HB4.out, upd_eq])
              have HFA : Hid ((knC s.k)[a]? = some (.bool true)) := Lib.hid (by rw [knC_at s.k HA4.out, ← HKA.out]); have HFB : Hid ((knC s.k)[bb]? = some (.bool false)) := Lib.hid (by rw [knC_at s.k HB4.out, ← HKB.out])
              have HGB : Hid ((knC (upd s.k (bb : Int) true))[bb]? = some (.bool true)) := Lib.hid (by rw [knC_at _ HB4.out, upd_eq]); have HGA : Hid ((knC (upd s.k (bb : Int) true))[a]? = some (.bool true)) := Lib.hid (by rw [knC_at _ HA4.out, upd_ne _ _ hne, ← HKA.out])
              clear hne
              go_wp2_with fail
              clear d0 d1 d2 d3 k0 k1 k2 k3 ca cb
              refine wp_region_grow (S := (fun w' => w'.cell? ⟨wr.heap.size, 0, none⟩ = some (.int .i64 (a : Nat)) ∧ w'.cell? ⟨wr.heap.size, 2, none⟩ = some (.int .i64 (bb : Nat)) ∧ w'.cell? ⟨w.heap.size, a, none⟩ = some (.int .i64 va))) ((fun w' => Below w.heap.size w w' ∧ Blk w' w.heap.size 3 (outC s.v) ∧ Blk w' (w.heap.size + 1) 4 (knC s.k) ∧ Blk w' wr.heap.size 79 #[.int .i64 (a : Nat), .int .i64 ta, .int .i64 (bb : Nat), .int .i64 tb])) (by kernel_rfl) (⟨fun w2 h2 => ⟨h2.2.2.2.cell (i := 0) (v := .int .i64 (a : Nat)) rfl, h2.2.2.2.cell (i := 2) (v := .int .i64 (bb : Nat)) rfl, h2.2.1.cell HQO.out⟩, fun w2 w3 h2 hb2 => ⟨h2.1.trans (hb2.mono h2.1.size), h2.2.1.below hb2 h2.2.1.lt, h2.2.2.1.below hb2 h2.2.2.1.lt, h2.2.2.2.below hb2 h2.2.2.2.lt⟩⟩) (⟨HB1.out.drew, HO1.out.drew, HK1.out.drew, HD1.out.drew⟩) (fun hCalm => ?_)
              refine grow_take 0 (some 60) ?_ rfl rfl (by kernel_rfl) (fun _ _ _ h => h) (by kernel_rfl) hCalm ?_ ?_
              rotate_left
              · intro wS hS; (try dsimp only at hS); go_simp <;> with_reducible rfl
              try simp only [Act.put, List.setIfInBounds_toArray, List.set_cons_zero, List.set_cons_succ]
              refine grow_take 1 (some 61) ?_ rfl rfl (by kernel_rfl) (fun _ _ _ h => h) (by kernel_rfl) hCalm ?_ ?_
              rotate_left
              · intro wS hS; (try dsimp only at hS); go_simp <;> with_reducible rfl
              try simp only [Act.put, List.setIfInBounds_toArray, List.set_cons_zero, List.set_cons_succ]
              refine grow_take 2 (some 62) ?_ rfl rfl (by kernel_rfl) (fun _ _ _ h => h) (by kernel_rfl) hCalm ?_ ?_
              rotate_left
              · intro wS hS; (try dsimp only at hS); go_simp <;> with_reducible rfl
              try simp only [Act.put, List.setIfInBounds_toArray, List.set_cons_zero, List.set_cons_succ]
              refine grow_take 3 (some 63) ?_ rfl rfl (by kernel_rfl) (fun _ _ _ h => h) (by kernel_rfl) hCalm ?_ ?_
              rotate_left
              · intro wS hS; (try dsimp only at hS); go_simp <;> with_reducible rfl
              try simp only [Act.put, List.setIfInBounds_toArray, List.set_cons_zero, List.set_cons_succ]
              refine grow_take 4 (some 64) ?_ rfl rfl (by kernel_rfl) (fun _ _ _ h => h) (by kernel_rfl) hCalm ?_ ?_
              rotate_left
              · intro wS hS; (try dsimp only at hS); go_simp <;> with_reducible rfl
              try simp only [Act.put, List.setIfInBounds_toArray, List.set_cons_zero, List.set_cons_succ]
              refine grow_take 5 (some 65) ?_ rfl rfl (by kernel_rfl) (fun _ _ _ h => h) (by kernel_rfl) hCalm ?_ ?_
              rotate_left
              · intro wS hS; (try dsimp only at hS); go_simp <;> with_reducible rfl
              try simp only [Act.put, List.setIfInBounds_toArray, List.set_cons_zero, List.set_cons_succ]
              refine grow_take 6 (some 66) ?_ rfl rfl (by kernel_rfl) (fun _ _ _ h => h) (by kernel_rfl) hCalm ?_ ?_
              rotate_left
              · intro wS hS; (try dsimp only at hS); go_simp <;> with_reducible rfl
              try simp only [Act.put, List.setIfInBounds_toArray, List.set_cons_zero, List.set_cons_succ]
              refine grow_take 7 (some 67) ?_ rfl rfl (by kernel_rfl) (fun _ _ _ h => h) (by kernel_rfl) hCalm ?_ ?_
              rotate_left
              · intro wS hS; (try dsimp only at hS); go_simp <;> with_reducible rfl
              try simp only [Act.put, List.setIfInBounds_toArray, List.set_cons_zero, List.set_cons_succ]
              refine grow_take 8 (some 68) ?_ rfl rfl (by kernel_rfl) (fun _ _ _ h => h) (by kernel_rfl) hCalm ?_ ?_
              rotate_left
              · intro wS hS; (try dsimp only at hS); go_simp <;> with_reducible rfl
              try simp only [Act.put, List.setIfInBounds_toArray, List.set_cons_zero, List.set_cons_succ]
              refine grow_take 9 (some 69) ?_ rfl rfl (by kernel_rfl) (fun _ _ _ h => h) (by kernel_rfl) hCalm ?_ ?_
              rotate_left
              · intro wS hS; (try dsimp only at hS); go_simp <;> with_reducible rfl
              try simp only [Act.put, List.setIfInBounds_toArray, List.set_cons_zero, List.set_cons_succ]
              refine grow_take 10 (some 70) ?_ rfl rfl (by kernel_rfl) (fun _ _ _ h => h) (by kernel_rfl) hCalm ?_ ?_
              rotate_left
              · intro wS hS; (try dsimp only at hS); go_simp <;> with_reducible rfl
              try simp only [Act.put, List.setIfInBounds_toArray, List.set_cons_zero, List.set_cons_succ]
              refine grow_each [11] (by kernel_rfl) (by decide) ?_
              refine grow_cons 11 rfl (by kernel_rfl) (fun wA hA K hK => ?_) grow_nil
              have z0 := hA.2.1.cell HQQ.out; have zf := hA.2.1.frozen bb
              go_simp
              refine hK.out _ _ (fun w' => Below w.heap.size w w' ∧ Blk w' w.heap.size 3 (outC (upd s.v (bb : Int) nb)) ∧ Blk w' (w.heap.size + 1) 4 (knC s.k) ∧ Blk w' wr.heap.size 79 #[.int .i64 (a : Nat), .int .i64 ta, .int .i64 (bb : Nat), .int .i64 tb]) ⟨fun w2 h2 => ⟨h2.2.2.2.cell (i := 0) (v := .int .i64 (a : Nat)) rfl, h2.2.2.2.cell (i := 2) (v := .int .i64 (bb : Nat)) rfl, h2.2.1.cell HQN.out⟩, fun w2 w3 h2 hb2 => ⟨h2.1.trans (hb2.mono h2.1.size), h2.2.1.below hb2 h2.2.1.lt, h2.2.2.1.below hb2 h2.2.2.1.lt, h2.2.2.2.below hb2 h2.2.2.2.lt⟩⟩ ⟨hA.1.setCell (p := ⟨w.heap.size, bb, none⟩) (Nat.le_refl _) _, (by have h := hA.2.1.set bb (.int .i64 nb); rw [outC_set _ HB4.out] at h; exact h), hA.2.2.1.far (p := ⟨w.heap.size, bb, none⟩) (by show w.heap.size + 1 ≠ w.heap.size; omega) _, hA.2.2.2.far (p := ⟨w.heap.size, bb, none⟩) (by have := LW.out; show wr.heap.size ≠ w.heap.size; omega) _⟩ ?_
              clear z0 zf hK K hA wA hCalm
              have hCalm : Calm (fun w' => w'.cell? ⟨wr.heap.size, 0, none⟩ = some (.int .i64 (a : Nat)) ∧ w'.cell? ⟨wr.heap.size, 2, none⟩ = some (.int .i64 (bb : Nat)) ∧ w'.cell? ⟨w.heap.size, a, none⟩ = some (.int .i64 va)) (fun w' => Below w.heap.size w w' ∧ Blk w' w.heap.size 3 (outC (upd s.v (bb : Int) nb)) ∧ Blk w' (w.heap.size + 1) 4 (knC s.k) ∧ Blk w' wr.heap.size 79 #[.int .i64 (a : Nat), .int .i64 ta, .int .i64 (bb : Nat), .int .i64 tb]) := ⟨fun w2 h2 => ⟨h2.2.2.2.cell (i := 0) (v := .int .i64 (a : Nat)) rfl, h2.2.2.2.cell (i := 2) (v := .int .i64 (bb : Nat)) rfl, h2.2.1.cell HQN.out⟩, fun w2 w3 h2 hb2 => ⟨h2.1.trans (hb2.mono h2.1.size), h2.2.1.below hb2 h2.2.1.lt, h2.2.2.1.below hb2 h2.2.2.1.lt, h2.2.2.2.below hb2 h2.2.2.2.lt⟩⟩
              try simp only [Act.put]
              refine grow_done (by kernel_rfl) (fun wA hA => ?_) _
              have HB2 := Lib.hid hA.1; have HO2 := Lib.hid hA.2.1; have HK2 := Lib.hid hA.2.2.1; have HD2 := Lib.hid hA.2.2.2; clear hA
              have d2 := HD2.out.cell (i := 2) (v := .int .i64 (bb : Nat)) rfl
              have cb := HK2.out.cell HFB.out; have cf := HK2.out.frozen bb
              have HO3 := Lib.hid (HO2.out.far (p := ⟨w.heap.size + 1, bb, none⟩) (by show w.heap.size ≠ w.heap.size + 1; omega) (.bool true)); have HD3 := Lib.hid (HD2.out.far (p := ⟨w.heap.size + 1, bb, none⟩) (by have := LK.out; show wr.heap.size ≠ w.heap.size + 1; omega) (.bool true)); have HB3 := Lib.hid (HB2.out.setCell (p := ⟨w.heap.size + 1, bb, none⟩) (by show w.heap.size ≤ w.heap.size + 1; omega) (.bool true))
              have hk3 := HK2.out.set bb (.bool true); rw [knC_set _ HB4.out] at hk3; have HK3 := Lib.hid hk3; clear hk3
              have x0 := HD3.out.cell (i := 0) (v := .int .i64 (a : Nat)) rfl; have x2 := HD3.out.cell (i := 2) (v := .int .i64 (bb : Nat)) rfl; have xa := HK3.out.cell HGA.out; have xb := HK3.out.cell HGB.out
              go_wp2_with fail
              clear d2 cb cf x0 x2 xa xb
              refine wp_region_grow (S := (fun w' => w'.cell? ⟨wr.heap.size, 0, none⟩ = some (.int .i64 (a : Nat)) ∧ w'.cell? ⟨wr.heap.size, 2, none⟩ = some (.int .i64 (bb : Nat)) ∧ w'.cell? ⟨w.heap.size + 1, a, none⟩ = some (.bool true) ∧ w'.cell? ⟨w.heap.size + 1, bb, none⟩ = some (.bool true) ∧ w'.cell? ⟨w.heap.size, a, none⟩ = some (.int .i64 va) ∧ w'.cell? ⟨w.heap.size, bb, none⟩ = some (.int .i64 nb))) ((fun w' => Below w.heap.size w w' ∧ Blk w' w.heap.size 3 (outC (upd s.v (bb : Int) nb)) ∧ Blk w' (w.heap.size + 1) 4 (knC (upd s.k (bb : Int) true)) ∧ Blk w' wr.heap.size 79 #[.int .i64 (a : Nat), .int .i64 ta, .int .i64 (bb : Nat), .int .i64 tb])) (by kernel_rfl) (⟨fun w2 h2 => ⟨h2.2.2.2.cell (i := 0) (v := .int .i64 (a : Nat)) rfl, h2.2.2.2.cell (i := 2) (v := .int .i64 (bb : Nat)) rfl, h2.2.2.1.cell HGA.out, h2.2.2.1.cell HGB.out, h2.2.1.cell HQN.out, h2.2.1.cell HQM.out⟩, fun w2 w3 h2 hb2 => ⟨h2.1.trans (hb2.mono h2.1.size), h2.2.1.below hb2 h2.2.1.lt, h2.2.2.1.below hb2 h2.2.2.1.lt, h2.2.2.2.below hb2 h2.2.2.2.lt⟩⟩) (⟨HB3.out.drew, HO3.out.drew, HK3.out.drew, HD3.out.drew⟩) (fun hCalm => ?_)
              refine grow_take 0 (some 103) ?_ rfl rfl (by kernel_rfl) (fun _ _ _ h => h) (by kernel_rfl) hCalm ?_ ?_
              rotate_left
              · intro wS hS; (try dsimp only at hS); go_simp <;> with_reducible rfl
              try simp only [Act.put, List.setIfInBounds_toArray, List.set_cons_zero, List.set_cons_succ]
              refine grow_take 1 (some 104) ?_ rfl rfl (by kernel_rfl) (fun _ _ _ h => h) (by kernel_rfl) hCalm ?_ ?_
              rotate_left
              · intro wS hS; (try dsimp only at hS); go_simp <;> with_reducible rfl
              try simp only [Act.put, List.setIfInBounds_toArray, List.set_cons_zero, List.set_cons_succ]
              refine grow_take 2 (some 105) ?_ rfl rfl (by kernel_rfl) (fun _ _ _ h => h) (by kernel_rfl) hCalm ?_ ?_
              rotate_left
              · intro wS hS; (try dsimp only at hS); go_simp <;> with_reducible rfl
              try simp only [Act.put, List.setIfInBounds_toArray, List.set_cons_zero, List.set_cons_succ]
              refine grow_take 3 (some 106) ?_ rfl rfl (by kernel_rfl) (fun _ _ _ h => h) (by kernel_rfl) hCalm ?_ ?_
              rotate_left
              · intro wS hS; (try dsimp only at hS); go_simp <;> with_reducible rfl
              try simp only [Act.put, List.setIfInBounds_toArray, List.set_cons_zero, List.set_cons_succ]
              refine grow_take 4 (some 107) ?_ rfl rfl (by kernel_rfl) (fun _ _ _ h => h) (by kernel_rfl) hCalm ?_ ?_
              rotate_left
              · intro wS hS; (try dsimp only at hS); go_simp <;> with_reducible rfl
              try simp only [Act.put, List.setIfInBounds_toArray, List.set_cons_zero, List.set_cons_succ]
              refine grow_take 5 (some 108) ?_ rfl rfl (by kernel_rfl) (fun _ _ _ h => h) (by kernel_rfl) hCalm ?_ ?_
              rotate_left
              · intro wS hS; (try dsimp only at hS); go_simp <;> with_reducible rfl
              try simp only [Act.put, List.setIfInBounds_toArray, List.set_cons_zero, List.set_cons_succ]
              refine grow_take 6 (some 109) ?_ rfl rfl (by kernel_rfl) (fun _ _ _ h => h) (by kernel_rfl) hCalm ?_ ?_
              rotate_left
              · intro wS hS; (try dsimp only at hS); go_simp <;> with_reducible rfl
              try simp only [Act.put, List.setIfInBounds_toArray, List.set_cons_zero, List.set_cons_succ]
              refine grow_take 7 (some 110) ?_ rfl rfl (by kernel_rfl) (fun _ _ _ h => h) (by kernel_rfl) hCalm ?_ ?_
              rotate_left
              · intro wS hS; (try dsimp only at hS); go_simp <;> with_reducible rfl
              try simp only [Act.put, List.setIfInBounds_toArray, List.set_cons_zero, List.set_cons_succ]
              refine grow_take 8 (some 111) ?_ rfl rfl (by kernel_rfl) (fun _ _ _ h => h) (by kernel_rfl) hCalm ?_ ?_
              rotate_left
              · intro wS hS; (try dsimp only at hS); go_simp <;> with_reducible rfl
              try simp only [Act.put, List.setIfInBounds_toArray, List.set_cons_zero, List.set_cons_succ]
              refine grow_take 9 (some 112) ?_ rfl rfl (by kernel_rfl) (fun _ _ _ h => h) (by kernel_rfl) hCalm ?_ ?_
              rotate_left
              · intro wS hS; (try dsimp only at hS); go_simp <;> with_reducible rfl
              try simp only [Act.put, List.setIfInBounds_toArray, List.set_cons_zero, List.set_cons_succ]
              refine grow_take 10 (some 113) ?_ rfl rfl (by kernel_rfl) (fun _ _ _ h => h) (by kernel_rfl) hCalm ?_ ?_
              rotate_left
              · intro wS hS; (try dsimp only at hS); go_simp <;> with_reducible rfl
              try simp only [Act.put, List.setIfInBounds_toArray, List.set_cons_zero, List.set_cons_succ]
              refine grow_take 11 (some 114) ?_ rfl rfl (by kernel_rfl) (fun _ _ _ h => h) (by kernel_rfl) hCalm ?_ ?_
              rotate_left
              · intro wS hS; (try dsimp only at hS); go_simp <;> with_reducible rfl
              try simp only [Act.put, List.setIfInBounds_toArray, List.set_cons_zero, List.set_cons_succ]
              refine grow_take 12 (some 115) ?_ rfl rfl (by kernel_rfl) (fun _ _ _ h => h) (by kernel_rfl) hCalm ?_ ?_
              rotate_left
              · intro wS hS; (try dsimp only at hS); go_simp <;> with_reducible rfl
              try simp only [Act.put, List.setIfInBounds_toArray, List.set_cons_zero, List.set_cons_succ]
              refine grow_take 13 (some 116) ?_ rfl rfl (by kernel_rfl) (fun _ _ _ h => h) (by kernel_rfl) hCalm ?_ ?_
              rotate_left
              · intro wS hS; (try dsimp only at hS); go_simp <;> with_reducible rfl
              try simp only [Act.put, List.setIfInBounds_toArray, List.set_cons_zero, List.set_cons_succ]
              refine grow_take 14 (some 117) ?_ rfl rfl (by kernel_rfl) (fun _ _ _ h => h) (by kernel_rfl) hCalm ?_ ?_
              rotate_left
              · intro wS hS; (try dsimp only at hS); go_simp <;> with_reducible rfl
              try simp only [Act.put, List.setIfInBounds_toArray, List.set_cons_zero, List.set_cons_succ]
              refine grow_take 15 (some 118) ?_ rfl rfl (by kernel_rfl) (fun _ _ _ h => h) (by kernel_rfl) hCalm ?_ ?_
              rotate_left
              · intro wS hS; (try dsimp only at hS); go_simp <;> with_reducible rfl
              try simp only [Act.put, List.setIfInBounds_toArray, List.set_cons_zero, List.set_cons_succ]
              refine grow_take 16 (some 119) ?_ rfl rfl (by kernel_rfl) (fun _ _ _ h => h) (by kernel_rfl) hCalm ?_ ?_
              rotate_left
              · intro wS hS; (try dsimp only at hS); go_simp <;> with_reducible rfl
              try simp only [Act.put, List.setIfInBounds_toArray, List.set_cons_zero, List.set_cons_succ]
              refine grow_take 17 (some 120) ?_ rfl rfl (by kernel_rfl) (fun _ _ _ h => h) (by kernel_rfl) hCalm ?_ ?_
              rotate_left
              · intro wS hS; (try dsimp only at hS); go_simp <;> with_reducible rfl
              try simp only [Act.put, List.setIfInBounds_toArray, List.set_cons_zero, List.set_cons_succ]
              refine grow_take 18 (some 121) ?_ rfl rfl (by kernel_rfl) (fun _ _ _ h => h) (by kernel_rfl) hCalm ?_ ?_
              rotate_left
              · intro wS hS; (try dsimp only at hS); go_simp <;> with_reducible rfl
              try simp only [Act.put, List.setIfInBounds_toArray, List.set_cons_zero, List.set_cons_succ]
              refine grow_take 19 (some 122) ?_ rfl rfl (by kernel_rfl) (fun _ _ _ h => h) (by kernel_rfl) hCalm ?_ ?_
              rotate_left
              · intro wS hS; (try dsimp only at hS); go_simp <;> with_reducible rfl
              try simp only [Act.put, List.setIfInBounds_toArray, List.set_cons_zero, List.set_cons_succ]
              refine grow_take 20 (some 123) ?_ rfl rfl (by kernel_rfl) (fun _ _ _ h => h) (by kernel_rfl) hCalm ?_ ?_
              rotate_left
              · intro wS hS; (try dsimp only at hS); go_simp <;> with_reducible rfl
              try simp only [Act.put, List.setIfInBounds_toArray, List.set_cons_zero, List.set_cons_succ]
              refine grow_take 21 (some 124) ?_ rfl rfl (by kernel_rfl) (fun _ _ _ h => h) (by kernel_rfl) hCalm ?_ ?_
              rotate_left
              · intro wS hS; (try dsimp only at hS); go_simp <;> with_reducible rfl
              try simp only [Act.put, List.setIfInBounds_toArray, List.set_cons_zero, List.set_cons_succ]
              refine grow_take 22 (some 125) ?_ rfl rfl (by kernel_rfl) (fun _ _ _ h => h) (by kernel_rfl) hCalm ?_ ?_
              rotate_left
              · intro wS hS; (try dsimp only at hS); go_simp <;> with_reducible rfl
              try simp only [Act.put, List.setIfInBounds_toArray, List.set_cons_zero, List.set_cons_succ]
              refine grow_take 23 (some 126) ?_ rfl rfl (by kernel_rfl) (fun _ _ _ h => h) (by kernel_rfl) hCalm ?_ ?_
              rotate_left
              · intro wS hS; (try dsimp only at hS); go_simp <;> with_reducible rfl
              try simp only [Act.put, List.setIfInBounds_toArray, List.set_cons_zero, List.set_cons_succ]
              refine grow_take 24 (some 127) ?_ rfl rfl (by kernel_rfl) (fun _ _ _ h => h) (by kernel_rfl) hCalm ?_ ?_
              rotate_left
              · intro wS hS; (try dsimp only at hS); go_simp <;> with_reducible rfl
              try simp only [Act.put, List.setIfInBounds_toArray, List.set_cons_zero, List.set_cons_succ]
              refine grow_take 25 (some 128) (.bool false) rfl rfl (by kernel_rfl) (fun _ _ _ h => h) (by kernel_rfl) hCalm ?_ ?_
              · intro wS hS; (try dsimp only at hS); go_simp
              try simp only [Act.put, List.setIfInBounds_toArray, List.set_cons_zero, List.set_cons_succ]
              refine grow_take 26 (some 129) ?_ rfl rfl (by kernel_rfl) (fun _ _ _ h => h) (by kernel_rfl) hCalm ?_ ?_
              rotate_left
              · intro wS hS; (try dsimp only at hS); go_simp <;> with_reducible rfl
              try simp only [Act.put, List.setIfInBounds_toArray, List.set_cons_zero, List.set_cons_succ]
              refine grow_done (by kernel_rfl) (fun wA hA => ?_) _
              have HB9 := Lib.hid hA.1; have HO9 := Lib.hid hA.2.1; have HK9 := Lib.hid hA.2.2.1; clear hA
              go_wp2_with fail
              go_roundw
              case rel => exact ⟨i + 1, (N2 + 1), by go_num, HI.out, by have := HTN2.out; omega, ⟨by rw [HS2.out, HSV.out]; exact HO9.out, by rw [HS2.out, HSK.out]; exact HK9.out⟩, by rw [HS2.out, HSV.out]; exact HBN.out, HCK2.out, HB9.out⟩
              case measure => have := HI.out; simp [intOf]; omega
            case true =>
              have HSS : Hid (s2 = s) := Lib.hid (by rw [HSU.out]; unfold sp1; rw [if_neg (by dsimp only; rw [← HKB.out]; simp), if_neg (by dsimp only; rw [← HKA.out]; simp)])
              have HSV : Hid (s2.v = s.v) := Lib.hid (by rw [HSS.out]); have HSK : Hid (s2.k = s.k) := Lib.hid (by rw [HSS.out])
              have HQO : Hid ((outC s.v)[bb]? = some (.int .i64 vb)) := Lib.hid (by rw [outC_at s.v HB4.out, ← HVB2.out]); have HQQ : Hid ((outC s.v)[a]? = some (.int .i64 va)) := Lib.hid (by rw [outC_at s.v HA4.out, ← HVA.out])
              have HFA : Hid ((knC s.k)[a]? = some (.bool true)) := Lib.hid (by rw [knC_at s.k HA4.out, ← HKA.out]); have HFB : Hid ((knC s.k)[bb]? = some (.bool true)) := Lib.hid (by rw [knC_at s.k HB4.out, ← HKB.out])
              go_wp2_with fail
              clear d0 d1 d2 d3 k0 k1 k2 k3 ca cb
              by_cases hdg : df = g
              case pos =>
                have HCK2 := Lib.hid (HCN.out (fun h => h.2.2 (by rw [HSV.out]; dsimp only; rw [← HVA.out, ← HVB2.out, ← HDF.out, hdg, HG.out])))
                have HDG := Lib.hid hdg; clear hdg
                refine wp_region_grow (S := (fun w' => w'.cell? ⟨wr.heap.size, 0, none⟩ = some (.int .i64 (a : Nat)) ∧ w'.cell? ⟨wr.heap.size, 2, none⟩ = some (.int .i64 (bb : Nat)) ∧ w'.cell? ⟨w.heap.size + 1, a, none⟩ = some (.bool true) ∧ w'.cell? ⟨w.heap.size + 1, bb, none⟩ = some (.bool true) ∧ w'.cell? ⟨w.heap.size, a, none⟩ = some (.int .i64 va) ∧ w'.cell? ⟨w.heap.size, bb, none⟩ = some (.int .i64 vb))) ((fun w' => Below w.heap.size w w' ∧ Blk w' w.heap.size 3 (outC s.v) ∧ Blk w' (w.heap.size + 1) 4 (knC s.k) ∧ Blk w' wr.heap.size 79 #[.int .i64 (a : Nat), .int .i64 ta, .int .i64 (bb : Nat), .int .i64 tb])) (by kernel_rfl) (⟨fun w2 h2 => ⟨h2.2.2.2.cell (i := 0) (v := .int .i64 (a : Nat)) rfl, h2.2.2.2.cell (i := 2) (v := .int .i64 (bb : Nat)) rfl, h2.2.2.1.cell HFA.out, h2.2.2.1.cell HFB.out, h2.2.1.cell HQQ.out, h2.2.1.cell HQO.out⟩, fun w2 w3 h2 hb2 => ⟨h2.1.trans (hb2.mono h2.1.size), h2.2.1.below hb2 h2.2.1.lt, h2.2.2.1.below hb2 h2.2.2.1.lt, h2.2.2.2.below hb2 h2.2.2.2.lt⟩⟩) (⟨HB1.out.drew, HO1.out.drew, HK1.out.drew, HD1.out.drew⟩) (fun hCalm => ?_)
                refine grow_take 0 (some 103) ?_ rfl rfl (by kernel_rfl) (fun _ _ _ h => h) (by kernel_rfl) hCalm ?_ ?_
                rotate_left
                · intro wS hS; (try dsimp only at hS); go_simp <;> with_reducible rfl
                try simp only [Act.put, List.setIfInBounds_toArray, List.set_cons_zero, List.set_cons_succ]
                refine grow_take 1 (some 104) ?_ rfl rfl (by kernel_rfl) (fun _ _ _ h => h) (by kernel_rfl) hCalm ?_ ?_
                rotate_left
                · intro wS hS; (try dsimp only at hS); go_simp <;> with_reducible rfl
                try simp only [Act.put, List.setIfInBounds_toArray, List.set_cons_zero, List.set_cons_succ]
                refine grow_take 2 (some 105) ?_ rfl rfl (by kernel_rfl) (fun _ _ _ h => h) (by kernel_rfl) hCalm ?_ ?_
                rotate_left
                · intro wS hS; (try dsimp only at hS); go_simp <;> with_reducible rfl
                try simp only [Act.put, List.setIfInBounds_toArray, List.set_cons_zero, List.set_cons_succ]
                refine grow_take 3 (some 106) ?_ rfl rfl (by kernel_rfl) (fun _ _ _ h => h) (by kernel_rfl) hCalm ?_ ?_
                rotate_left
                · intro wS hS; (try dsimp only at hS); go_simp <;> with_reducible rfl
                try simp only [Act.put, List.setIfInBounds_toArray, List.set_cons_zero, List.set_cons_succ]
                refine grow_take 4 (some 107) ?_ rfl rfl (by kernel_rfl) (fun _ _ _ h => h) (by kernel_rfl) hCalm ?_ ?_
                rotate_left
                · intro wS hS; (try dsimp only at hS); go_simp <;> with_reducible rfl
                try simp only [Act.put, List.setIfInBounds_toArray, List.set_cons_zero, List.set_cons_succ]
                refine grow_take 5 (some 108) ?_ rfl rfl (by kernel_rfl) (fun _ _ _ h => h) (by kernel_rfl) hCalm ?_ ?_
                rotate_left
                · intro wS hS; (try dsimp only at hS); go_simp <;> with_reducible rfl
                try simp only [Act.put, List.setIfInBounds_toArray, List.set_cons_zero, List.set_cons_succ]
                refine grow_take 6 (some 109) ?_ rfl rfl (by kernel_rfl) (fun _ _ _ h => h) (by kernel_rfl) hCalm ?_ ?_
                rotate_left
                · intro wS hS; (try dsimp only at hS); go_simp <;> with_reducible rfl
                try simp only [Act.put, List.setIfInBounds_toArray, List.set_cons_zero, List.set_cons_succ]
                refine grow_take 7 (some 110) ?_ rfl rfl (by kernel_rfl) (fun _ _ _ h => h) (by kernel_rfl) hCalm ?_ ?_
                rotate_left
                · intro wS hS; (try dsimp only at hS); go_simp <;> with_reducible rfl
                try simp only [Act.put, List.setIfInBounds_toArray, List.set_cons_zero, List.set_cons_succ]
                refine grow_take 8 (some 111) ?_ rfl rfl (by kernel_rfl) (fun _ _ _ h => h) (by kernel_rfl) hCalm ?_ ?_
                rotate_left
                · intro wS hS; (try dsimp only at hS); go_simp <;> with_reducible rfl
                try simp only [Act.put, List.setIfInBounds_toArray, List.set_cons_zero, List.set_cons_succ]
                refine grow_take 9 (some 112) ?_ rfl rfl (by kernel_rfl) (fun _ _ _ h => h) (by kernel_rfl) hCalm ?_ ?_
                rotate_left
                · intro wS hS; (try dsimp only at hS); go_simp <;> with_reducible rfl
                try simp only [Act.put, List.setIfInBounds_toArray, List.set_cons_zero, List.set_cons_succ]
                refine grow_take 10 (some 113) ?_ rfl rfl (by kernel_rfl) (fun _ _ _ h => h) (by kernel_rfl) hCalm ?_ ?_
                rotate_left
                · intro wS hS; (try dsimp only at hS); go_simp <;> with_reducible rfl
                try simp only [Act.put, List.setIfInBounds_toArray, List.set_cons_zero, List.set_cons_succ]
                refine grow_take 11 (some 114) ?_ rfl rfl (by kernel_rfl) (fun _ _ _ h => h) (by kernel_rfl) hCalm ?_ ?_
                rotate_left
                · intro wS hS; (try dsimp only at hS); go_simp <;> with_reducible rfl
                try simp only [Act.put, List.setIfInBounds_toArray, List.set_cons_zero, List.set_cons_succ]
                refine grow_take 12 (some 115) ?_ rfl rfl (by kernel_rfl) (fun _ _ _ h => h) (by kernel_rfl) hCalm ?_ ?_
                rotate_left
                · intro wS hS; (try dsimp only at hS); go_simp <;> with_reducible rfl
                try simp only [Act.put, List.setIfInBounds_toArray, List.set_cons_zero, List.set_cons_succ]
                refine grow_take 13 (some 116) ?_ rfl rfl (by kernel_rfl) (fun _ _ _ h => h) (by kernel_rfl) hCalm ?_ ?_
                rotate_left
                · intro wS hS; (try dsimp only at hS); go_simp <;> with_reducible rfl
                try simp only [Act.put, List.setIfInBounds_toArray, List.set_cons_zero, List.set_cons_succ]
                refine grow_take 14 (some 117) ?_ rfl rfl (by kernel_rfl) (fun _ _ _ h => h) (by kernel_rfl) hCalm ?_ ?_
                rotate_left
                · intro wS hS; (try dsimp only at hS); go_simp <;> with_reducible rfl
                try simp only [Act.put, List.setIfInBounds_toArray, List.set_cons_zero, List.set_cons_succ]
                refine grow_take 15 (some 118) ?_ rfl rfl (by kernel_rfl) (fun _ _ _ h => h) (by kernel_rfl) hCalm ?_ ?_
                rotate_left
                · intro wS hS; (try dsimp only at hS); go_simp <;> with_reducible rfl
                try simp only [Act.put, List.setIfInBounds_toArray, List.set_cons_zero, List.set_cons_succ]
                refine grow_take 16 (some 119) ?_ rfl rfl (by kernel_rfl) (fun _ _ _ h => h) (by kernel_rfl) hCalm ?_ ?_
                rotate_left
                · intro wS hS; (try dsimp only at hS); go_simp <;> with_reducible rfl
                try simp only [Act.put, List.setIfInBounds_toArray, List.set_cons_zero, List.set_cons_succ]
                refine grow_take 17 (some 120) ?_ rfl rfl (by kernel_rfl) (fun _ _ _ h => h) (by kernel_rfl) hCalm ?_ ?_
                rotate_left
                · intro wS hS; (try dsimp only at hS); go_simp <;> with_reducible rfl
                try simp only [Act.put, List.setIfInBounds_toArray, List.set_cons_zero, List.set_cons_succ]
                refine grow_take 18 (some 121) ?_ rfl rfl (by kernel_rfl) (fun _ _ _ h => h) (by kernel_rfl) hCalm ?_ ?_
                rotate_left
                · intro wS hS; (try dsimp only at hS); go_simp <;> with_reducible rfl
                try simp only [Act.put, List.setIfInBounds_toArray, List.set_cons_zero, List.set_cons_succ]
                refine grow_take 19 (some 122) ?_ rfl rfl (by kernel_rfl) (fun _ _ _ h => h) (by kernel_rfl) hCalm ?_ ?_
                rotate_left
                · intro wS hS; (try dsimp only at hS); go_simp <;> with_reducible rfl
                try simp only [Act.put, List.setIfInBounds_toArray, List.set_cons_zero, List.set_cons_succ]
                refine grow_take 20 (some 123) ?_ rfl rfl (by kernel_rfl) (fun _ _ _ h => h) (by kernel_rfl) hCalm ?_ ?_
                rotate_left
                · intro wS hS; (try dsimp only at hS); go_simp <;> with_reducible rfl
                try simp only [Act.put, List.setIfInBounds_toArray, List.set_cons_zero, List.set_cons_succ]
                refine grow_take 21 (some 124) ?_ rfl rfl (by kernel_rfl) (fun _ _ _ h => h) (by kernel_rfl) hCalm ?_ ?_
                rotate_left
                · intro wS hS; (try dsimp only at hS); go_simp <;> with_reducible rfl
                try simp only [Act.put, List.setIfInBounds_toArray, List.set_cons_zero, List.set_cons_succ]
                refine grow_take 22 (some 125) ?_ rfl rfl (by kernel_rfl) (fun _ _ _ h => h) (by kernel_rfl) hCalm ?_ ?_
                rotate_left
                · intro wS hS; (try dsimp only at hS); go_simp <;> with_reducible rfl
                try simp only [Act.put, List.setIfInBounds_toArray, List.set_cons_zero, List.set_cons_succ]
                refine grow_take 23 (some 126) ?_ rfl rfl (by kernel_rfl) (fun _ _ _ h => h) (by kernel_rfl) hCalm ?_ ?_
                rotate_left
                · intro wS hS; (try dsimp only at hS); go_simp <;> with_reducible rfl
                try simp only [Act.put, List.setIfInBounds_toArray, List.set_cons_zero, List.set_cons_succ]
                refine grow_take 24 (some 127) ?_ rfl rfl (by kernel_rfl) (fun _ _ _ h => h) (by kernel_rfl) hCalm ?_ ?_
                rotate_left
                · intro wS hS; (try dsimp only at hS); go_simp <;> with_reducible rfl
                try simp only [Act.put, List.setIfInBounds_toArray, List.set_cons_zero, List.set_cons_succ]
                refine grow_take 25 (some 128) (.bool false) rfl rfl (by kernel_rfl) (fun _ _ _ h => h) (by kernel_rfl) hCalm ?_ ?_
                · intro wS hS; (try dsimp only at hS); go_simp
                  exact HDG.out
                try simp only [Act.put, List.setIfInBounds_toArray, List.set_cons_zero, List.set_cons_succ]
                refine grow_take 26 (some 129) ?_ rfl rfl (by kernel_rfl) (fun _ _ _ h => h) (by kernel_rfl) hCalm ?_ ?_
                rotate_left
                · intro wS hS; (try dsimp only at hS); go_simp <;> with_reducible rfl
                try simp only [Act.put, List.setIfInBounds_toArray, List.set_cons_zero, List.set_cons_succ]
                refine grow_done (by kernel_rfl) (fun wA hA => ?_) _
                have HB9 := Lib.hid hA.1; have HO9 := Lib.hid hA.2.1; have HK9 := Lib.hid hA.2.2.1; clear hA
                go_wp2_with fail
                go_roundw
                case rel => exact ⟨i + 1, N2, by go_num, HI.out, by have := HTN2.out; omega, ⟨by rw [HS2.out, HSV.out]; exact HO9.out, by rw [HS2.out, HSK.out]; exact HK9.out⟩, by rw [HS2.out, HSV.out]; exact HBD.out, HCK2.out, HB9.out⟩
                case measure => have := HI.out; simp [intOf]; omega
              case neg =>
                have HBAD := Lib.hid (HBX.out ⟨by rw [HSK.out]; exact HKA.out.symm, by rw [HSK.out]; exact HKB.out.symm, by rw [HSV.out]; dsimp only; rw [← HVA.out, ← HVB2.out, ← HDF.out, ← HG.out]; exact hdg⟩)
                have HDG := Lib.hid hdg; clear hdg
                refine wp_region_grow (S := (fun w' => w'.cell? ⟨wr.heap.size, 0, none⟩ = some (.int .i64 (a : Nat)) ∧ w'.cell? ⟨wr.heap.size, 2, none⟩ = some (.int .i64 (bb : Nat)) ∧ w'.cell? ⟨w.heap.size + 1, a, none⟩ = some (.bool true) ∧ w'.cell? ⟨w.heap.size + 1, bb, none⟩ = some (.bool true) ∧ w'.cell? ⟨w.heap.size, a, none⟩ = some (.int .i64 va) ∧ w'.cell? ⟨w.heap.size, bb, none⟩ = some (.int .i64 vb))) ((fun w' => Below w.heap.size w w' ∧ Blk w' w.heap.size 3 (outC s.v) ∧ Blk w' (w.heap.size + 1) 4 (knC s.k) ∧ Blk w' wr.heap.size 79 #[.int .i64 (a : Nat), .int .i64 ta, .int .i64 (bb : Nat), .int .i64 tb])) (by kernel_rfl) (⟨fun w2 h2 => ⟨h2.2.2.2.cell (i := 0) (v := .int .i64 (a : Nat)) rfl, h2.2.2.2.cell (i := 2) (v := .int .i64 (bb : Nat)) rfl, h2.2.2.1.cell HFA.out, h2.2.2.1.cell HFB.out, h2.2.1.cell HQQ.out, h2.2.1.cell HQO.out⟩, fun w2 w3 h2 hb2 => ⟨h2.1.trans (hb2.mono h2.1.size), h2.2.1.below hb2 h2.2.1.lt, h2.2.2.1.below hb2 h2.2.2.1.lt, h2.2.2.2.below hb2 h2.2.2.2.lt⟩⟩) (⟨HB1.out.drew, HO1.out.drew, HK1.out.drew, HD1.out.drew⟩) (fun hCalm => ?_)
                refine grow_take 0 (some 103) ?_ rfl rfl (by kernel_rfl) (fun _ _ _ h => h) (by kernel_rfl) hCalm ?_ ?_
                rotate_left
                · intro wS hS; (try dsimp only at hS); go_simp <;> with_reducible rfl
                try simp only [Act.put, List.setIfInBounds_toArray, List.set_cons_zero, List.set_cons_succ]
                refine grow_take 1 (some 104) ?_ rfl rfl (by kernel_rfl) (fun _ _ _ h => h) (by kernel_rfl) hCalm ?_ ?_
                rotate_left
                · intro wS hS; (try dsimp only at hS); go_simp <;> with_reducible rfl
                try simp only [Act.put, List.setIfInBounds_toArray, List.set_cons_zero, List.set_cons_succ]
                refine grow_take 2 (some 105) ?_ rfl rfl (by kernel_rfl) (fun _ _ _ h => h) (by kernel_rfl) hCalm ?_ ?_
                rotate_left
                · intro wS hS; (try dsimp only at hS); go_simp <;> with_reducible rfl
                try simp only [Act.put, List.setIfInBounds_toArray, List.set_cons_zero, List.set_cons_succ]
                refine grow_take 3 (some 106) ?_ rfl rfl (by kernel_rfl) (fun _ _ _ h => h) (by kernel_rfl) hCalm ?_ ?_
                rotate_left
                · intro wS hS; (try dsimp only at hS); go_simp <;> with_reducible rfl
                try simp only [Act.put, List.setIfInBounds_toArray, List.set_cons_zero, List.set_cons_succ]
                refine grow_take 4 (some 107) ?_ rfl rfl (by kernel_rfl) (fun _ _ _ h => h) (by kernel_rfl) hCalm ?_ ?_
                rotate_left
                · intro wS hS; (try dsimp only at hS); go_simp <;> with_reducible rfl
                try simp only [Act.put, List.setIfInBounds_toArray, List.set_cons_zero, List.set_cons_succ]
                refine grow_take 5 (some 108) ?_ rfl rfl (by kernel_rfl) (fun _ _ _ h => h) (by kernel_rfl) hCalm ?_ ?_
                rotate_left
                · intro wS hS; (try dsimp only at hS); go_simp <;> with_reducible rfl
                try simp only [Act.put, List.setIfInBounds_toArray, List.set_cons_zero, List.set_cons_succ]
                refine grow_take 6 (some 109) ?_ rfl rfl (by kernel_rfl) (fun _ _ _ h => h) (by kernel_rfl) hCalm ?_ ?_
                rotate_left
                · intro wS hS; (try dsimp only at hS); go_simp <;> with_reducible rfl
                try simp only [Act.put, List.setIfInBounds_toArray, List.set_cons_zero, List.set_cons_succ]
                refine grow_take 7 (some 110) ?_ rfl rfl (by kernel_rfl) (fun _ _ _ h => h) (by kernel_rfl) hCalm ?_ ?_
                rotate_left
                · intro wS hS; (try dsimp only at hS); go_simp <;> with_reducible rfl
                try simp only [Act.put, List.setIfInBounds_toArray, List.set_cons_zero, List.set_cons_succ]
                refine grow_take 8 (some 111) ?_ rfl rfl (by kernel_rfl) (fun _ _ _ h => h) (by kernel_rfl) hCalm ?_ ?_
                rotate_left
                · intro wS hS; (try dsimp only at hS); go_simp <;> with_reducible rfl
                try simp only [Act.put, List.setIfInBounds_toArray, List.set_cons_zero, List.set_cons_succ]
                refine grow_take 9 (some 112) ?_ rfl rfl (by kernel_rfl) (fun _ _ _ h => h) (by kernel_rfl) hCalm ?_ ?_
                rotate_left
                · intro wS hS; (try dsimp only at hS); go_simp <;> with_reducible rfl
                try simp only [Act.put, List.setIfInBounds_toArray, List.set_cons_zero, List.set_cons_succ]
                refine grow_take 10 (some 113) ?_ rfl rfl (by kernel_rfl) (fun _ _ _ h => h) (by kernel_rfl) hCalm ?_ ?_
                rotate_left
                · intro wS hS; (try dsimp only at hS); go_simp <;> with_reducible rfl
                try simp only [Act.put, List.setIfInBounds_toArray, List.set_cons_zero, List.set_cons_succ]
                refine grow_take 11 (some 114) ?_ rfl rfl (by kernel_rfl) (fun _ _ _ h => h) (by kernel_rfl) hCalm ?_ ?_
                rotate_left
                · intro wS hS; (try dsimp only at hS); go_simp <;> with_reducible rfl
                try simp only [Act.put, List.setIfInBounds_toArray, List.set_cons_zero, List.set_cons_succ]
                refine grow_take 12 (some 115) ?_ rfl rfl (by kernel_rfl) (fun _ _ _ h => h) (by kernel_rfl) hCalm ?_ ?_
                rotate_left
                · intro wS hS; (try dsimp only at hS); go_simp <;> with_reducible rfl
                try simp only [Act.put, List.setIfInBounds_toArray, List.set_cons_zero, List.set_cons_succ]
                refine grow_take 13 (some 116) ?_ rfl rfl (by kernel_rfl) (fun _ _ _ h => h) (by kernel_rfl) hCalm ?_ ?_
                rotate_left
                · intro wS hS; (try dsimp only at hS); go_simp <;> with_reducible rfl
                try simp only [Act.put, List.setIfInBounds_toArray, List.set_cons_zero, List.set_cons_succ]
                refine grow_take 14 (some 117) ?_ rfl rfl (by kernel_rfl) (fun _ _ _ h => h) (by kernel_rfl) hCalm ?_ ?_
                rotate_left
                · intro wS hS; (try dsimp only at hS); go_simp <;> with_reducible rfl
                try simp only [Act.put, List.setIfInBounds_toArray, List.set_cons_zero, List.set_cons_succ]
                refine grow_take 15 (some 118) ?_ rfl rfl (by kernel_rfl) (fun _ _ _ h => h) (by kernel_rfl) hCalm ?_ ?_
                rotate_left
                · intro wS hS; (try dsimp only at hS); go_simp <;> with_reducible rfl
                try simp only [Act.put, List.setIfInBounds_toArray, List.set_cons_zero, List.set_cons_succ]
                refine grow_take 16 (some 119) ?_ rfl rfl (by kernel_rfl) (fun _ _ _ h => h) (by kernel_rfl) hCalm ?_ ?_
                rotate_left
                · intro wS hS; (try dsimp only at hS); go_simp <;> with_reducible rfl
                try simp only [Act.put, List.setIfInBounds_toArray, List.set_cons_zero, List.set_cons_succ]
                refine grow_take 17 (some 120) ?_ rfl rfl (by kernel_rfl) (fun _ _ _ h => h) (by kernel_rfl) hCalm ?_ ?_
                rotate_left
                · intro wS hS; (try dsimp only at hS); go_simp <;> with_reducible rfl
                try simp only [Act.put, List.setIfInBounds_toArray, List.set_cons_zero, List.set_cons_succ]
                refine grow_take 18 (some 121) ?_ rfl rfl (by kernel_rfl) (fun _ _ _ h => h) (by kernel_rfl) hCalm ?_ ?_
                rotate_left
                · intro wS hS; (try dsimp only at hS); go_simp <;> with_reducible rfl
                try simp only [Act.put, List.setIfInBounds_toArray, List.set_cons_zero, List.set_cons_succ]
                refine grow_take 19 (some 122) ?_ rfl rfl (by kernel_rfl) (fun _ _ _ h => h) (by kernel_rfl) hCalm ?_ ?_
                rotate_left
                · intro wS hS; (try dsimp only at hS); go_simp <;> with_reducible rfl
                try simp only [Act.put, List.setIfInBounds_toArray, List.set_cons_zero, List.set_cons_succ]
                refine grow_take 20 (some 123) ?_ rfl rfl (by kernel_rfl) (fun _ _ _ h => h) (by kernel_rfl) hCalm ?_ ?_
                rotate_left
                · intro wS hS; (try dsimp only at hS); go_simp <;> with_reducible rfl
                try simp only [Act.put, List.setIfInBounds_toArray, List.set_cons_zero, List.set_cons_succ]
                refine grow_take 21 (some 124) ?_ rfl rfl (by kernel_rfl) (fun _ _ _ h => h) (by kernel_rfl) hCalm ?_ ?_
                rotate_left
                · intro wS hS; (try dsimp only at hS); go_simp <;> with_reducible rfl
                try simp only [Act.put, List.setIfInBounds_toArray, List.set_cons_zero, List.set_cons_succ]
                refine grow_take 22 (some 125) ?_ rfl rfl (by kernel_rfl) (fun _ _ _ h => h) (by kernel_rfl) hCalm ?_ ?_
                rotate_left
                · intro wS hS; (try dsimp only at hS); go_simp <;> with_reducible rfl
                try simp only [Act.put, List.setIfInBounds_toArray, List.set_cons_zero, List.set_cons_succ]
                refine grow_take 23 (some 126) ?_ rfl rfl (by kernel_rfl) (fun _ _ _ h => h) (by kernel_rfl) hCalm ?_ ?_
                rotate_left
                · intro wS hS; (try dsimp only at hS); go_simp <;> with_reducible rfl
                try simp only [Act.put, List.setIfInBounds_toArray, List.set_cons_zero, List.set_cons_succ]
                refine grow_take 24 (some 127) ?_ rfl rfl (by kernel_rfl) (fun _ _ _ h => h) (by kernel_rfl) hCalm ?_ ?_
                rotate_left
                · intro wS hS; (try dsimp only at hS); go_simp <;> with_reducible rfl
                try simp only [Act.put, List.setIfInBounds_toArray, List.set_cons_zero, List.set_cons_succ]
                refine grow_take 25 (some 128) (.bool true) rfl rfl (by kernel_rfl) (fun _ _ _ h => h) (by kernel_rfl) hCalm ?_ ?_
                · intro wS hS; (try dsimp only at hS); go_simp
                  exact HDG.out
                try simp only [Act.put, List.setIfInBounds_toArray, List.set_cons_zero, List.set_cons_succ]
                refine grow_take 26 (some 129) ?_ rfl rfl (by kernel_rfl) (fun _ _ _ h => h) (by kernel_rfl) hCalm ?_ ?_
                rotate_left
                · intro wS hS; (try dsimp only at hS); go_simp <;> with_reducible rfl
                try simp only [Act.put, List.setIfInBounds_toArray, List.set_cons_zero, List.set_cons_succ]
                refine grow_done (by kernel_rfl) (fun wA hA => ?_) _
                have HB9 := Lib.hid hA.1; have HO9 := Lib.hid hA.2.1; have HK9 := Lib.hid hA.2.2.1; clear hA
                have HBB : Hid (∀ q, -10000000000 ≤ s.v q ∧ s.v q ≤ 10000000000) := Lib.hid (fun q => by have h1 := HBD.out q; have h2 := HTN2.out; have h3 := HTL.out; have h4 := HI.out; omega)
                go_wp2_with fail
                exact bodyPost_ret (v := .tuple #[.slice (some ⟨w.heap.size, 0, none⟩) 40 40, .slice (some ⟨w.heap.size + 1, 0, none⟩) 40 40, .bool false]) (by kernel_rfl) rfl ⟨⟨s, false, _, _, rfl, HO9.out, HK9.out, ⟨fun _ => HBAD.out, fun h => by cases h⟩, HBB.out⟩, HB9.out⟩
end Go.Proofs.Ytbcgfohacbapoaa
