/- The contract of the reference's Sum. Condition: the string is no longer than 100,000 bytes. -/
import Derived.Test.YthaegodeijfbdaaDoorRefBlock
namespace Go.Proofs.YthaegodeijfbdaaDoor
open Go.RowKit Go.Lib

theorem chunks_length : ∀ (m : Nat) (r : List UInt8), (chunks m r).length = m
  | 0, _ => rfl
  | m + 1, r => by rw [chunks, List.length_cons, chunks_length m]
theorem chunks_get : ∀ (m : Nat) (r : List UInt8) (k : Nat), k < m → (chunks m r)[k]? = some ((r.drop (64 * k)).take 64)
  | 0, _, k, h => absurd h (by omega)
  | m + 1, r, 0, _ => by rw [chunks]; simp
  | m + 1, r, k + 1, h => by
    rw [chunks, List.getElem?_cons_succ, chunks_get m _ k (by omega), List.drop_drop, show 64 + 64 * k = 64 * (k + 1) from by omega]
theorem mixAll_next {m k : Nat} {r : List UInt8} (h : k < m) : mixAll s8 ((chunks m r).take (k + 1)) = mixS (mixAll s8 ((chunks m r).take k)) ((r.drop (64 * k)).take 64) := by
  rw [← mixAll_snoc, List.take_add_one, chunks_get m r k h]; rfl
theorem pad_length (l : List UInt8) : (l ++ padding l.length).length = 64 * ((l.length + 72) / 64) := by
  rw [List.length_append]; unfold padding
  rw [List.length_cons, List.length_append, List.length_replicate, show (be8 (8 * l.length)).length = 8 from rfl]; omega

theorem own_bytes {W : World} {B e n x : Nat} {v : Value} {xs : List Value} {y1 y2 y3 y4 : Int} (hx : x < 4294967296) (h : W.ownsRow B e 1 v n (xs ++ [.int .u8 y1, .int .u8 y2, .int .u8 y3, .int .u8 y4]))
    (h1 : y1 = (x : Int) / 16777216) (h2 : y2 = (x : Int) / 65536 % 256) (h3 : y3 = (x : Int) / 256 % 256) (h4 : y4 = (x : Int) % 256) : W.ownsRow B e 1 v n (xs ++ (be4 x).map bv) := by
  subst h1; subst h2; subst h3; subst h4
  rw [be4_map hx]; exact h
theorem own_cap {W : World} {B e n c : Nat} {A : Option Addr} {xs : List Value} (h : W.ownsRow B e 1 (.slice A n c) n xs) : n ≤ c := by
  rcases h.2 with ⟨h0, h1⟩ | ⟨g, cap, cur, hv, _, _, hc, _⟩
  · omega
  · cases hv; exact hc

set_option maxRecDepth 100000 in
set_option maxHeartbeats 4000000 in
theorem refsum_any (s : ByteArray) (w : World) (hs : s.size ≤ 100000) :
    Calls Tryd.prog 8 #[.string s] w fun e w' => e = .returned (.string (dg s.data.toList)) ∧ Below w.heap.size w w' := by
  obtain ⟨i0, hi0, hz0, hz1, hz2⟩ := info_parts info_u8
  have E1 := Lib.hid fun W => extended_any s W hs
  go_enter Tryd.func8, Tryd.ntmps8
  go_wp2_with fail
  refine (E1.out _).mono ?_
  rintro e W1 ⟨v, rfl, ho, hb⟩
  obtain ⟨l, hl⟩ : ∃ l, l = s.data.toList ++ padding s.size := ⟨_, rfl⟩
  obtain ⟨M, hM⟩ : ∃ M, M = (s.size + 72) / 64 := ⟨_, rfl⟩
  have hll : l.length = 64 * M := by rw [hl, hM]; exact pad_length s.data.toList
  rw [← hl] at ho
  have hM1 : 1 ≤ M := by omega
  have hM2 : M ≤ 2000 := by omega
  rw [hll] at ho
  obtain ⟨gb, cb, rfl⟩ := own_pos ho (by omega)
  have hcap : 64 * M ≤ cb := own_cap ho
  have hbs := hb.size
  have hg := own_lt ho
  have HCB : Hid (∀ j (x : UInt8), l[j]? = some x → W1.cell? ⟨gb, j, none⟩ = some (bv x)) := fun j x hj => by
    have hjl : j < l.length := (List.getElem?_eq_some_iff.1 hj).1
    rw [ho.cellAt j (by omega), List.getElem?_map, hj]; rfl
  have hsh : sha s.data.toList = out8 (mixAll s8 (chunks M l)) := by
    unfold sha blocksOf
    rw [hl, hM]; rfl
  have HSH := Lib.hid hsh
  have HB0 := Lib.hid hb
  have HLL := Lib.hid hll
  have hH0 : ∀ j v, (s8.words.map wv)[j]? = some v → (w.alloc (.cells (s8.words.map wv).toArray 38)).cell? ⟨w.heap.size, j, none⟩ = some v := fun j v hj => (Blk.new w _ _).cell (by rw [List.getElem?_toArray]; exact hj)
  have HH0 : Hid (∀ j v, (s8.words.map wv)[j]? = some v → W1.cell? ⟨w.heap.size, j, none⟩ = some v) := fun j v hj => (hb.cell (p := ⟨w.heap.size, j, none⟩) (by simp)).trans (hH0 j v hj)
  have hw1 : w.heap.size < W1.heap.size := by simp at hbs; omega
  have HBW : Hid (Below w.heap.size w W1) := ((Below.refl _ w).alloc (Nat.le_refl _) _).trans (hb.mono (by simp))
  clear hll hsh hb hbs hH0 ho hl hM
  go_wp2_with fail
  go_loopw [3, 5] (fun vv ii wr => ∃ k g c : Nat, ii = .int .i64 (64 * k) ∧ k ≤ M ∧ vv = .slice (some ⟨g, 0, none⟩) 8 c ∧ g < wr.heap.size ∧ Hid (∀ j v, ((mixAll s8 ((chunks M l).take k)).words.map wv)[j]? = some v → wr.cell? ⟨g, j, none⟩ = some v) ∧ Below W1.heap.size W1 wr) (fun _ ii _ => 64 * M - (intOf ii).toNat)
  case atStart => exact ⟨0, w.heap.size, 8, rfl, by omega, rfl, hw1, HH0.out, Below.refl _ _⟩
  case round =>
    obtain ⟨k, g, c, rfl, hk, rfl, hgr, HC, hbr⟩ := hrel
    have hbs := hbr.size
    by_cases hlt : k < M
    · have hbl : ((l.drop (64 * k)).take 64).length = 64 := by rw [List.length_take, List.length_drop, HLL.out]; omega
      have hCC : ∀ j v, (((l.drop (64 * k)).take 64).map bv).toArray[j]? = some v → wr.cell? ⟨gb, 64 * k + j, none⟩ = some v := fun j v hj => by
        rw [List.getElem?_toArray, List.getElem?_map] at hj
        by_cases hj64 : j < 64
        · rw [List.getElem?_take_of_lt hj64, List.getElem?_drop] at hj
          obtain ⟨x, hx, rfl⟩ := Option.map_eq_some_iff.1 hj
          exact (hbr.cell (p := ⟨gb, 64 * k + j, none⟩) hg).trans (HCB.out _ _ hx)
        · rw [List.getElem?_eq_none (by rw [hbl]; omega)] at hj; cases hj
      have hgb : gb < wr.heap.size := Nat.lt_of_lt_of_le hg hbs
      have BL := Lib.hid (block_any (mixAll s8 ((chunks M l).take k)) _ _ g c gb (64 * k) (cb - 64 * k) wr (mixAll_ok s8_ok _) rfl hbl hgr hgb HC.out hCC)
      rw [← mixAll_next hlt] at BL
      have HBR := Lib.hid hbr
      clear hbl hCC hbr
      go_wp2_with fail
      refine BL.out.mono ?_
      rintro e w2 ⟨v2, rfl, ho2, hb2⟩
      obtain ⟨g2, c2, rfl⟩ := own_pos ho2 (by show 0 < 8; omega)
      have hg2 := own_lt ho2
      have HC2 : Hid (∀ j v, ((mixAll s8 ((chunks M l).take (k + 1))).words.map wv)[j]? = some v → w2.cell? ⟨g2, j, none⟩ = some v) := fun j v hj => by
        have hj8 : j < 8 := (List.getElem?_eq_some_iff.1 hj).1
        rw [ho2.cellAt j (by show j < 8 * 1; omega)]; exact hj
      have HB2 := Lib.hid (HBR.out.trans (hb2.mono hbs))
      clear ho2 hb2
      go_wp2_with fail
      go_roundw
      case rel => exact ⟨k + 1, g2, c2, by go_num, by omega, rfl, hg2, HC2.out, HB2.out⟩
      case measure => simp [intOf]; omega
    · obtain rfl : k = M := by omega
      obtain ⟨t, ht⟩ : ∃ t, t = mixAll s8 ((chunks k l).take k) := ⟨_, rfl⟩
      rw [← ht] at HC
      have htok : t.ok := by rw [ht]; exact mixAll_ok s8_ok _
      have hsha : sha s.data.toList = t.words.flatMap be4 := by
        rw [HSH.out, ht, List.take_of_length_le (by rw [chunks_length]; omega)]; rfl
      have HSHA := Lib.hid hsha; have HTOK := Lib.hid htok
      have HBX := Lib.hid (HBW.out.trans (hbr.mono (Nat.le_of_lt hw1)))
      clear hsha htok ht hbr
      obtain ⟨W2, rfl⟩ : ∃ W2 : World, W2 = wr := ⟨_, rfl⟩
      go_wp2_with fail
      go_loopw [6, 7] (fun vv ii wr => ∃ j : Nat, ii = .int .i64 j ∧ j ≤ 8 ∧ wr.ownsRow W2.heap.size 5 1 vv (4 * j) (((t.words.take j).flatMap be4).map bv) ∧ Below W2.heap.size W2 wr) (fun _ ii _ => 8 - (intOf ii).toNat)
      case atStart => exact ⟨0, rfl, by omega, World.ownsRow_nil _ _ _ _, Below.refl _ _⟩
      case round =>
        obtain ⟨j, rfl, hj, hown, hbw⟩ := hrel
        have hbs3 := hbw.size
        by_cases hlt : j < 8
        · have l1 := words_lt HTOK.out ⟨j, hlt⟩
          have w1 := words_at t ⟨j, hlt⟩
          dsimp only at l1 w1
          obtain ⟨x, hx⟩ : ∃ x, x = t.words.getD j 0 := ⟨_, rfl⟩
          rw [← hx] at l1 w1
          have hcx : wr.cell? ⟨g, j, none⟩ = some (.int .u32 (x : Nat)) := (hbw.cell (p := ⟨g, j, none⟩) hgr).trans (HC.out _ _ w1)
          have HX := Lib.hid hx
          have q1 : (0 : Int) ≤ (j : Int) := by omega
          have q2 : (j : Int) < 8 := by omega
          clear hx w1
          have HK := Lib.hid fun W (h : Below W2.heap.size W2 W) => (h.cell (p := ⟨g, j, none⟩) hgr).trans (HC.out _ _ (by
            have := words_at t ⟨j, hlt⟩
            dsimp only at this
            rw [← HX.out] at this
            exact this))
          have bK := hbw.drew
          go_wp2_with fail
          go_region_held3 (fun w' => w'.cell? ⟨g, j, none⟩ = some (.int .u32 (x : Nat))) (first | exact HK.out _ bK | exact HK.out _ (bK.alloc bK.size _))
            (first
              | (refine step_append_own rfl _ _ 40 rfl W2.heap.size 5 i0 (.int .u8 0) 1 1 Tryd.underlying40 hi0 hz0 hz1 hz2 rfl (by decide) _ _ _ (by kernel_rfl) (hown.drew.alloc _) ⟨wr.heap.size, 0, none⟩ 4 4 [_, _, _, _] (by kernel_rfl) rfl (cells_new _ _ _) (by simp [Value.oneCell']) (by unfold maxLen; omega) (by omega) (by simp; omega) ?_; intro v3 W5 ho3 hg3; have bK := (bK.alloc bK.size _).grown hg3 (by simp; omega) (own_base hown)))
          all_goals
            clear HK
            have ho4 := own_bytes (x := x) l1 ho3 (by (try simp only [IntKind.wrap_u8]); omega) (by (try simp only [IntKind.wrap_u8]); try omega) (by (try simp only [IntKind.wrap_u8]); try omega) (by (try simp only [IntKind.wrap_u8]); try omega)
            have HO4 := Lib.hid ho4
            have HB4 := Lib.hid bK
            clear ho3 hg3 ho4 bK
            go_wp2
            go_roundw
            case rel =>
              refine ⟨j + 1, by go_num, by omega, ?_, HB4.out⟩
              rw [words_take t ⟨j, hlt⟩, ← HX.out, List.map_append]
              exact HO4.out
            case measure => simp [intOf]; omega
        · obtain rfl : j = 8 := by omega
          have e1 : 4 * 8 = (sha s.data.toList).length := by rw [sha_length]
          have e2 : (t.words.take 8).flatMap be4 = sha s.data.toList := by rw [HSHA.out]; rfl
          rw [e1, e2] at hown
          have hcv := run_string_own (P := Tryd.prog) 40 9 Tryd.underlying40 Tryd.underlying5 Tryd.underlying9 hown
          have HO := Lib.hid hbw
          clear e1 e2 hown hbw
          go_wp2_with fail
          go_ret
          exact ⟨rfl, HBX.out.trans (HO.out.mono HBX.out.size)⟩
end Go.Proofs.YthaegodeijfbdaaDoor
