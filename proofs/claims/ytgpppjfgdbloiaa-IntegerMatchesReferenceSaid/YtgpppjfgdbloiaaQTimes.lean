/- The contract of the reference's times. Condition: the digits read, and there are at most 1,000. -/
import Derived.Test.YtgpppjfgdbloiaaQPlus
namespace Go.Proofs.Ytgpppjfgdbloiaa
open Go.RowKit Go.Lib

/-- The number that columns of digits are. -/
def dcv : List Int → Int
  | [] => 0
  | c :: L => c + 10 * dcv L
theorem dcv_set : ∀ (L : List Int) (i : Nat) (x : Int) (h : i < L.length), dcv (L.set i x) = dcv L + (x - L[i]) * 10 ^ i
  | c :: L, 0, x, _ => by simp [dcv]; omega
  | c :: L, i + 1, x, h => by
    have := dcv_set L i x (by simpa using h)
    simp only [List.set_cons_succ, dcv, List.getElem_cons_succ, this]
    grind
theorem dcv_zeros : ∀ k, dcv (List.replicate k (0 : Int)) = 0
  | 0 => rfl
  | k + 1 => by rw [List.replicate_succ, dcv, dcv_zeros k]; rfl
theorem dcv_nonneg : ∀ (L : List Int), (∀ c ∈ L, (0 : Int) ≤ c ∧ c ≤ 9) → 0 ≤ dcv L
  | [], _ => by simp [dcv]
  | c :: L, h => by
    have h1 := dcv_nonneg L fun d hd => h d (List.mem_cons_of_mem _ hd)
    have h2 := h c (by simp)
    simp only [dcv]; omega
theorem d10_low (V : Nat) : d10 V 0 = V % 10 := by unfold d10; simp
theorem d10_up (V i : Nat) : d10 V (i + 1) = d10 (V / 10) i := by
  unfold d10; rw [Nat.pow_succ, Nat.mul_comm (10 ^ i), ← Nat.div_div_eq_div_mul]
theorem digs_cons (V n : Nat) : digs V (n + 1) = ((V % 10 : Nat) : Int) :: digs (V / 10) n := by
  apply List.ext_getElem
  · simp [digs_length]
  · intro i h1 h2
    rw [digs_at]
    cases i with
    | zero => rw [d10_low]; rfl
    | succ i => rw [d10_up, List.getElem_cons_succ, digs_at]
theorem digs_of : ∀ (L : List Int) (V : Nat), (∀ c ∈ L, (0 : Int) ≤ c ∧ c ≤ 9) → dcv L = V → L = digs V L.length
  | [], _, _, _ => rfl
  | c :: L, V, h, hV => by
    have h1 := dcv_nonneg L fun d hd => h d (List.mem_cons_of_mem _ hd)
    have h2 := h c (by simp)
    simp only [dcv] at hV
    have h3 := digs_of L (V / 10) (fun d hd => h d (List.mem_cons_of_mem _ hd)) (by omega)
    rw [List.length_cons, digs_cons, ← h3]
    congr 1; omega
theorem Dm.of_blk {w : World} {V g : Nat} {t : TypeId} {L : List Int} (h : Blk w g t (L.map iv).toArray) (hL : L = digs V L.length) : Dm w (some ⟨g, 0, none⟩) L.length L.length V :=
  ⟨Nat.le_refl _, fun _ => ⟨g, 0, rfl, h.lt, fun i hi => by
    rw [Nat.zero_add]
    have h1 := h.cell (iv_at hi)
    rw [h1]
    have h2 : L[i] = (digs V L.length)[i]'(by rw [digs_length]; exact hi) := by congr 1
    rw [h2, digs_at]; rfl⟩⟩
theorem d9_set {L : List Int} {i : Nat} {x : Int} (hb : ∀ c ∈ L, (0 : Int) ≤ c ∧ c ≤ 9) (hx : 0 ≤ x ∧ x ≤ 9) : ∀ c ∈ L.set i x, (0 : Int) ≤ c ∧ c ≤ 9 := by
  intro c hc
  rcases List.mem_or_eq_of_mem_set hc with h1 | rfl
  · exact hb c h1
  · exact hx
theorem de_bd {d e : Nat} (hd : d < 10) (he : e < 10) : (0 : Int) ≤ (d : Int) * (e : Int) ∧ (d : Int) * (e : Int) ≤ 81 := by
  have h := Nat.mul_le_mul (show d ≤ 9 by omega) (show e ≤ 9 by omega)
  have : (d : Int) * (e : Int) = ((d * e : Nat) : Int) := by push_cast; rfl
  omega
/-- One column more. -/
theorem times_step {D x y k k' d e a b S M : Int} (h : D + k * (a * b) = S + d * a * M) (hx : x + 10 * k' = y + k + d * e) : D + (x - y) * (a * b) + k' * (a * (b * 10)) = S + d * a * (M + b * e) := by
  have : x = y + k + d * e - 10 * k' := by omega
  subst this
  grind
/-- The carry ends in the first column behind. -/
theorem times_room {D : Int} {P d Y i j m k : Nat} (hD : 0 ≤ D) (hk : 0 < k) (h : D + (k : Int) * (10 : Int) ^ (i + j) = (P * Y + d * 10 ^ i * Y : Nat)) (hP : P + d * 10 ^ i < 10 ^ (i + 1)) (hY : Y < 10 ^ m) : j ≤ m := by
  rcases Nat.lt_or_ge m j with h1 | h1
  · exfalso
    have h2 : (10 : Nat) ^ (i + 1 + m) ≤ 10 ^ (i + j) := Nat.pow_le_pow_right (by omega) (by omega)
    have h3 : (P + d * 10 ^ i) * Y < 10 ^ (i + 1) * 10 ^ m := Nat.mul_lt_mul'' hP hY
    rw [← Nat.pow_add, Nat.add_mul] at h3
    have h4 : 10 ^ (i + j) ≤ k * 10 ^ (i + j) := Nat.le_mul_of_pos_left _ hk
    have h5 : ((k : Int) * (10 : Int) ^ (i + j)) = ((k * 10 ^ (i + j) : Nat) : Int) := by push_cast; rfl
    rw [h5] at h
    omega
  · exact h1

set_option maxRecDepth 100000 in
set_option maxHeartbeats 1000000 in
theorem qtimes_any (A A' : Option Addr) (c c' X Y : Nat) (w : World) (hA : Dm w A (dl X) c X) (hB : Dm w A' (dl Y) c' Y) (hX : dl X ≤ 1000) (hY : dl Y ≤ 1000) :
    Calls Try.prog 45 #[.slice A (dl X) c, .slice A' (dl Y) c'] w (OutG (X * Y) w) := by
  obtain ⟨n, hn⟩ : ∃ n, n = dl X := ⟨_, rfl⟩
  obtain ⟨m, hm⟩ : ∃ m, m = dl Y := ⟨_, rfl⟩
  obtain ⟨k, hk⟩ : ∃ k, k = n + m := ⟨_, rfl⟩
  have hXn : X < 10 ^ n := hn ▸ lt_dl X
  have hYm : Y < 10 ^ m := hm ▸ lt_dl Y
  have hsum : X * Y < 10 ^ k := by rw [hk, Nat.pow_add]; exact Nat.mul_lt_mul'' hXn hYm
  have hmk := fun w => run_make_ints 44 Try.underlying44 k k (Nat.le_refl _) (by omega) w
  have hb1 : Below w.heap.size w (w.alloc (.cells (zc k) 3)) := (Below.refl _ _).alloc (Nat.le_refl _) _
  have hg1 : Blk (w.alloc (.cells (zc k) 3)) w.heap.size 3 (zc k) := Blk.new w 3 (zc k)
  rw [← hn] at hA hX ⊢
  rw [← hm] at hB hY ⊢
  have e1 : (n : Int) + (m : Int) = k := by omega
  have hk1 : k ≤ n + m := by omega
  have hk2 : n + m ≤ k := by omega
  have HA := Lib.hid hA; have HB := Lib.hid hB; have HS := Lib.hid hsum; have HB1 := Lib.hid hb1; have HG1 := Lib.hid hg1; have HXN := Lib.hid hXn; have HYM := Lib.hid hYm
  clear hA hB hsum hb1 hg1 hn hm hk hXn hYm
  go_enter Try.func45, Try.ntmps45
  go_wp2
  clear hmk e1
  go_loopw [6] (fun ii wr => ∃ (i : Nat) (L : List Int), ii = .int .i64 i ∧ i ≤ n ∧ Hid (L.length = k ∧ dcv L = (X % 10 ^ i * Y : Nat) ∧ ∀ c ∈ L, (0 : Int) ≤ c ∧ c ≤ 9) ∧ Blk wr w.heap.size 3 (L.map iv).toArray ∧ Below w.heap.size w wr)
    (fun ii _ => n - (intOf ii).toNat)
  case atStart => exact ⟨0, _, rfl, Nat.zero_le _, ⟨List.length_replicate, by rw [dcv_zeros, Nat.pow_zero, Nat.mod_one, Nat.zero_mul]; rfl, by intro c hc; rw [List.eq_of_mem_replicate hc]; omega⟩, HG1.out, HB1.out⟩
  case round =>
    obtain ⟨i, L, rfl, hi, HL, hG, hbl⟩ := hrel
    by_cases hlt : i < n
    · obtain ⟨b, o, rfl, hb, hc⟩ := HA.out.2 (by omega)
      have hcell := hc i hlt
      have hd := d10_lt X i
      obtain ⟨d, hd2⟩ : ∃ d, d = d10 X i := ⟨_, rfl⟩
      rw [← hd2] at hcell hd
      have p1 : (0 : Int) ≤ (i : Int) := by omega
      have p2 : (i : Int) < (n : Int) := by omega
      have HP : Hid (X % 10 ^ i + d * 10 ^ i = X % 10 ^ (i + 1)) := by show _ = _; rw [dmod_succ, ← hd2, Nat.mul_comm d]
      have HCA := Lib.hid hcell
      have HG := Lib.hid hG
      have HBL := Lib.hid hbl
      clear hc hd2 hG hbl hcell
      go_wp2
      go_loopw [7, 8] (fun cc jj ws => ∃ (j q : Nat) (L : List Int), cc = .int .i64 q ∧ jj = .int .i64 j ∧ q ≤ 9 ∧ j ≤ m + 1 ∧ Hid (L.length = k ∧ dcv L + (q : Int) * (10 : Int) ^ (i + j) = (X % 10 ^ i * Y + d * 10 ^ i * (Y % 10 ^ j) : Nat) ∧ ∀ c ∈ L, (0 : Int) ≤ c ∧ c ≤ 9) ∧ Blk ws w.heap.size 3 (L.map iv).toArray ∧ Below w.heap.size w ws)
        (fun _ jj _ => m + 1 - (intOf jj).toNat)
      case atStart => exact ⟨0, 0, L, rfl, rfl, by omega, by omega, ⟨HL.out.1, by rw [HL.out.2.1, Nat.pow_zero, Nat.mod_one, Nat.mul_zero, Nat.add_zero]; simp, HL.out.2.2⟩, HG.out, HBL.out⟩
      case round =>
        clear HL
        obtain ⟨j, q, L, rfl, rfl, hq, hj, HL, hG, hbl⟩ := hrel
        by_cases hgo : j < m ∨ 0 < q
        · have hjm : j ≤ m := by
            rcases Nat.lt_or_ge j m with h | h
            · omega
            · have h1 := HL.out.2.1
              rw [Nat.mod_eq_of_lt (Nat.lt_of_lt_of_le HYM.out (Nat.pow_le_pow_right (by omega) h))] at h1
              exact times_room (dcv_nonneg L HL.out.2.2) (by omega) h1 (by rw [HP.out]; exact Nat.mod_lt _ (pow10_pos _)) HYM.out
          have hcell := (hbl.cell (p := ⟨b, o + i, none⟩) hb).trans HCA.out
          have hil : i + j < L.length := by rw [HL.out.1]; omega
          have c0 := hG.cell (iv_at hil)
          have f0 := hG.frozen (i + j)
          have hy := HL.out.2.2 L[i + j] (List.getElem_mem _)
          have he := d10_lt Y j
          obtain ⟨e, he2⟩ : ∃ e, e = d10 Y j := ⟨_, rfl⟩
          rw [← he2] at he
          obtain ⟨y, hy2⟩ : ∃ y, y = L[i + j] := ⟨_, rfl⟩
          rw [← hy2] at c0 hy
          rw [iv] at c0
          obtain ⟨y1, y2⟩ := hy
          obtain ⟨r1, r2⟩ := de_bd hd he
          obtain ⟨p, hp⟩ : ∃ p, p = (d : Int) * (e : Int) := ⟨_, rfl⟩
          rw [← hp] at r1 r2
          obtain ⟨x, hx⟩ : ∃ x, x = (y + (q : Int) + p) % 10 := ⟨_, rfl⟩
          obtain ⟨q', hq'⟩ : ∃ q' : Nat, (q' : Int) = (y + (q : Int) + p) / 10 := ⟨((y + (q : Int) + p) / 10).toNat, by omega⟩
          have hx9 : 0 ≤ x ∧ x ≤ 9 := by omega
          have hq9 : q' ≤ 9 := by omega
          have HL2 : Hid ((L.set (i + j) x).length = k ∧ dcv (L.set (i + j) x) + (q' : Int) * (10 : Int) ^ (i + (j + 1)) = (X % 10 ^ i * Y + d * 10 ^ i * (Y % 10 ^ (j + 1)) : Nat) ∧ ∀ c ∈ L.set (i + j) x, (0 : Int) ≤ c ∧ c ≤ 9) := by
            refine ⟨by rw [List.length_set, HL.out.1], ?_, d9_set HL.out.2.2 hx9⟩
            have h0 := HL.out.2.1
            rw [dcv_set L (i + j) _ hil, ← hy2, dmod_succ, ← he2]
            push_cast at h0 ⊢
            rw [Int.pow_add] at h0 ⊢
            rw [Int.pow_add, Int.pow_succ]
            exact times_step h0 (by rw [← hp]; omega)
          have p3 : (0 : Int) ≤ (j : Int) := by omega
          have p4 : (0 : Int) ≤ (i : Int) + (j : Int) := by omega
          have p5 : (i : Int) + (j : Int) < (k : Int) := by omega
          have p6 : ((i : Int) + (j : Int)).toNat = i + j := by omega
          have p7 : (q : Int) ≤ 9 := by omega
          have p8 : (0 : Int) ≤ (q : Int) := by omega
          have HX9 := Lib.hid hx9
          by_cases h2 : j < m
          · obtain ⟨b', o', rfl, hb', hc'⟩ := HB.out.2 (by omega)
            have hcell' := (hbl.cell (p := ⟨b', o' + j, none⟩) hb').trans (hc' j h2)
            rw [← he2] at hcell'
            have g0 : (d : Int) * (e : Int) = p := hp.symm
            have g1 : (y + (q : Int) + p) % 10 = x := hx.symm
            have g2 : (y + (q : Int) + p) / 10 = (q' : Int) := hq'.symm
            have HGG := Lib.hid hG; have HBLL := Lib.hid hbl
            clear hc' he2 hy2 HL hp hx hq' hx9 hgo hG hbl
            go_wp2
            go_quiet (fail)
            go_wp2
            go_roundw
            case rel => exact ⟨j + 1, q', _, by rw [g2], by go_num, hq9, by omega, HL2, by rw [← iv_set]; exact (HGG.out.drewN _).set (i + j) _, (below_drewN HBLL.out _).setCell (Nat.le_refl _) _⟩
            case measure => simp [intOf] <;> omega
          · have he0 : e = 0 := by rw [he2]; exact d10_zero (Nat.lt_of_lt_of_le HYM.out (Nat.pow_le_pow_right (by omega) (by omega)))
            have hp0 : p = 0 := by rw [hp, he0]; simp
            subst hp0
            have g1 : (y + (q : Int)) % 10 = x := by omega
            have g2 : (y + (q : Int)) / 10 = (q' : Int) := by omega
            have hq0 : 0 < q := by omega
            have HGG := Lib.hid hG; have HBLL := Lib.hid hbl
            clear he2 hy2 HL hp hx hq' hx9 hgo hG hbl he0 he hd
            go_wp2
            go_roundw
            case rel => exact ⟨j + 1, q', _, by rw [g2], by go_num, hq9, by omega, HL2, by rw [← iv_set]; exact HGG.out.set (i + j) _, HBLL.out.setCell (Nat.le_refl _) _⟩
            case measure => simp [intOf] <;> omega
        · have h2 : ¬ j < m := fun h => hgo (.inl h)
          obtain rfl : q = 0 := by omega
          have HL2 : Hid (L.length = k ∧ dcv L = (X % 10 ^ (i + 1) * Y : Nat) ∧ ∀ c ∈ L, (0 : Int) ≤ c ∧ c ≤ 9) := by
            refine ⟨HL.out.1, ?_, HL.out.2.2⟩
            have h1 := HL.out.2.1
            rw [Nat.mod_eq_of_lt (Nat.lt_of_lt_of_le HYM.out (Nat.pow_le_pow_right (by omega) (by omega)))] at h1
            rw [← HP.out, Nat.add_mul, ← h1]; simp
          clear HL hgo
          go_wp2
          go_roundw
          case rel => exact ⟨i + 1, _, by go_num, by omega, HL2, hG, hbl⟩
          case measure => simp [intOf]; omega
    · obtain rfl : i = n := by omega
      have hL := digs_of L (X * Y) HL.out.2.2 (by rw [HL.out.2.1, Nat.mod_eq_of_lt HXN.out])
      have hD := Dm.of_blk hG hL
      rw [HL.out.1] at hD
      have htr := reftrim_any _ k k (X * Y) wr hD HS.out (by omega)
      have HD := Lib.hid (hD.less (dl_le.2 HS.out)); have HBL := Lib.hid hbl; have HTR := Lib.hid htr
      clear hD hbl htr hL hG HL
      go_wp2_with (go_at_call 37; (with_reducible refine HTR.out.mono ?_); rintro e w2 ⟨rfl, rfl⟩)
      go_ret
      exact ⟨_, _, rfl, HD.out, fun b o e => by cases e; exact Nat.le_refl _, HBL.out⟩
end Go.Proofs.Ytgpppjfgdbloiaa
