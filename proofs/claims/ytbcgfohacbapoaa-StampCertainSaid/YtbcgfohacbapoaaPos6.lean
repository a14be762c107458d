
/- The contract of the statements' possible. Conditions: valid skews and meetings read, a person, an advance that does not overflow. -/
import Derived.Test.YtbcgfohacbapoaaSpr6
namespace Go.Proofs.Ytbcgfohacbapoaa
open Go.RowKit Go.Lib

/-- What is known is within the skews. -/
def Wth (l : List Sk) (s : Kn) : Prop := ∀ x ∈ l, s.k x.p = true → x.lo ≤ s.v x.p ∧ s.v x.p ≤ x.hi
/-- What possible says. -/
def PosR (l : List Sk) (ms : List Mt) (P V : Int) (r : Bool) : Prop := ∃ (s : Kn) (ok : Bool), IsSp ms P V s ok ∧ (r = true ↔ ok = true ∧ Wth l s)
/-- What possible returns. -/
def PosE (l : List Sk) (ms : List Mt) (P V : Int) (e : Ending) : Prop := ∃ r, e = .returned (.bool r) ∧ PosR l ms P V r
/-- From what is known, and what is possible for the others. -/
theorem PosR.join {l : List Sk} {ms : List Mt} {P V : Int} (h : PosR l ms P V true) {A0 : Int → Int} (hb : ∀ x ∈ l, x.lo ≤ A0 x.p ∧ A0 x.p ≤ x.hi) (hm : ∀ m ∈ ms, (∀ s ok, IsSp ms P V s ok → ok = true → s.k m.a = false → A0 m.a - A0 m.b = m.ta - m.tb)) : ∃ A, Poss l ms A ∧ A P = V := by
  obtain ⟨s, ok, hsp, hr⟩ := h
  obtain ⟨rfl, hw⟩ := hr.1 rfl
  obtain ⟨⟨h1, h2, h3⟩, h4, h5⟩ := hsp.2 rfl
  refine ⟨fun q => if s.k q = true then s.v q else A0 q, ⟨fun x hx => ?_, fun m hmm => ?_⟩, ?_⟩
  · dsimp only; split
    · next hq => exact hw x hx hq
    · exact hb x hx
  · have hc := h4 m hmm
    dsimp only
    cases ha : s.k m.a
    · rw [ha] at hc; rw [if_neg (by simp), ← hc, if_neg (by simp)]; exact hm m hmm s true hsp rfl ha
    · rw [ha] at hc; rw [if_pos rfl, ← hc, if_pos rfl]; exact h5 m hmm ha
  · dsimp only; rw [if_pos h1]; exact h2
theorem PosR.of {l : List Sk} {ms : List Mt} {P V : Int} {r : Bool} (h : PosR l ms P V r) {A : Int → Int} (hA : Poss l ms A) (hP : A P = V) : r = true := by
  obtain ⟨s, ok, hsp, hr⟩ := h
  obtain ⟨h1, h2⟩ := hsp.agree hA.2 hP
  refine hr.2 ⟨h1, fun x hx hk => ?_⟩
  rw [h2 _ hk]; exact hA.1 x hx
theorem PosR.iff {l : List Sk} {ms : List Mt} {P V : Int} {r : Bool} (h : PosR l ms P V r) (hf : Feas l ms) : r = true ↔ ∃ A, Poss l ms A ∧ A P = V := by
  constructor
  · rintro rfl
    obtain ⟨A0, hA0⟩ := hf
    exact h.join hA0.1 (fun m hm _ _ _ _ _ => hA0.2 m hm)
  · rintro ⟨A, h1, h2⟩; exact h.of h1 h2
set_option maxRecDepth 100000 in
set_option maxHeartbeats 16000000 in
theorem lpossible_any (l : List Sk) (ms : List Mt) (A B : Option Addr) (c d : Nat) (p : Nat) (V : Int) (w : World) (hA : Kz w A l) (hB : Mz w B ms) (hm : MtOk l ms) (hs : SkOk l) (hp : p < 40) (hV : -1000000 ≤ V ∧ V ≤ 1000000) :
    Calls Try.prog 63 #[.slice A l.length c, .slice B ms.length d, .int .i64 (p : Nat), .int .i64 V] w fun e w' => PosE l ms p V e ∧ Below w.heap.size w w' := by
  have HA := Lib.hid hA
  have HSP := Lib.hid (lspread_any l ms A B c d p V w hB hm hs hp hV)
  have HPR := Lib.hid (fun i (hi : i < l.length) => (hs.mem (List.getElem_mem hi)).1)
  have hl40 := hs.few
  clear hA hB hm hs hp hV
  go_enter Try.func63, Try.ntmps63
  go_wp2_with fail
  refine HSP.out.mono ?_
  rintro e v0 ⟨⟨s, ok, gO, gK, rfl, hO, hK, hsp, hbd⟩, hb⟩
  have HO := Lib.hid hO; have HK := Lib.hid hK; have HIS := Lib.hid hsp; have HBD := Lib.hid hbd; have HB0 := Lib.hid hb; clear hO hK hsp hbd hb HSP
  cases ok
  case false =>
    go_wp2_with fail
    go_loopw [12] (fun ii wr => ii = .int .i64 0 ∧ Below v0.heap.size v0 wr) (fun _ _ => 0)
    case atStart => exact ⟨rfl, Below.refl _ _⟩
    case round =>
      obtain ⟨rfl, hB⟩ := hrel
      have HB := Lib.hid hB; clear hB
      by_cases h0 : 0 < l.length
      case pos =>
        have q0 : (0 : Int) < (l.length : Int) := by omega
        clear h0
        go_wp2_with fail
        go_ret
        exact ⟨⟨false, rfl, s, false, HIS.out, by simp⟩, HB0.out.trans (HB.out.mono HB0.out.size)⟩
      case neg =>
        have q0 : ¬ (0 : Int) < (l.length : Int) := by omega
        have hundef := un_none
        clear h0
        go_wp2_with fail
        go_ret
        exact ⟨⟨false, rfl, s, false, HIS.out, by simp⟩, HB0.out.trans (HB.out.mono HB0.out.size)⟩
  case true =>
    go_wp2_with fail
    go_loopw [12] (fun ii wr => ∃ i : Nat, ii = .int .i64 i ∧ i ≤ l.length ∧ (∀ j (hj : j < l.length), j < i → s.k l[j].p = true → l[j].lo ≤ s.v l[j].p ∧ s.v l[j].p ≤ l[j].hi) ∧ Below v0.heap.size v0 wr) (fun ii _ => l.length - (intOf ii).toNat)
    case atStart => exact ⟨0, rfl, Nat.zero_le _, fun j _ h => absurd h (by omega), Below.refl _ _⟩
    case round =>
      obtain ⟨i, rfl, hi, hok, hB⟩ := hrel
      have HOK := Lib.hid hok; have HB := Lib.hid hB; clear hok hB
      by_cases hlt : i < l.length
      case neg =>
        obtain rfl : i = l.length := by omega
        have HW : Hid (Wth l s) := Lib.hid (fun x hx => by obtain ⟨j, hj, rfl⟩ := List.getElem_of_mem hx; exact HOK.out j hj hj)
        have hundef := un_none
        clear hlt hi
        go_wp2_with fail
        go_ret
        exact ⟨⟨true, rfl, s, true, HIS.out, ⟨fun _ => ⟨rfl, HW.out⟩, fun _ => rfl⟩⟩, HB0.out.trans (HB.out.mono HB0.out.size)⟩
      case pos =>
        obtain ⟨b, o, rfl⟩ := HA.out.some (by omega)
        obtain ⟨k0, k1, k2⟩ := Kz.cell HA.out (HB0.out.trans (HB.out.mono HB0.out.size)) (Nat.le_refl _) hlt
        have hpr := HPR.out i hlt
        have HGO : Hid ((s.k l[i].p = true → l[i].lo ≤ s.v l[i].p ∧ s.v l[i].p ≤ l[i].hi) → ∀ j (hj : j < l.length), j < i + 1 → s.k l[j].p = true → l[j].lo ≤ s.v l[j].p ∧ s.v l[j].p ≤ l[j].hi) := Lib.hid (fun h j hj hji => by
          by_cases e : j = i
          · subst e; exact h
          · exact HOK.out j hj (by omega))
        have HNO : Hid (s.k l[i].p = true → ¬ (l[i].lo ≤ s.v l[i].p ∧ s.v l[i].p ≤ l[i].hi) → ¬ Wth l s) := Lib.hid (fun h h2 hw => h2 (hw _ (List.getElem_mem hlt) h))
        obtain ⟨x, hx⟩ : ∃ x, x = l[i] := ⟨_, rfl⟩
        rw [← hx] at k0 k1 k2 hpr HGO HNO
        obtain ⟨xp, lo, hi2⟩ := x
        dsimp only at k0 k1 k2 hpr HGO HNO
        obtain ⟨q, rfl⟩ : ∃ q : Nat, xp = (q : Int) := ⟨xp.toNat, by omega⟩
        have hq : q < 40 := by omega
        have hOC := outC_at s.v hq; have hKC := knC_at s.k hq
        obtain ⟨vq, hvq⟩ : ∃ v, v = s.v (q : Int) := ⟨_, rfl⟩
        obtain ⟨kq, hkq⟩ : ∃ v, v = s.k (q : Int) := ⟨_, rfl⟩
        rw [← hvq] at hOC HGO HNO; rw [← hkq] at hKC HGO HNO
        have HOC := Lib.hid hOC; have HKC := Lib.hid hKC
        have q0 : (0 : Int) ≤ (q : Int) := by omega
        have q9 : (q : Int) < 40 := by omega
        have q1 : (0 : Int) ≤ (i : Int) := by omega
        have q2 : (i : Int) < (l.length : Int) := by omega
        have q5 : (i : Int) + 1 ≤ 9223372036854775807 := by omega
        have HI := Lib.hid hlt
        clear hx hOC hKC hvq hkq hlt hi hpr hq
        have HD := Lib.hid (Blk.new wr 77 #[.int .i64 (q : Nat), .int .i64 lo, .int .i64 hi2])
        have HB1 := Lib.hid (HB.out.alloc HB.out.size (.cells #[.int .i64 (q : Nat), .int .i64 lo, .int .i64 hi2] 77))
        have hundef := un_none
        cases kq
        case false =>
          have HGG := Lib.hid (HGO.out (fun h => by cases h))
          clear HNO HGO
          go_wp2_with fail
          clear k0 k1 k2
          refine wp_region_grow (S := (fun w' => w'.cell? ⟨wr.heap.size, 0, none⟩ = some (.int .i64 (q : Nat)) ∧ w'.cell? ⟨wr.heap.size, 1, none⟩ = some (.int .i64 lo) ∧ w'.cell? ⟨wr.heap.size, 2, none⟩ = some (.int .i64 hi2) ∧ w'.cell? ⟨gK, q, none⟩ = some (.bool false) ∧ w'.cell? ⟨gO, q, none⟩ = some (.int .i64 vq))) ((fun w' => Below (wr.alloc (.cells #[.int .i64 (q : Nat), .int .i64 lo, .int .i64 hi2] 77)).heap.size (wr.alloc (.cells #[.int .i64 (q : Nat), .int .i64 lo, .int .i64 hi2] 77)) w')) (by kernel_rfl) (⟨fun w2 h2 => ⟨(HD.out.below h2 HD.out.lt).cell (i := 0) (v := .int .i64 (q : Nat)) rfl, (HD.out.below h2 HD.out.lt).cell (i := 1) (v := .int .i64 lo) rfl, (HD.out.below h2 HD.out.lt).cell (i := 2) (v := .int .i64 hi2) rfl, ((HK.out.below HB1.out HK.out.lt).below h2 (Nat.lt_of_lt_of_le HK.out.lt HB1.out.size)).cell HKC.out, ((HO.out.below HB1.out HO.out.lt).below h2 (Nat.lt_of_lt_of_le HO.out.lt HB1.out.size)).cell HOC.out⟩, fun w2 w3 h2 hb2 => h2.trans (hb2.mono h2.size)⟩) ((Below.refl _ _).drew) (fun hCalm => ?_)
          refine grow_take 0 (some 36) ?_ rfl rfl (by kernel_rfl) (fun _ _ _ h => h) (by kernel_rfl) hCalm ?_ ?_
          rotate_left
          · intro wS hS; (try dsimp only at hS); go_simp <;> with_reducible rfl
          try simp only [Act.put, List.setIfInBounds_toArray, List.set_cons_zero, List.set_cons_succ]
          refine grow_take 1 (some 37) ?_ rfl rfl (by kernel_rfl) (fun _ _ _ h => h) (by kernel_rfl) hCalm ?_ ?_
          rotate_left
          · intro wS hS; (try dsimp only at hS); go_simp <;> with_reducible rfl
          try simp only [Act.put, List.setIfInBounds_toArray, List.set_cons_zero, List.set_cons_succ]
          refine grow_take 2 (some 38) ?_ rfl rfl (by kernel_rfl) (fun _ _ _ h => h) (by kernel_rfl) hCalm ?_ ?_
          rotate_left
          · intro wS hS; (try dsimp only at hS); go_simp <;> with_reducible rfl
          try simp only [Act.put, List.setIfInBounds_toArray, List.set_cons_zero, List.set_cons_succ]
          refine grow_take 3 (some 39) ?_ rfl rfl (by kernel_rfl) (fun _ _ _ h => h) (by kernel_rfl) hCalm ?_ ?_
          rotate_left
          · intro wS hS; (try dsimp only at hS); go_simp <;> with_reducible rfl
          try simp only [Act.put, List.setIfInBounds_toArray, List.set_cons_zero, List.set_cons_succ]
          refine grow_take 4 (some 40) ?_ rfl rfl (by kernel_rfl) (fun _ _ _ h => h) (by kernel_rfl) hCalm ?_ ?_
          rotate_left
          · intro wS hS; (try dsimp only at hS); go_simp <;> with_reducible rfl
          try simp only [Act.put, List.setIfInBounds_toArray, List.set_cons_zero, List.set_cons_succ]
          refine grow_take 5 (some 41) ?_ rfl rfl (by kernel_rfl) (fun _ _ _ h => h) (by kernel_rfl) hCalm ?_ ?_
          rotate_left
          · intro wS hS; (try dsimp only at hS); go_simp <;> with_reducible rfl
          try simp only [Act.put, List.setIfInBounds_toArray, List.set_cons_zero, List.set_cons_succ]
          refine grow_skip 6 (some 42) rfl rfl (by kernel_rfl) (fun _ _ _ h => h) (by kernel_rfl) hCalm ?_
          try simp only [Act.put, List.setIfInBounds_toArray, List.set_cons_zero, List.set_cons_succ]
          refine grow_skip 7 (some 43) rfl rfl (by kernel_rfl) (fun _ _ _ h => h) (by kernel_rfl) hCalm ?_
          try simp only [Act.put, List.setIfInBounds_toArray, List.set_cons_zero, List.set_cons_succ]
          refine grow_skip 8 (some 44) rfl rfl (by kernel_rfl) (fun _ _ _ h => h) (by kernel_rfl) hCalm ?_
          try simp only [Act.put, List.setIfInBounds_toArray, List.set_cons_zero, List.set_cons_succ]
          refine grow_skip 9 (some 45) rfl rfl (by kernel_rfl) (fun _ _ _ h => h) (by kernel_rfl) hCalm ?_
          try simp only [Act.put, List.setIfInBounds_toArray, List.set_cons_zero, List.set_cons_succ]
          refine grow_skip 10 (some 46) rfl rfl (by kernel_rfl) (fun _ _ _ h => h) (by kernel_rfl) hCalm ?_
          try simp only [Act.put, List.setIfInBounds_toArray, List.set_cons_zero, List.set_cons_succ]
          refine grow_skip 11 (some 47) rfl rfl (by kernel_rfl) (fun _ _ _ h => h) (by kernel_rfl) hCalm ?_
          try simp only [Act.put, List.setIfInBounds_toArray, List.set_cons_zero, List.set_cons_succ]
          refine grow_skip 12 (some 48) rfl rfl (by kernel_rfl) (fun _ _ _ h => h) (by kernel_rfl) hCalm ?_
          try simp only [Act.put, List.setIfInBounds_toArray, List.set_cons_zero, List.set_cons_succ]
          refine grow_skip 13 (some 49) rfl rfl (by kernel_rfl) (fun _ _ _ h => h) (by kernel_rfl) hCalm ?_
          try simp only [Act.put, List.setIfInBounds_toArray, List.set_cons_zero, List.set_cons_succ]
          refine grow_skip 14 (some 50) rfl rfl (by kernel_rfl) (fun _ _ _ h => h) (by kernel_rfl) hCalm ?_
          try simp only [Act.put, List.setIfInBounds_toArray, List.set_cons_zero, List.set_cons_succ]
          refine grow_skip 15 (some 51) rfl rfl (by kernel_rfl) (fun _ _ _ h => h) (by kernel_rfl) hCalm ?_
          try simp only [Act.put, List.setIfInBounds_toArray, List.set_cons_zero, List.set_cons_succ]
          refine grow_skip 16 (some 52) rfl rfl (by kernel_rfl) (fun _ _ _ h => h) (by kernel_rfl) hCalm ?_
          try simp only [Act.put, List.setIfInBounds_toArray, List.set_cons_zero, List.set_cons_succ]
          refine grow_skip 17 (some 53) rfl rfl (by kernel_rfl) (fun _ _ _ h => h) (by kernel_rfl) hCalm ?_
          try simp only [Act.put, List.setIfInBounds_toArray, List.set_cons_zero, List.set_cons_succ]
          refine grow_skip 18 (some 54) rfl rfl (by kernel_rfl) (fun _ _ _ h => h) (by kernel_rfl) hCalm ?_
          try simp only [Act.put, List.setIfInBounds_toArray, List.set_cons_zero, List.set_cons_succ]
          refine grow_skip 19 (some 55) rfl rfl (by kernel_rfl) (fun _ _ _ h => h) (by kernel_rfl) hCalm ?_
          try simp only [Act.put, List.setIfInBounds_toArray, List.set_cons_zero, List.set_cons_succ]
          refine grow_skip 20 (some 56) rfl rfl (by kernel_rfl) (fun _ _ _ h => h) (by kernel_rfl) hCalm ?_
          try simp only [Act.put, List.setIfInBounds_toArray, List.set_cons_zero, List.set_cons_succ]
          refine grow_skip 21 (some 57) rfl rfl (by kernel_rfl) (fun _ _ _ h => h) (by kernel_rfl) hCalm ?_
          try simp only [Act.put, List.setIfInBounds_toArray, List.set_cons_zero, List.set_cons_succ]
          refine grow_skip 22 (some 58) rfl rfl (by kernel_rfl) (fun _ _ _ h => h) (by kernel_rfl) hCalm ?_
          try simp only [Act.put, List.setIfInBounds_toArray, List.set_cons_zero, List.set_cons_succ]
          refine grow_skip 23 (some 59) rfl rfl (by kernel_rfl) (fun _ _ _ h => h) (by kernel_rfl) hCalm ?_
          try simp only [Act.put, List.setIfInBounds_toArray, List.set_cons_zero, List.set_cons_succ]
          refine grow_take 24 (some 60) ?_ rfl rfl (by kernel_rfl) (fun _ _ _ h => h) (by kernel_rfl) hCalm ?_ ?_
          rotate_left
          · intro wS hS; (try dsimp only at hS); go_simp <;> with_reducible rfl
          try simp only [Act.put, List.setIfInBounds_toArray, List.set_cons_zero, List.set_cons_succ]
          refine grow_done (by kernel_rfl) (fun wA hA => ?_) _
          have HB9 := Lib.hid (HB1.out.trans (hA.mono HB1.out.size)); clear hA
          go_wp2_with fail
          go_roundw
          case rel => exact ⟨i + 1, by go_num, HI.out, HGG.out, HB9.out⟩
          case measure => have := HI.out; simp [intOf]; omega
        case true =>
          by_cases c1 : vq < lo
          case pos =>
            have HNN := Lib.hid (HNO.out rfl (fun h => by omega))
            have t1 : decide (vq < lo) = true := decide_eq_true c1
            clear HNO HGO
            go_wp2_with fail
            clear k0 k1 k2
            refine wp_region_grow (S := (fun w' => w'.cell? ⟨wr.heap.size, 0, none⟩ = some (.int .i64 (q : Nat)) ∧ w'.cell? ⟨wr.heap.size, 1, none⟩ = some (.int .i64 lo) ∧ w'.cell? ⟨wr.heap.size, 2, none⟩ = some (.int .i64 hi2) ∧ w'.cell? ⟨gK, q, none⟩ = some (.bool true) ∧ w'.cell? ⟨gO, q, none⟩ = some (.int .i64 vq))) ((fun w' => Below (wr.alloc (.cells #[.int .i64 (q : Nat), .int .i64 lo, .int .i64 hi2] 77)).heap.size (wr.alloc (.cells #[.int .i64 (q : Nat), .int .i64 lo, .int .i64 hi2] 77)) w')) (by kernel_rfl) (⟨fun w2 h2 => ⟨(HD.out.below h2 HD.out.lt).cell (i := 0) (v := .int .i64 (q : Nat)) rfl, (HD.out.below h2 HD.out.lt).cell (i := 1) (v := .int .i64 lo) rfl, (HD.out.below h2 HD.out.lt).cell (i := 2) (v := .int .i64 hi2) rfl, ((HK.out.below HB1.out HK.out.lt).below h2 (Nat.lt_of_lt_of_le HK.out.lt HB1.out.size)).cell HKC.out, ((HO.out.below HB1.out HO.out.lt).below h2 (Nat.lt_of_lt_of_le HO.out.lt HB1.out.size)).cell HOC.out⟩, fun w2 w3 h2 hb2 => h2.trans (hb2.mono h2.size)⟩) ((Below.refl _ _).drew) (fun hCalm => ?_)
            refine grow_take 0 (some 36) ?_ rfl rfl (by kernel_rfl) (fun _ _ _ h => h) (by kernel_rfl) hCalm ?_ ?_
            rotate_left
            · intro wS hS; (try dsimp only at hS); go_simp <;> with_reducible rfl
            try simp only [Act.put, List.setIfInBounds_toArray, List.set_cons_zero, List.set_cons_succ]
            refine grow_take 1 (some 37) ?_ rfl rfl (by kernel_rfl) (fun _ _ _ h => h) (by kernel_rfl) hCalm ?_ ?_
            rotate_left
            · intro wS hS; (try dsimp only at hS); go_simp <;> with_reducible rfl
            try simp only [Act.put, List.setIfInBounds_toArray, List.set_cons_zero, List.set_cons_succ]
            refine grow_take 2 (some 38) ?_ rfl rfl (by kernel_rfl) (fun _ _ _ h => h) (by kernel_rfl) hCalm ?_ ?_
            rotate_left
            · intro wS hS; (try dsimp only at hS); go_simp <;> with_reducible rfl
            try simp only [Act.put, List.setIfInBounds_toArray, List.set_cons_zero, List.set_cons_succ]
            refine grow_take 3 (some 39) ?_ rfl rfl (by kernel_rfl) (fun _ _ _ h => h) (by kernel_rfl) hCalm ?_ ?_
            rotate_left
            · intro wS hS; (try dsimp only at hS); go_simp <;> with_reducible rfl
            try simp only [Act.put, List.setIfInBounds_toArray, List.set_cons_zero, List.set_cons_succ]
            refine grow_take 4 (some 40) ?_ rfl rfl (by kernel_rfl) (fun _ _ _ h => h) (by kernel_rfl) hCalm ?_ ?_
            rotate_left
            · intro wS hS; (try dsimp only at hS); go_simp <;> with_reducible rfl
            try simp only [Act.put, List.setIfInBounds_toArray, List.set_cons_zero, List.set_cons_succ]
            refine grow_take 5 (some 41) ?_ rfl rfl (by kernel_rfl) (fun _ _ _ h => h) (by kernel_rfl) hCalm ?_ ?_
            rotate_left
            · intro wS hS; (try dsimp only at hS); go_simp <;> with_reducible rfl
            try simp only [Act.put, List.setIfInBounds_toArray, List.set_cons_zero, List.set_cons_succ]
            refine grow_take 6 (some 42) ?_ rfl rfl (by kernel_rfl) (fun _ _ _ h => h) (by kernel_rfl) hCalm ?_ ?_
            rotate_left
            · intro wS hS; (try dsimp only at hS); go_simp <;> with_reducible rfl
            try simp only [Act.put, List.setIfInBounds_toArray, List.set_cons_zero, List.set_cons_succ]
            refine grow_take 7 (some 43) ?_ rfl rfl (by kernel_rfl) (fun _ _ _ h => h) (by kernel_rfl) hCalm ?_ ?_
            rotate_left
            · intro wS hS; (try dsimp only at hS); go_simp <;> with_reducible rfl
            try simp only [Act.put, List.setIfInBounds_toArray, List.set_cons_zero, List.set_cons_succ]
            refine grow_take 8 (some 44) ?_ rfl rfl (by kernel_rfl) (fun _ _ _ h => h) (by kernel_rfl) hCalm ?_ ?_
            rotate_left
            · intro wS hS; (try dsimp only at hS); go_simp <;> with_reducible rfl
            try simp only [Act.put, List.setIfInBounds_toArray, List.set_cons_zero, List.set_cons_succ]
            refine grow_take 9 (some 45) ?_ rfl rfl (by kernel_rfl) (fun _ _ _ h => h) (by kernel_rfl) hCalm ?_ ?_
            rotate_left
            · intro wS hS; (try dsimp only at hS); go_simp <;> with_reducible rfl
            try simp only [Act.put, List.setIfInBounds_toArray, List.set_cons_zero, List.set_cons_succ]
            refine grow_take 10 (some 46) ?_ rfl rfl (by kernel_rfl) (fun _ _ _ h => h) (by kernel_rfl) hCalm ?_ ?_
            rotate_left
            · intro wS hS; (try dsimp only at hS); go_simp <;> with_reducible rfl
            try simp only [Act.put, List.setIfInBounds_toArray, List.set_cons_zero, List.set_cons_succ]
            refine grow_take 11 (some 47) ?_ rfl rfl (by kernel_rfl) (fun _ _ _ h => h) (by kernel_rfl) hCalm ?_ ?_
            rotate_left
            · intro wS hS; (try dsimp only at hS); go_simp <;> with_reducible rfl
            try simp only [Act.put, List.setIfInBounds_toArray, List.set_cons_zero, List.set_cons_succ]
            refine grow_take 12 (some 48) ?_ rfl rfl (by kernel_rfl) (fun _ _ _ h => h) (by kernel_rfl) hCalm ?_ ?_
            rotate_left
            · intro wS hS; (try dsimp only at hS); go_simp <;> with_reducible rfl
            try simp only [Act.put, List.setIfInBounds_toArray, List.set_cons_zero, List.set_cons_succ]
            refine grow_take 13 (some 49) (.bool true) rfl rfl (by kernel_rfl) (fun _ _ _ h => h) (by kernel_rfl) hCalm ?_ ?_
            · intro wS hS; (try dsimp only at hS); go_simp
            try simp only [Act.put, List.setIfInBounds_toArray, List.set_cons_zero, List.set_cons_succ]
            refine grow_take 14 (some 50) ?_ rfl rfl (by kernel_rfl) (fun _ _ _ h => h) (by kernel_rfl) hCalm ?_ ?_
            rotate_left
            · intro wS hS; (try dsimp only at hS); go_simp <;> with_reducible rfl
            try simp only [Act.put, List.setIfInBounds_toArray, List.set_cons_zero, List.set_cons_succ]
            refine grow_skip 15 (some 51) rfl rfl (by kernel_rfl) (fun _ _ _ h => h) (by kernel_rfl) hCalm ?_
            try simp only [Act.put, List.setIfInBounds_toArray, List.set_cons_zero, List.set_cons_succ]
            refine grow_skip 16 (some 52) rfl rfl (by kernel_rfl) (fun _ _ _ h => h) (by kernel_rfl) hCalm ?_
            try simp only [Act.put, List.setIfInBounds_toArray, List.set_cons_zero, List.set_cons_succ]
            refine grow_skip 17 (some 53) rfl rfl (by kernel_rfl) (fun _ _ _ h => h) (by kernel_rfl) hCalm ?_
            try simp only [Act.put, List.setIfInBounds_toArray, List.set_cons_zero, List.set_cons_succ]
            refine grow_skip 18 (some 54) rfl rfl (by kernel_rfl) (fun _ _ _ h => h) (by kernel_rfl) hCalm ?_
            try simp only [Act.put, List.setIfInBounds_toArray, List.set_cons_zero, List.set_cons_succ]
            refine grow_skip 19 (some 55) rfl rfl (by kernel_rfl) (fun _ _ _ h => h) (by kernel_rfl) hCalm ?_
            try simp only [Act.put, List.setIfInBounds_toArray, List.set_cons_zero, List.set_cons_succ]
            refine grow_skip 20 (some 56) rfl rfl (by kernel_rfl) (fun _ _ _ h => h) (by kernel_rfl) hCalm ?_
            try simp only [Act.put, List.setIfInBounds_toArray, List.set_cons_zero, List.set_cons_succ]
            refine grow_skip 21 (some 57) rfl rfl (by kernel_rfl) (fun _ _ _ h => h) (by kernel_rfl) hCalm ?_
            try simp only [Act.put, List.setIfInBounds_toArray, List.set_cons_zero, List.set_cons_succ]
            refine grow_skip 22 (some 58) rfl rfl (by kernel_rfl) (fun _ _ _ h => h) (by kernel_rfl) hCalm ?_
            try simp only [Act.put, List.setIfInBounds_toArray, List.set_cons_zero, List.set_cons_succ]
            refine grow_take 23 (some 59) ?_ rfl rfl (by kernel_rfl) (fun _ _ _ h => h) (by kernel_rfl) hCalm ?_ ?_
            rotate_left
            · intro wS hS; (try dsimp only at hS); go_simp <;> with_reducible rfl
            try simp only [Act.put, List.setIfInBounds_toArray, List.set_cons_zero, List.set_cons_succ]
            refine grow_take 24 (some 60) ?_ rfl rfl (by kernel_rfl) (fun _ _ _ h => h) (by kernel_rfl) hCalm ?_ ?_
            rotate_left
            · intro wS hS; (try dsimp only at hS); go_simp <;> with_reducible rfl
            try simp only [Act.put, List.setIfInBounds_toArray, List.set_cons_zero, List.set_cons_succ]
            refine grow_done (by kernel_rfl) (fun wA hA => ?_) _
            have HB9 := Lib.hid (HB1.out.trans (hA.mono HB1.out.size)); clear hA
            go_wp2_with fail
            go_ret
            exact ⟨⟨false, rfl, s, true, HIS.out, ⟨fun h => (by cases h), fun h => absurd h.2 HNN.out⟩⟩, HB0.out.trans (HB9.out.mono HB0.out.size)⟩
          case neg =>
            by_cases c2 : hi2 < vq
            case pos =>
              have HNN := Lib.hid (HNO.out rfl (fun h => by omega))
              clear HNO HGO
              go_wp2_with fail
              clear k0 k1 k2
              refine wp_region_grow (S := (fun w' => w'.cell? ⟨wr.heap.size, 0, none⟩ = some (.int .i64 (q : Nat)) ∧ w'.cell? ⟨wr.heap.size, 1, none⟩ = some (.int .i64 lo) ∧ w'.cell? ⟨wr.heap.size, 2, none⟩ = some (.int .i64 hi2) ∧ w'.cell? ⟨gK, q, none⟩ = some (.bool true) ∧ w'.cell? ⟨gO, q, none⟩ = some (.int .i64 vq))) ((fun w' => Below (wr.alloc (.cells #[.int .i64 (q : Nat), .int .i64 lo, .int .i64 hi2] 77)).heap.size (wr.alloc (.cells #[.int .i64 (q : Nat), .int .i64 lo, .int .i64 hi2] 77)) w')) (by kernel_rfl) (⟨fun w2 h2 => ⟨(HD.out.below h2 HD.out.lt).cell (i := 0) (v := .int .i64 (q : Nat)) rfl, (HD.out.below h2 HD.out.lt).cell (i := 1) (v := .int .i64 lo) rfl, (HD.out.below h2 HD.out.lt).cell (i := 2) (v := .int .i64 hi2) rfl, ((HK.out.below HB1.out HK.out.lt).below h2 (Nat.lt_of_lt_of_le HK.out.lt HB1.out.size)).cell HKC.out, ((HO.out.below HB1.out HO.out.lt).below h2 (Nat.lt_of_lt_of_le HO.out.lt HB1.out.size)).cell HOC.out⟩, fun w2 w3 h2 hb2 => h2.trans (hb2.mono h2.size)⟩) ((Below.refl _ _).drew) (fun hCalm => ?_)
              refine grow_take 0 (some 36) ?_ rfl rfl (by kernel_rfl) (fun _ _ _ h => h) (by kernel_rfl) hCalm ?_ ?_
              rotate_left
              · intro wS hS; (try dsimp only at hS); go_simp <;> with_reducible rfl
              try simp only [Act.put, List.setIfInBounds_toArray, List.set_cons_zero, List.set_cons_succ]
              refine grow_take 1 (some 37) ?_ rfl rfl (by kernel_rfl) (fun _ _ _ h => h) (by kernel_rfl) hCalm ?_ ?_
              rotate_left
              · intro wS hS; (try dsimp only at hS); go_simp <;> with_reducible rfl
              try simp only [Act.put, List.setIfInBounds_toArray, List.set_cons_zero, List.set_cons_succ]
              refine grow_take 2 (some 38) ?_ rfl rfl (by kernel_rfl) (fun _ _ _ h => h) (by kernel_rfl) hCalm ?_ ?_
              rotate_left
              · intro wS hS; (try dsimp only at hS); go_simp <;> with_reducible rfl
              try simp only [Act.put, List.setIfInBounds_toArray, List.set_cons_zero, List.set_cons_succ]
              refine grow_take 3 (some 39) ?_ rfl rfl (by kernel_rfl) (fun _ _ _ h => h) (by kernel_rfl) hCalm ?_ ?_
              rotate_left
              · intro wS hS; (try dsimp only at hS); go_simp <;> with_reducible rfl
              try simp only [Act.put, List.setIfInBounds_toArray, List.set_cons_zero, List.set_cons_succ]
              refine grow_take 4 (some 40) ?_ rfl rfl (by kernel_rfl) (fun _ _ _ h => h) (by kernel_rfl) hCalm ?_ ?_
              rotate_left
              · intro wS hS; (try dsimp only at hS); go_simp <;> with_reducible rfl
              try simp only [Act.put, List.setIfInBounds_toArray, List.set_cons_zero, List.set_cons_succ]
              refine grow_take 5 (some 41) ?_ rfl rfl (by kernel_rfl) (fun _ _ _ h => h) (by kernel_rfl) hCalm ?_ ?_
              rotate_left
              · intro wS hS; (try dsimp only at hS); go_simp <;> with_reducible rfl
              try simp only [Act.put, List.setIfInBounds_toArray, List.set_cons_zero, List.set_cons_succ]
              refine grow_take 6 (some 42) ?_ rfl rfl (by kernel_rfl) (fun _ _ _ h => h) (by kernel_rfl) hCalm ?_ ?_
              rotate_left
              · intro wS hS; (try dsimp only at hS); go_simp <;> with_reducible rfl
              try simp only [Act.put, List.setIfInBounds_toArray, List.set_cons_zero, List.set_cons_succ]
              refine grow_take 7 (some 43) ?_ rfl rfl (by kernel_rfl) (fun _ _ _ h => h) (by kernel_rfl) hCalm ?_ ?_
              rotate_left
              · intro wS hS; (try dsimp only at hS); go_simp <;> with_reducible rfl
              try simp only [Act.put, List.setIfInBounds_toArray, List.set_cons_zero, List.set_cons_succ]
              refine grow_take 8 (some 44) ?_ rfl rfl (by kernel_rfl) (fun _ _ _ h => h) (by kernel_rfl) hCalm ?_ ?_
              rotate_left
              · intro wS hS; (try dsimp only at hS); go_simp <;> with_reducible rfl
              try simp only [Act.put, List.setIfInBounds_toArray, List.set_cons_zero, List.set_cons_succ]
              refine grow_take 9 (some 45) ?_ rfl rfl (by kernel_rfl) (fun _ _ _ h => h) (by kernel_rfl) hCalm ?_ ?_
              rotate_left
              · intro wS hS; (try dsimp only at hS); go_simp <;> with_reducible rfl
              try simp only [Act.put, List.setIfInBounds_toArray, List.set_cons_zero, List.set_cons_succ]
              refine grow_take 10 (some 46) ?_ rfl rfl (by kernel_rfl) (fun _ _ _ h => h) (by kernel_rfl) hCalm ?_ ?_
              rotate_left
              · intro wS hS; (try dsimp only at hS); go_simp <;> with_reducible rfl
              try simp only [Act.put, List.setIfInBounds_toArray, List.set_cons_zero, List.set_cons_succ]
              refine grow_take 11 (some 47) ?_ rfl rfl (by kernel_rfl) (fun _ _ _ h => h) (by kernel_rfl) hCalm ?_ ?_
              rotate_left
              · intro wS hS; (try dsimp only at hS); go_simp <;> with_reducible rfl
              try simp only [Act.put, List.setIfInBounds_toArray, List.set_cons_zero, List.set_cons_succ]
              refine grow_take 12 (some 48) ?_ rfl rfl (by kernel_rfl) (fun _ _ _ h => h) (by kernel_rfl) hCalm ?_ ?_
              rotate_left
              · intro wS hS; (try dsimp only at hS); go_simp <;> with_reducible rfl
              try simp only [Act.put, List.setIfInBounds_toArray, List.set_cons_zero, List.set_cons_succ]
              refine grow_take 13 (some 49) (.bool false) rfl rfl (by kernel_rfl) (fun _ _ _ h => h) (by kernel_rfl) hCalm ?_ ?_
              · intro wS hS; (try dsimp only at hS); go_simp
              try simp only [Act.put, List.setIfInBounds_toArray, List.set_cons_zero, List.set_cons_succ]
              refine grow_take 14 (some 50) ?_ rfl rfl (by kernel_rfl) (fun _ _ _ h => h) (by kernel_rfl) hCalm ?_ ?_
              rotate_left
              · intro wS hS; (try dsimp only at hS); go_simp <;> with_reducible rfl
              try simp only [Act.put, List.setIfInBounds_toArray, List.set_cons_zero, List.set_cons_succ]
              refine grow_take 15 (some 51) ?_ rfl rfl (by kernel_rfl) (fun _ _ _ h => h) (by kernel_rfl) hCalm ?_ ?_
              rotate_left
              · intro wS hS; (try dsimp only at hS); go_simp <;> with_reducible rfl
              try simp only [Act.put, List.setIfInBounds_toArray, List.set_cons_zero, List.set_cons_succ]
              refine grow_take 16 (some 52) ?_ rfl rfl (by kernel_rfl) (fun _ _ _ h => h) (by kernel_rfl) hCalm ?_ ?_
              rotate_left
              · intro wS hS; (try dsimp only at hS); go_simp <;> with_reducible rfl
              try simp only [Act.put, List.setIfInBounds_toArray, List.set_cons_zero, List.set_cons_succ]
              refine grow_take 17 (some 53) ?_ rfl rfl (by kernel_rfl) (fun _ _ _ h => h) (by kernel_rfl) hCalm ?_ ?_
              rotate_left
              · intro wS hS; (try dsimp only at hS); go_simp <;> with_reducible rfl
              try simp only [Act.put, List.setIfInBounds_toArray, List.set_cons_zero, List.set_cons_succ]
              refine grow_take 18 (some 54) ?_ rfl rfl (by kernel_rfl) (fun _ _ _ h => h) (by kernel_rfl) hCalm ?_ ?_
              rotate_left
              · intro wS hS; (try dsimp only at hS); go_simp <;> with_reducible rfl
              try simp only [Act.put, List.setIfInBounds_toArray, List.set_cons_zero, List.set_cons_succ]
              refine grow_take 19 (some 55) ?_ rfl rfl (by kernel_rfl) (fun _ _ _ h => h) (by kernel_rfl) hCalm ?_ ?_
              rotate_left
              · intro wS hS; (try dsimp only at hS); go_simp <;> with_reducible rfl
              try simp only [Act.put, List.setIfInBounds_toArray, List.set_cons_zero, List.set_cons_succ]
              refine grow_take 20 (some 56) ?_ rfl rfl (by kernel_rfl) (fun _ _ _ h => h) (by kernel_rfl) hCalm ?_ ?_
              rotate_left
              · intro wS hS; (try dsimp only at hS); go_simp <;> with_reducible rfl
              try simp only [Act.put, List.setIfInBounds_toArray, List.set_cons_zero, List.set_cons_succ]
              refine grow_take 21 (some 57) ?_ rfl rfl (by kernel_rfl) (fun _ _ _ h => h) (by kernel_rfl) hCalm ?_ ?_
              rotate_left
              · intro wS hS; (try dsimp only at hS); go_simp <;> with_reducible rfl
              try simp only [Act.put, List.setIfInBounds_toArray, List.set_cons_zero, List.set_cons_succ]
              refine grow_take 22 (some 58) (.bool true) rfl rfl (by kernel_rfl) (fun _ _ _ h => h) (by kernel_rfl) hCalm ?_ ?_
              · intro wS hS; (try dsimp only at hS); go_simp
              try simp only [Act.put, List.setIfInBounds_toArray, List.set_cons_zero, List.set_cons_succ]
              refine grow_take 23 (some 59) ?_ rfl rfl (by kernel_rfl) (fun _ _ _ h => h) (by kernel_rfl) hCalm ?_ ?_
              rotate_left
              · intro wS hS; (try dsimp only at hS); go_simp <;> with_reducible rfl
              try simp only [Act.put, List.setIfInBounds_toArray, List.set_cons_zero, List.set_cons_succ]
              refine grow_take 24 (some 60) ?_ rfl rfl (by kernel_rfl) (fun _ _ _ h => h) (by kernel_rfl) hCalm ?_ ?_
              rotate_left
              · intro wS hS; (try dsimp only at hS); go_simp <;> with_reducible rfl
              try simp only [Act.put, List.setIfInBounds_toArray, List.set_cons_zero, List.set_cons_succ]
              refine grow_done (by kernel_rfl) (fun wA hA => ?_) _
              have HB9 := Lib.hid (HB1.out.trans (hA.mono HB1.out.size)); clear hA
              go_wp2_with fail
              go_ret
              exact ⟨⟨false, rfl, s, true, HIS.out, ⟨fun h => (by cases h), fun h => absurd h.2 HNN.out⟩⟩, HB0.out.trans (HB9.out.mono HB0.out.size)⟩
            case neg =>
              have HGG := Lib.hid (HGO.out (fun _ => ⟨by omega, by omega⟩))
              clear HNO HGO
              go_wp2_with fail
              clear k0 k1 k2
              refine wp_region_grow (S := (fun w' => w'.cell? ⟨wr.heap.size, 0, none⟩ = some (.int .i64 (q : Nat)) ∧ w'.cell? ⟨wr.heap.size, 1, none⟩ = some (.int .i64 lo) ∧ w'.cell? ⟨wr.heap.size, 2, none⟩ = some (.int .i64 hi2) ∧ w'.cell? ⟨gK, q, none⟩ = some (.bool true) ∧ w'.cell? ⟨gO, q, none⟩ = some (.int .i64 vq))) ((fun w' => Below (wr.alloc (.cells #[.int .i64 (q : Nat), .int .i64 lo, .int .i64 hi2] 77)).heap.size (wr.alloc (.cells #[.int .i64 (q : Nat), .int .i64 lo, .int .i64 hi2] 77)) w')) (by kernel_rfl) (⟨fun w2 h2 => ⟨(HD.out.below h2 HD.out.lt).cell (i := 0) (v := .int .i64 (q : Nat)) rfl, (HD.out.below h2 HD.out.lt).cell (i := 1) (v := .int .i64 lo) rfl, (HD.out.below h2 HD.out.lt).cell (i := 2) (v := .int .i64 hi2) rfl, ((HK.out.below HB1.out HK.out.lt).below h2 (Nat.lt_of_lt_of_le HK.out.lt HB1.out.size)).cell HKC.out, ((HO.out.below HB1.out HO.out.lt).below h2 (Nat.lt_of_lt_of_le HO.out.lt HB1.out.size)).cell HOC.out⟩, fun w2 w3 h2 hb2 => h2.trans (hb2.mono h2.size)⟩) ((Below.refl _ _).drew) (fun hCalm => ?_)
              refine grow_take 0 (some 36) ?_ rfl rfl (by kernel_rfl) (fun _ _ _ h => h) (by kernel_rfl) hCalm ?_ ?_
              rotate_left
              · intro wS hS; (try dsimp only at hS); go_simp <;> with_reducible rfl
              try simp only [Act.put, List.setIfInBounds_toArray, List.set_cons_zero, List.set_cons_succ]
              refine grow_take 1 (some 37) ?_ rfl rfl (by kernel_rfl) (fun _ _ _ h => h) (by kernel_rfl) hCalm ?_ ?_
              rotate_left
              · intro wS hS; (try dsimp only at hS); go_simp <;> with_reducible rfl
              try simp only [Act.put, List.setIfInBounds_toArray, List.set_cons_zero, List.set_cons_succ]
              refine grow_take 2 (some 38) ?_ rfl rfl (by kernel_rfl) (fun _ _ _ h => h) (by kernel_rfl) hCalm ?_ ?_
              rotate_left
              · intro wS hS; (try dsimp only at hS); go_simp <;> with_reducible rfl
              try simp only [Act.put, List.setIfInBounds_toArray, List.set_cons_zero, List.set_cons_succ]
              refine grow_take 3 (some 39) ?_ rfl rfl (by kernel_rfl) (fun _ _ _ h => h) (by kernel_rfl) hCalm ?_ ?_
              rotate_left
              · intro wS hS; (try dsimp only at hS); go_simp <;> with_reducible rfl
              try simp only [Act.put, List.setIfInBounds_toArray, List.set_cons_zero, List.set_cons_succ]
              refine grow_take 4 (some 40) ?_ rfl rfl (by kernel_rfl) (fun _ _ _ h => h) (by kernel_rfl) hCalm ?_ ?_
              rotate_left
              · intro wS hS; (try dsimp only at hS); go_simp <;> with_reducible rfl
              try simp only [Act.put, List.setIfInBounds_toArray, List.set_cons_zero, List.set_cons_succ]
              refine grow_take 5 (some 41) ?_ rfl rfl (by kernel_rfl) (fun _ _ _ h => h) (by kernel_rfl) hCalm ?_ ?_
              rotate_left
              · intro wS hS; (try dsimp only at hS); go_simp <;> with_reducible rfl
              try simp only [Act.put, List.setIfInBounds_toArray, List.set_cons_zero, List.set_cons_succ]
              refine grow_take 6 (some 42) ?_ rfl rfl (by kernel_rfl) (fun _ _ _ h => h) (by kernel_rfl) hCalm ?_ ?_
              rotate_left
              · intro wS hS; (try dsimp only at hS); go_simp <;> with_reducible rfl
              try simp only [Act.put, List.setIfInBounds_toArray, List.set_cons_zero, List.set_cons_succ]
              refine grow_take 7 (some 43) ?_ rfl rfl (by kernel_rfl) (fun _ _ _ h => h) (by kernel_rfl) hCalm ?_ ?_
              rotate_left
              · intro wS hS; (try dsimp only at hS); go_simp <;> with_reducible rfl
              try simp only [Act.put, List.setIfInBounds_toArray, List.set_cons_zero, List.set_cons_succ]
              refine grow_take 8 (some 44) ?_ rfl rfl (by kernel_rfl) (fun _ _ _ h => h) (by kernel_rfl) hCalm ?_ ?_
              rotate_left
              · intro wS hS; (try dsimp only at hS); go_simp <;> with_reducible rfl
              try simp only [Act.put, List.setIfInBounds_toArray, List.set_cons_zero, List.set_cons_succ]
              refine grow_take 9 (some 45) ?_ rfl rfl (by kernel_rfl) (fun _ _ _ h => h) (by kernel_rfl) hCalm ?_ ?_
              rotate_left
              · intro wS hS; (try dsimp only at hS); go_simp <;> with_reducible rfl
              try simp only [Act.put, List.setIfInBounds_toArray, List.set_cons_zero, List.set_cons_succ]
              refine grow_take 10 (some 46) ?_ rfl rfl (by kernel_rfl) (fun _ _ _ h => h) (by kernel_rfl) hCalm ?_ ?_
              rotate_left
              · intro wS hS; (try dsimp only at hS); go_simp <;> with_reducible rfl
              try simp only [Act.put, List.setIfInBounds_toArray, List.set_cons_zero, List.set_cons_succ]
              refine grow_take 11 (some 47) ?_ rfl rfl (by kernel_rfl) (fun _ _ _ h => h) (by kernel_rfl) hCalm ?_ ?_
              rotate_left
              · intro wS hS; (try dsimp only at hS); go_simp <;> with_reducible rfl
              try simp only [Act.put, List.setIfInBounds_toArray, List.set_cons_zero, List.set_cons_succ]
              refine grow_take 12 (some 48) ?_ rfl rfl (by kernel_rfl) (fun _ _ _ h => h) (by kernel_rfl) hCalm ?_ ?_
              rotate_left
              · intro wS hS; (try dsimp only at hS); go_simp <;> with_reducible rfl
              try simp only [Act.put, List.setIfInBounds_toArray, List.set_cons_zero, List.set_cons_succ]
              refine grow_take 13 (some 49) (.bool false) rfl rfl (by kernel_rfl) (fun _ _ _ h => h) (by kernel_rfl) hCalm ?_ ?_
              · intro wS hS; (try dsimp only at hS); go_simp
              try simp only [Act.put, List.setIfInBounds_toArray, List.set_cons_zero, List.set_cons_succ]
              refine grow_take 14 (some 50) ?_ rfl rfl (by kernel_rfl) (fun _ _ _ h => h) (by kernel_rfl) hCalm ?_ ?_
              rotate_left
              · intro wS hS; (try dsimp only at hS); go_simp <;> with_reducible rfl
              try simp only [Act.put, List.setIfInBounds_toArray, List.set_cons_zero, List.set_cons_succ]
              refine grow_take 15 (some 51) ?_ rfl rfl (by kernel_rfl) (fun _ _ _ h => h) (by kernel_rfl) hCalm ?_ ?_
              rotate_left
              · intro wS hS; (try dsimp only at hS); go_simp <;> with_reducible rfl
              try simp only [Act.put, List.setIfInBounds_toArray, List.set_cons_zero, List.set_cons_succ]
              refine grow_take 16 (some 52) ?_ rfl rfl (by kernel_rfl) (fun _ _ _ h => h) (by kernel_rfl) hCalm ?_ ?_
              rotate_left
              · intro wS hS; (try dsimp only at hS); go_simp <;> with_reducible rfl
              try simp only [Act.put, List.setIfInBounds_toArray, List.set_cons_zero, List.set_cons_succ]
              refine grow_take 17 (some 53) ?_ rfl rfl (by kernel_rfl) (fun _ _ _ h => h) (by kernel_rfl) hCalm ?_ ?_
              rotate_left
              · intro wS hS; (try dsimp only at hS); go_simp <;> with_reducible rfl
              try simp only [Act.put, List.setIfInBounds_toArray, List.set_cons_zero, List.set_cons_succ]
              refine grow_take 18 (some 54) ?_ rfl rfl (by kernel_rfl) (fun _ _ _ h => h) (by kernel_rfl) hCalm ?_ ?_
              rotate_left
              · intro wS hS; (try dsimp only at hS); go_simp <;> with_reducible rfl
              try simp only [Act.put, List.setIfInBounds_toArray, List.set_cons_zero, List.set_cons_succ]
              refine grow_take 19 (some 55) ?_ rfl rfl (by kernel_rfl) (fun _ _ _ h => h) (by kernel_rfl) hCalm ?_ ?_
              rotate_left
              · intro wS hS; (try dsimp only at hS); go_simp <;> with_reducible rfl
              try simp only [Act.put, List.setIfInBounds_toArray, List.set_cons_zero, List.set_cons_succ]
              refine grow_take 20 (some 56) ?_ rfl rfl (by kernel_rfl) (fun _ _ _ h => h) (by kernel_rfl) hCalm ?_ ?_
              rotate_left
              · intro wS hS; (try dsimp only at hS); go_simp <;> with_reducible rfl
              try simp only [Act.put, List.setIfInBounds_toArray, List.set_cons_zero, List.set_cons_succ]
              refine grow_take 21 (some 57) ?_ rfl rfl (by kernel_rfl) (fun _ _ _ h => h) (by kernel_rfl) hCalm ?_ ?_
              rotate_left
              · intro wS hS; (try dsimp only at hS); go_simp <;> with_reducible rfl
              try simp only [Act.put, List.setIfInBounds_toArray, List.set_cons_zero, List.set_cons_succ]
              refine grow_take 22 (some 58) (.bool false) rfl rfl (by kernel_rfl) (fun _ _ _ h => h) (by kernel_rfl) hCalm ?_ ?_
              · intro wS hS; (try dsimp only at hS); go_simp
              try simp only [Act.put, List.setIfInBounds_toArray, List.set_cons_zero, List.set_cons_succ]
              refine grow_take 23 (some 59) ?_ rfl rfl (by kernel_rfl) (fun _ _ _ h => h) (by kernel_rfl) hCalm ?_ ?_
              rotate_left
              · intro wS hS; (try dsimp only at hS); go_simp <;> with_reducible rfl
              try simp only [Act.put, List.setIfInBounds_toArray, List.set_cons_zero, List.set_cons_succ]
              refine grow_take 24 (some 60) ?_ rfl rfl (by kernel_rfl) (fun _ _ _ h => h) (by kernel_rfl) hCalm ?_ ?_
              rotate_left
              · intro wS hS; (try dsimp only at hS); go_simp <;> with_reducible rfl
              try simp only [Act.put, List.setIfInBounds_toArray, List.set_cons_zero, List.set_cons_succ]
              refine grow_done (by kernel_rfl) (fun wA hA => ?_) _
              have HB9 := Lib.hid (HB1.out.trans (hA.mono HB1.out.size)); clear hA
              go_wp2_with fail
              go_roundw
              case rel => exact ⟨i + 1, by go_num, HI.out, HGG.out, HB9.out⟩
              case measure => have := HI.out; simp [intOf]; omega
end Go.Proofs.Ytbcgfohacbapoaa
