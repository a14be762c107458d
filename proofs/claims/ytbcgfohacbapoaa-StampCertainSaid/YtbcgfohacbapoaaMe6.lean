
/- The contract of the reference's Meets. Conditions: the rows read, skews as Clocks makes them. -/
import Derived.Test.YtbcgfohacbapoaaCl6
namespace Go.Proofs.Ytbcgfohacbapoaa
open Go.RowKit Go.Lib

theorem IsClk.meet {l : List Sk} (h : IsClk l) {a b : Nat} (ha : a < l.length) (hb : b < l.length) (hab : a ≠ b) {t : Int} (ht : 0 ≤ t ∧ t ≤ 1000000) : OkM l ⟨l[a].p, t, l[b].p, 500⟩ := by
  have h1 := (h.2 a ha).1; have h2 := (h.2 b hb).1
  refine ⟨by dsimp only; omega, ?_, ?_, ht, by dsimp only; omega⟩
  · dsimp only; rw [fnd_mem h.ok.apart _ (List.getElem_mem ha)]; rfl
  · dsimp only; rw [fnd_mem h.ok.apart _ (List.getElem_mem hb)]; rfl
/-- Meetings as Meets makes them. -/
def IsMts (l : List Sk) (ms : List Mt) : Prop := ms.length ≤ 8 ∧ ∀ m ∈ ms, OkM l m
theorem IsMts.ok {l : List Sk} {ms : List Mt} (h : IsMts l ms) : MtOk l ms := ⟨by have := h.1; omega, h.2⟩
theorem IsMts.snoc {l : List Sk} {ms : List Mt} (h : IsMts l ms) (hl : ms.length < 8) {m : Mt} (hm : OkM l m) : IsMts l (ms ++ [m]) :=
  ⟨by simp; omega, fun x hx => by rcases List.mem_append.1 hx with hx | hx; exact h.2 x hx; rw [List.mem_singleton] at hx; rw [hx]; exact hm⟩
set_option maxRecDepth 100000 in
set_option maxHeartbeats 8000000 in
theorem rmeets_any (l : List Sk) (A : Option Addr) (c : Nat) (B : Option Addr) (n d : Nat) (w : World) (hl : IsClk l) (hA : Kz w A l) (hB : Xz 3 w B n) (_ : n ≤ 9223372036854775807) :
    Calls Try.prog 53 #[.slice A l.length c, .slice B n d] w fun e w' => (∃ (ms : List Mt) (A2 : Option Addr) (c2 : Nat), e = .returned (.slice A2 ms.length c2) ∧ IsMts l ms ∧ Mz w' A2 ms ∧ ms.length ≤ c2 ∧ (A2 = none → c2 = 0) ∧ (∀ b o, A2 = some ⟨b, o, none⟩ → w.heap.size ≤ b)) ∧ Below w.heap.size w w' := by
  have HA := Lib.hid hA; have HX := Lib.hid hB; have HCK := Lib.hid hl; have HL6 := Lib.hid hl.1; clear hA hB hl
  obtain ⟨nl, hnl⟩ : ∃ n, n = l.length := ⟨_, rfl⟩
  have HNL := Lib.hid hnl
  rw [← hnl]
  have hn6 : nl ≤ 6 := by have := HL6.out; omega
  clear hnl
  go_enter Try.func53, Try.ntmps53
  go_wp2_with fail
  go_loopw [5, 6] (fun vv ii wr => ∃ (i : Nat) (ms : List Mt) (v1 : Value), v1 = vv ∧ ii = .int .i64 i ∧ i ≤ n ∧ ms.length ≤ i ∧ IsMts l ms ∧ OwnL mtc 4 79 wr w.heap.size v1 ms ∧ Below w.heap.size w wr) (fun _ ii _ => n - (intOf ii).toNat)
  case atStart => exact ⟨0, [], _, rfl, rfl, Nat.zero_le _, by simp, ⟨by simp, fun m hm => by cases hm⟩, OwnL.nil _ _, Below.refl _ _⟩
  case round =>
    obtain ⟨i, ms, v1, rfl, rfl, hi, hl, hc, hown, hB⟩ := hrel
    have HL := Lib.hid hl; have HC := Lib.hid hc; have HOW := Lib.hid hown; have HB := Lib.hid hB; clear hl hc hown hB
    by_cases h1 : i < n
    case neg =>
      have hundef := un_none
      clear hi
      go_wp2_with fail
      go_ret
      refine ⟨?_, HB.out⟩
      obtain ⟨A3, c3, hv, hz, hc, hn, hm⟩ := OwnL.read apT HOW.out
      exact ⟨ms, A3, c3, by rw [hv]; rfl, HC.out, hz, hc, hn, fun b o e => OwnL.block HOW.out (by rw [hv, e]; rfl)⟩
    case pos =>
      by_cases h2 : i < 8
      case neg =>
        have q3 : ¬ (i : Int) < 8 := by omega
        have hundef := un_none
        clear hi
        go_wp2_with fail
        go_ret
        refine ⟨?_, HB.out⟩
        obtain ⟨A3, c3, hv, hz, hc, hn, hm⟩ := OwnL.read apT HOW.out
        exact ⟨ms, A3, c3, by rw [hv]; rfl, HC.out, hz, hc, hn, fun b o e => OwnL.block HOW.out (by rw [hv, e]; rfl)⟩
      case pos =>
        by_cases h3 : 1 < nl
        case neg =>
          have q3 : (i : Int) < 8 := by omega
          have q4 : ¬ (1 : Int) < (nl : Int) := by omega
          clear hi
          go_wp2_with fail
          go_ret
          refine ⟨?_, HB.out⟩
          obtain ⟨A3, c3, hv, hz, hc, hn, hm⟩ := OwnL.read apT HOW.out
          exact ⟨ms, A3, c3, by rw [hv]; rfl, HC.out, hz, hc, hn, fun b o e => OwnL.block HOW.out (by rw [hv, e]; rfl)⟩
        case pos =>
          obtain ⟨b, o, u0, u1, u2, rfl, hu0, hu1, hu2, hcell⟩ := HX.out.row3 h1
          obtain ⟨bk, ok, rfl⟩ := HA.out.some (by have := HNL.out; omega)
          obtain ⟨c0, c1, c2⟩ := hcell wr HB.out
          have HCE := Lib.hid hcell
          obtain ⟨ka, hka, hPA⟩ := rpick_one u0 (nl : Int) hu0 (by omega)
          obtain ⟨ka, rfl⟩ : ∃ kn : Nat, ka = (kn : Int) := ⟨ka.toNat, by omega⟩
          obtain ⟨kb, hkb, hPB⟩ := rpick_one u1 (nl : Int) hu1 (by omega)
          obtain ⟨kb, rfl⟩ : ∃ kn : Nat, kb = (kn : Int) := ⟨kb.toNat, by omega⟩
          obtain ⟨kt, hkt, hPT⟩ := rpick_one u2 120 hu2 (by omega)
          have HPA := Lib.hid hPA; have HPB := Lib.hid hPB; have HPT := Lib.hid hPT
          have hal : ka < l.length := by have := HNL.out; omega
          have hbl : kb < l.length := by have := HNL.out; omega
          have HKA := Lib.hid (fun W (hb : Below w.heap.size w W) => (Kz.cell HA.out hb (Nat.le_refl _) hal).1)
          have HKB := Lib.hid (fun W (hb : Below w.heap.size w W) => (Kz.cell HA.out hb (Nat.le_refl _) hbl).1)
          obtain ⟨s1, hs1⟩ : ∃ x, x = 500 + kt := ⟨_, rfl⟩
          obtain ⟨s2, hs2⟩ : ∃ x, x = s1 - 60 := ⟨_, rfl⟩
          have e1 : IntKind.i64.wrap (500 + kt) = s1 := by rw [hs1]; exact IntWalk.i64_in _ (by omega)
          have e2 : IntKind.i64.wrap (s1 - 60) = s2 := by rw [hs2]; exact IntWalk.i64_in _ (by omega)
          have HNW : Hid (ka ≠ kb → IsMts l (ms ++ [⟨l[ka].p, s2, l[kb].p, 500⟩])) := Lib.hid (fun hab => HC.out.snoc (by have := HL.out; omega) (HCK.out.meet hal hbl hab (by omega)))
          obtain ⟨pa, hpa⟩ : ∃ x, x = l[ka].p := ⟨_, rfl⟩
          obtain ⟨pb, hpb⟩ : ∃ x, x = l[kb].p := ⟨_, rfl⟩
          rw [← hpa] at HKA HNW; rw [← hpb] at HKB HNW
          have q0 : (i : Int) < 8 := by omega
          have q1 : (0 : Int) ≤ (i : Int) := by omega
          have q2 : (i : Int) < (n : Int) := by omega
          have q4 : (1 : Int) < (nl : Int) := by omega
          have q5 : (i : Int) ≤ 9223372036854775806 := by omega
          have q6 : (0 : Int) ≤ (ka : Int) := by omega
          have q7 : (ka : Int) < (nl : Int) := by omega
          have q8 : (0 : Int) ≤ (kb : Int) := by omega
          have q9 : (kb : Int) < (nl : Int) := by omega
          have HI := Lib.hid h1; have HI8 := Lib.hid h2
          have HM6 : Hid (ms.length ≤ 1000000) := Lib.hid (by have := HL.out; omega)
          clear hcell hPA hPB hPT hu0 hu1 hu2 hka hkb hkt hs1 hs2 hpa hpb h1 h2 h3 hi hn6 hal hbl
          go_wp2_with fail
          refine (HPA.out _).mono ?_
          rintro e v0 ⟨rfl, hb⟩
          have HO0 := Lib.hid (HOW.out.below hb); have HB0 := Lib.hid (HB.out.trans (hb.mono HB.out.size)); clear hb c0 c1 c2
          obtain ⟨c0, c1, c2⟩ := HCE.out _ HB0.out
          go_wp2_with fail
          refine (HPB.out _).mono ?_
          rintro e v2 ⟨rfl, hb⟩
          have HO2 := Lib.hid (HO0.out.below hb); have HB2 := Lib.hid (HB0.out.trans (hb.mono HB0.out.size)); clear hb c0 c1 c2
          by_cases hab : ka = kb
          case pos =>
            subst hab
            go_wp2_with fail
            go_roundw
            case rel => exact ⟨i + 1, ms, v1, rfl, by go_num, HI.out, by have := HL.out; omega, HC.out, HO2.out, HB2.out⟩
            case measure => have := HI.out; simp [intOf]; omega
          case neg =>
            have d2 : (ka == kb) = false := by rw [beq_eq_false_iff_ne]; exact hab
            have HNM := Lib.hid (HNW.out hab)
            clear hab
            go_wp2_with fail
            refine wp_region_grow (S := (fun w' => w'.cell? ⟨bk, ok + ka * 3, none⟩ = some (.int .i64 pa) ∧ w'.cell? ⟨bk, ok + kb * 3, none⟩ = some (.int .i64 pb) ∧ w'.cell? ⟨b, o + i * 3 + 2, none⟩ = some (.int .i64 u2))) ((fun w' => Below w.heap.size w w' ∧ OwnL mtc 4 79 w' w.heap.size v1 ms)) (by kernel_rfl) (⟨fun w2 h2 => ⟨HKA.out _ h2.1, HKB.out _ h2.1, (HCE.out _ h2.1).2.2⟩, fun w2 w3 h2 hb2 => ⟨h2.1.trans (hb2.mono h2.1.size), OwnL.below h2.2 hb2⟩⟩) (⟨HB2.out.drew, OwnL.drew HO2.out⟩) (fun hCalm => ?_)
            refine grow_take 0 (some 43) ?_ rfl rfl (by kernel_rfl) (fun _ _ _ h => h) (by kernel_rfl) hCalm ?_ ?_
            rotate_left
            · intro wS hS; (try dsimp only at hS); go_simp <;> with_reducible rfl
            try simp only [Act.put, List.setIfInBounds_toArray, List.set_cons_zero, List.set_cons_succ]
            refine grow_take 1 (some 44) ?_ rfl rfl (by kernel_rfl) (fun _ _ _ h => h) (by kernel_rfl) hCalm ?_ ?_
            rotate_left
            · intro wS hS; (try dsimp only at hS); go_simp <;> with_reducible rfl
            try simp only [Act.put, List.setIfInBounds_toArray, List.set_cons_zero, List.set_cons_succ]
            refine grow_take 2 (some 45) ?_ rfl rfl (by kernel_rfl) (fun _ _ _ h => h) (by kernel_rfl) hCalm ?_ ?_
            rotate_left
            · intro wS hS; (try dsimp only at hS); go_simp <;> with_reducible rfl
            try simp only [Act.put, List.setIfInBounds_toArray, List.set_cons_zero, List.set_cons_succ]
            refine grow_take 3 (some 46) ?_ rfl rfl (by kernel_rfl) (fun _ _ _ h => h) (by kernel_rfl) hCalm ?_ ?_
            rotate_left
            · intro wS hS; (try dsimp only at hS); go_simp <;> with_reducible rfl
            try simp only [Act.put, List.setIfInBounds_toArray, List.set_cons_zero, List.set_cons_succ]
            refine grow_take 4 (some 47) ?_ rfl rfl (by kernel_rfl) (fun _ _ _ h => h) (by kernel_rfl) hCalm ?_ ?_
            rotate_left
            · intro wS hS; (try dsimp only at hS); go_simp <;> with_reducible rfl
            try simp only [Act.put, List.setIfInBounds_toArray, List.set_cons_zero, List.set_cons_succ]
            refine grow_take 5 (some 48) ?_ rfl rfl (by kernel_rfl) (fun _ _ _ h => h) (by kernel_rfl) hCalm ?_ ?_
            rotate_left
            · intro wS hS; (try dsimp only at hS); go_simp <;> with_reducible rfl
            try simp only [Act.put, List.setIfInBounds_toArray, List.set_cons_zero, List.set_cons_succ]
            refine grow_take 6 (some 49) ?_ rfl rfl (by kernel_rfl) (fun _ _ _ h => h) (by kernel_rfl) hCalm ?_ ?_
            rotate_left
            · intro wS hS; (try dsimp only at hS); go_simp <;> with_reducible rfl
            try simp only [Act.put, List.setIfInBounds_toArray, List.set_cons_zero, List.set_cons_succ]
            refine grow_take 7 (some 50) ?_ rfl rfl (by kernel_rfl) (fun _ _ _ h => h) (by kernel_rfl) hCalm ?_ ?_
            rotate_left
            · intro wS hS; (try dsimp only at hS); go_simp <;> with_reducible rfl
            try simp only [Act.put, List.setIfInBounds_toArray, List.set_cons_zero, List.set_cons_succ]
            refine grow_take 8 (some 51) ?_ rfl rfl (by kernel_rfl) (fun _ _ _ h => h) (by kernel_rfl) hCalm ?_ ?_
            rotate_left
            · intro wS hS; (try dsimp only at hS); go_simp <;> with_reducible rfl
            try simp only [Act.put, List.setIfInBounds_toArray, List.set_cons_zero, List.set_cons_succ]
            refine grow_take 9 (some 52) ?_ rfl rfl (by kernel_rfl) (fun _ _ _ h => h) (by kernel_rfl) hCalm ?_ ?_
            rotate_left
            · intro wS hS; (try dsimp only at hS); go_simp <;> with_reducible rfl
            try simp only [Act.put, List.setIfInBounds_toArray, List.set_cons_zero, List.set_cons_succ]
            refine grow_take 10 (some 53) ?_ rfl rfl (by kernel_rfl) (fun _ _ _ h => h) (by kernel_rfl) hCalm ?_ ?_
            rotate_left
            · intro wS hS; (try dsimp only at hS); go_simp <;> with_reducible rfl
            try simp only [Act.put, List.setIfInBounds_toArray, List.set_cons_zero, List.set_cons_succ]
            refine grow_call 11 (some 54) (.int .i64 kt) 87 [.tmp 53, .const (Go.Value.int Go.IntKind.i64 120)] #[3, 3] rfl rfl (by kernel_rfl) (fun _ _ _ h => h) (by kernel_rfl) hCalm rfl (enters_of Try.func87 (by kernel_rfl) rfl) (fun wz _ => HPT.out wz) (by kernel_rfl) ?_
            try simp only [Act.put, List.setIfInBounds_toArray, List.set_cons_zero, List.set_cons_succ]
            refine grow_take 12 (some 55) ?_ rfl rfl (by kernel_rfl) (fun _ _ _ h => h) (by kernel_rfl) hCalm ?_ ?_
            rotate_left
            · intro wS hS; (try dsimp only at hS); go_simp <;> with_reducible rfl
            try simp only [Act.put, List.setIfInBounds_toArray, List.set_cons_zero, List.set_cons_succ]
            refine grow_take 13 (some 56) ?_ rfl rfl (by kernel_rfl) (fun _ _ _ h => h) (by kernel_rfl) hCalm ?_ ?_
            rotate_left
            · intro wS hS; (try dsimp only at hS); go_simp <;> with_reducible rfl
            try simp only [Act.put, List.setIfInBounds_toArray, List.set_cons_zero, List.set_cons_succ]
            refine grow_take 14 (some 57) ?_ rfl rfl (by kernel_rfl) (fun _ _ _ h => h) (by kernel_rfl) hCalm ?_ ?_
            rotate_left
            · intro wS hS; (try dsimp only at hS); go_simp <;> with_reducible rfl
            try simp only [Act.put, List.setIfInBounds_toArray, List.set_cons_zero, List.set_cons_succ]
            refine grow_take 15 (some 58) ?_ rfl rfl (by kernel_rfl) (fun _ _ _ h => h) (by kernel_rfl) hCalm ?_ ?_
            rotate_left
            · intro wS hS; (try dsimp only at hS); go_simp <;> with_reducible rfl
            try simp only [Act.put, List.setIfInBounds_toArray, List.set_cons_zero, List.set_cons_succ]
            refine grow_take 16 (some 59) ?_ rfl rfl (by kernel_rfl) (fun _ _ _ h => h) (by kernel_rfl) hCalm ?_ ?_
            rotate_left
            · intro wS hS; (try dsimp only at hS); go_simp <;> with_reducible rfl
            try simp only [Act.put, List.setIfInBounds_toArray, List.set_cons_zero, List.set_cons_succ]
            refine grow_take 17 (some 60) ?_ rfl rfl (by kernel_rfl) (fun _ _ _ h => h) (by kernel_rfl) hCalm ?_ ?_
            rotate_left
            · intro wS hS; (try dsimp only at hS); go_simp <;> with_reducible rfl
            try simp only [Act.put, List.setIfInBounds_toArray, List.set_cons_zero, List.set_cons_succ]
            refine grow_take 18 (some 61) ?_ rfl rfl (by kernel_rfl) (fun _ _ _ h => h) (by kernel_rfl) hCalm ?_ ?_
            rotate_left
            · intro wS hS; (try dsimp only at hS); go_simp <;> with_reducible rfl
            try simp only [Act.put, List.setIfInBounds_toArray, List.set_cons_zero, List.set_cons_succ]
            refine grow_take 19 (some 62) ?_ rfl rfl (by kernel_rfl) (fun _ _ _ h => h) (by kernel_rfl) hCalm ?_ ?_
            rotate_left
            · intro wS hS; (try dsimp only at hS); go_simp <;> with_reducible rfl
            try simp only [Act.put, List.setIfInBounds_toArray, List.set_cons_zero, List.set_cons_succ]
            refine grow_each [20] (by kernel_rfl) (by decide) ?_
            refine grow_cons 20 rfl (by kernel_rfl) (fun wA hA K hK => ?_) grow_nil
            obtain ⟨pN, hpN⟩ : ∃ b, b = wA.heap.size := ⟨_, rfl⟩
            have hnew : Blk (wA.alloc (.cells #[.int .i64 pa, .int .i64 s2, .int .i64 pb, .int .i64 500] 79)) pN 79 #[.int .i64 pa, .int .i64 s2, .int .i64 pb, .int .i64 500] := by rw [hpN]; exact Blk.new wA _ _
            go_simp
            rw [← hpN]
            refine hK.out _ _ (fun w' => Below w.heap.size w w' ∧ OwnL mtc 4 79 w' w.heap.size v1 ms ∧ Blk w' pN 79 #[.int .i64 pa, .int .i64 s2, .int .i64 pb, .int .i64 500]) ⟨fun w2 h2 => ⟨HKA.out _ h2.1, HKB.out _ h2.1, (HCE.out _ h2.1).2.2⟩, fun w2 w3 h2 hb2 => ⟨h2.1.trans (hb2.mono h2.1.size), OwnL.below h2.2.1 hb2, h2.2.2.below hb2 h2.2.2.lt⟩⟩ ⟨hA.1.alloc hA.1.size _, OwnL.below hA.2 ((Below.refl _ _).alloc (Nat.le_refl _) _), hnew⟩ ?_
            clear hnew hpN hK K hA wA hCalm
            have hCalm : Calm (fun w' => w'.cell? ⟨bk, ok + ka * 3, none⟩ = some (.int .i64 pa) ∧ w'.cell? ⟨bk, ok + kb * 3, none⟩ = some (.int .i64 pb) ∧ w'.cell? ⟨b, o + i * 3 + 2, none⟩ = some (.int .i64 u2)) (fun w' => Below w.heap.size w w' ∧ OwnL mtc 4 79 w' w.heap.size v1 ms ∧ Blk w' pN 79 #[.int .i64 pa, .int .i64 s2, .int .i64 pb, .int .i64 500]) := ⟨fun w2 h2 => ⟨HKA.out _ h2.1, HKB.out _ h2.1, (HCE.out _ h2.1).2.2⟩, fun w2 w3 h2 hb2 => ⟨h2.1.trans (hb2.mono h2.1.size), OwnL.below h2.2.1 hb2, h2.2.2.below hb2 h2.2.2.lt⟩⟩
            try simp only [Act.put, List.setIfInBounds_toArray, List.set_cons_zero, List.set_cons_succ]
            refine grow_each [21] (by kernel_rfl) (by decide) ?_
            refine grow_cons 21 rfl (by kernel_rfl) (fun wA hA K hK => ?_) grow_nil
            refine wp_append_one apT _ _ rfl w.heap.size v1 ms rfl hA.2.1 pN ⟨pa, s2, pb, 500⟩ rfl hA.2.2 HM6.out (Nat.le_trans (Nat.le_refl _) hA.1.size) ?_
            intro vN w2 hown2 hgrow2
            have hbg := hA.1.grown hgrow2 hA.1.size (fun k e => Nat.le_trans (Nat.le_refl _) (OwnL.block hA.2.1 e))
            refine hK.out _ _ (fun w' => Below w.heap.size w w' ∧ OwnL mtc 4 79 w' w.heap.size vN (ms ++ [⟨pa, s2, pb, 500⟩])) ⟨fun w2 h2 => ⟨HKA.out _ h2.1, HKB.out _ h2.1, (HCE.out _ h2.1).2.2⟩, fun w2 w3 h2 hb2 => ⟨h2.1.trans (hb2.mono h2.1.size), OwnL.below h2.2 hb2⟩⟩ ⟨hbg, hown2⟩ ?_
            clear hbg hown2 hgrow2 hK K hA wA hCalm w2
            have hCalm : Calm (fun w' => w'.cell? ⟨bk, ok + ka * 3, none⟩ = some (.int .i64 pa) ∧ w'.cell? ⟨bk, ok + kb * 3, none⟩ = some (.int .i64 pb) ∧ w'.cell? ⟨b, o + i * 3 + 2, none⟩ = some (.int .i64 u2)) (fun w' => Below w.heap.size w w' ∧ OwnL mtc 4 79 w' w.heap.size vN (ms ++ [⟨pa, s2, pb, 500⟩])) := ⟨fun w2 h2 => ⟨HKA.out _ h2.1, HKB.out _ h2.1, (HCE.out _ h2.1).2.2⟩, fun w2 w3 h2 hb2 => ⟨h2.1.trans (hb2.mono h2.1.size), OwnL.below h2.2 hb2⟩⟩
            try simp only [Act.put, List.setIfInBounds_toArray]
            refine grow_take 22 (some 5) ?_ rfl rfl (by kernel_rfl) (fun _ _ _ h => h) (by kernel_rfl) hCalm ?_ ?_
            rotate_left
            · intro wS hS; (try dsimp only at hS); go_simp <;> with_reducible rfl
            try simp only [Act.put]
            refine grow_done (by kernel_rfl) (fun wA hA => ?_) _
            have HA6 := Lib.hid hA.1; have HO6 := Lib.hid hA.2; clear hA
            go_wp2_with fail
            go_roundw
            case rel => exact ⟨i + 1, ms ++ [⟨pa, s2, pb, 500⟩], vN, rfl, by go_num, HI.out, by have := HL.out; simp; omega, HNM.out, HO6.out, HA6.out⟩
            case measure => have := HI.out; simp [intOf]; omega
end Go.Proofs.Ytbcgfohacbapoaa
