
/- The contract of narrowed. Conditions: the slice and the map read, persons that are there, bounds that do not overflow. -/
import Derived.Test.YtbcgfohacbapoaaAl6
namespace Go.Proofs.Ytbcgfohacbapoaa
open Go.RowKit Go.Shelf Go.Lib

theorem Rz.grown {α : Type} {cs : α → List Value} {k : Nat} {W W' : World} {A : Option Addr} {l : List α} {b n : Nat} {K : Int → Bool} {F : Int → Sk} (h : Rz cs k W A l) (hM : MapB W b n K F) (hg : W.grownBy W' (Option.some b)) : Rz cs k W' A l := by
  obtain ⟨o, h1, h2⟩ := hM.obj
  exact h.kept (KpC.of_grown (q := W.heap.size) hg h1 h2) (fun hn b2 o2 e => by subst e; have := h.here (i := 0) hn; omega)
/-- What narrowing leaves. -/
def NarN (n : Nat) (E : List Ed) (F0 F : Int → Sk) : Prop := ∃ k, F = itF E k F0 ∧ (n ≤ k ∨ ∀ e ∈ E, stp F e = F)
theorem itF_bd (E : List Ed) (F : Int → Sk) {C : Int} (h : Bd F C) (ha : ∀ e ∈ E, -1000000 ≤ e.a ∧ e.a ≤ 1000000) (hE : E.length ≤ 120) : ∀ k : Nat, Bd (itF E k F) (C + 120000000 * k)
  | 0 => by simpa [itF] using h
  | k + 1 => fun q => by
    have := psF_bd E _ (itF_bd E F h ha hE k) ha q
    simp only [itF]
    omega
set_option maxRecDepth 100000 in
set_option maxHeartbeats 4000000 in
theorem pnarrowed_any (mb n : Nat) (K : Int → Bool) (F : Int → Sk) (C : Int) (ms : List Mt) (B : Option Addr) (d : Nat) (w : World) (hM : MapB w mb n K F) (hn : n ≤ 1000) (hB : Mz w B ms) (hl : ms.length ≤ 60) (ht : Tms ms) (hE : EdOk (sdL ms) K) (hF : Bd F C) (hC : C ≤ 1000000000) :
    Calls Try.prog 92 #[.map (some mb), .slice B ms.length d] w fun e w' => ∃ F', NarN n (sdL ms) F F' ∧ e = .returned (.bool (decide (Lst (sdL ms) F'))) ∧ MapB w' mb n K F' ∧ w.grownBy w' (some mb) := by
  have HBD : Hid (∀ k : Nat, k ≤ n → Bd (itF (sdL ms) k F) 500000000000) := Lib.hid (fun k hk q => by
    have := itF_bd (sdL ms) F hF (sdL_a ht) (by rw [sdL_len]; omega) k q; omega)
  have HB := Lib.hid (fun W (hg : w.grownBy W (some mb)) => hB.grown hM hg)
  have HPA := Lib.hid (fun W (hg : w.grownBy W (some mb)) F1 (h1 : MapB W mb n K F1) (h2 : Bd F1 500000000000) => ppassed_any mb n K F1 _ ms B d W h1 hn (HB.out W hg) hl ht hE h2 (by omega))
  have HLE := Lib.hid (fun W (hg : w.grownBy W (some mb)) F1 (h1 : MapB W mb n K F1) (h2 : Bd F1 500000000000) => pleast_any mb n K F1 _ ms B d W h1 (HB.out W hg) hl ht hE h2 (by omega))
  have hlen := fun ty => hM.len ty
  have hG0 : w.grownBy w (some mb) := ⟨rfl, rfl, rfl, Nat.le_refl _, fun _ _ _ => rfl⟩
  have HM0 := Lib.hid hM; have HG0 := Lib.hid hG0
  have hn9 : n ≤ 1000 := hn
  clear hM hn hB hl ht hE hF hC hG0 HB
  go_enter Try.func92, Try.ntmps92
  go_wp2_with fail
  clear hlen
  go_loopw [7] (fun ii wr => ∃ i : Nat, ii = .int .i64 i ∧ i ≤ n ∧ MapB wr mb n K (itF (sdL ms) i F) ∧ w.grownBy wr (some mb)) (fun ii _ => n - (intOf ii).toNat)
  case atStart => exact ⟨0, rfl, Nat.zero_le _, HM0.out, HG0.out⟩
  case round =>
    clear HM0 HG0
    obtain ⟨i, rfl, hi, hM, hG⟩ := hrel
    have HG := Lib.hid hG
    have HBI := Lib.hid (HBD.out i hi)
    obtain ⟨F1, hF1⟩ : ∃ F1, F1 = itF (sdL ms) i F := ⟨_, rfl⟩
    have HSC : Hid (psF (sdL ms) F1 = itF (sdL ms) (i + 1) F) := Lib.hid (by rw [hF1]; rfl)
    rw [← hF1] at hM HBI
    have HM := Lib.hid hM
    have HF1 := Lib.hid hF1
    clear hM hG hF1
    by_cases hlt : i < n
    case neg =>
      have HIN : Hid (n ≤ i) := Lib.hid (by omega)
      obtain rfl : i = n := by omega
      clear hlt hi
      go_wp2_with fail
      refine (HLE.out _ HG.out _ HM.out HBI.out).mono ?_
      rintro e v0 ⟨rfl, hb⟩
      have HB0 := Lib.hid hb; clear hb
      go_wp2_with fail
      go_ret
      exact ⟨F1, ⟨i, HF1.out, Or.inl (Nat.le_refl _)⟩, rfl, HM.out.below HB0.out HM.out.lt, grown_below HG.out HB0.out⟩
    case pos =>
      have q1 : (i : Int) < (n : Int) := by omega
      have q5 : (i : Int) + 1 ≤ 9223372036854775807 := by omega
      have HI := Lib.hid hlt
      obtain ⟨c1, hc1⟩ : ∃ c1, c1 = (pst (sdL ms) F1).2 := ⟨_, rfl⟩
      have HC1 := Lib.hid hc1
      have HPB := Lib.hid (HPA.out _ HG.out _ HM.out HBI.out)
      rw [← hc1] at HPB
      clear hlt hi hc1
      go_wp2_with fail
      refine HPB.out.mono ?_
      rintro e v0 ⟨rfl, hM1, hG1⟩
      have HM1 := Lib.hid hM1; have HG1 := Lib.hid (grown_trans HG.out hG1); clear hM1 hG1 HPB
      cases c1
      case true =>
        go_wp2_with fail
        go_roundw
        case rel => exact ⟨i + 1, by go_num, HI.out, by rw [← HSC.out]; exact HM1.out, HG1.out⟩
        case measure => have := HI.out; simp [intOf]; omega
      case false =>
        have HNO := Lib.hid (pst_no _ _ HC1.out.symm)
        have HM2 : Hid (MapB v0 mb n K F1) := Lib.hid (by have h := HM1.out; rwa [← pst_fst, HNO.out.1] at h)
        go_wp2_with fail
        refine (HLE.out _ HG1.out _ HM2.out HBI.out).mono ?_
        rintro e v1 ⟨rfl, hb⟩
        have HB0 := Lib.hid hb; clear hb
        go_wp2_with fail
        go_ret
        exact ⟨F1, ⟨i, HF1.out, Or.inr HNO.out.2⟩, rfl, HM2.out.below HB0.out HM2.out.lt, grown_below HG1.out HB0.out⟩
end Go.Proofs.Ytbcgfohacbapoaa
