
/- What the laws of strokes need: made strokes, results of a call named. Conditions: the slices read. -/
import Derived.Test.YtamogfcedkjmcaaPk5
import Derived.Test.YtamogfcedkjmcaaMd5
namespace Go.Proofs.Ytamogfcedkjmcaa
open Go.RowKit Go.Lib Go.Shelf

theorem Tz.below {w w' : World} {A : Option Addr} {n B : Nat} (h : Tz w A n) (hb : Below B w w') (hB : w.heap.size ≤ B) : Tz w' A n := fun hn => by
  obtain ⟨b, o, e, hl, hc⟩ := h hn
  have hk : ∀ i, w'.cell? ⟨b, i, none⟩ = w.cell? ⟨b, i, none⟩ := fun i => hb.cell (p := ⟨b, _, none⟩) (Nat.lt_of_lt_of_le hl hB)
  refine ⟨b, o, e, Nat.lt_of_lt_of_le hl hb.size, fun i hi => ?_⟩
  obtain ⟨u0, u1, u2, h0, h1, h2, h3, h4, h5⟩ := hc i hi
  exact ⟨u0, u1, u2, h0, h1, h2, (hk _).trans h3, (hk _).trans h4, (hk _).trans h5⟩
theorem lmade_any (pe nu : Int) (A : Option Addr) (n c : Nat) (w : World) (hA : Tz w A n) (hz : n ≤ 9223372036854775807) (hp : -9223372036854775808 ≤ pe ∧ pe ≤ 9223372036854775807) (hn : -9223372036854775808 ≤ nu ∧ nu ≤ 9223372036854775807) :
    Calls Try.prog 11 #[.int .i64 pe, .int .i64 nu, .slice A n c] w fun e w' => ∃ P N ds A1 k1, e = .returned (.agg #[.int .i64 P, .int .i64 N, .slice A1 ds.length k1]) ∧ Vd P N ds ∧ ds.length ≤ 24 ∧ Dz w' A1 ds ∧ ds.length ≤ k1 ∧ (∀ b o, A1 = some ⟨b, o, none⟩ → w.heap.size ≤ b) ∧ Below w.heap.size w w' :=
  (rmade_any pe nu A n c w hA hz hp hn).mono fun e w' h => by
    obtain ⟨P, N, ds, v, rfl, h1, h2, h3, h4⟩ := h
    obtain ⟨_, A1, k1, rfl, hd⟩ := Dz.of_own h3
    refine ⟨P, N, ds, A1, k1, rfl, h1, h2, hd, ?_, fun b o he => (by subst he; exact own_base h3 b rfl), h4⟩
    rcases h3.2 with ⟨_, h0⟩ | ⟨g, cap, cur, he, _, _, hc, _⟩
    · omega
    · cases he; exact hc
theorem mov_fits {P N : Int} {ds : List Dt} {x y ww hh r d : Int} (hv : Vd P N ds) (hb : IsBox ds x y ww hh) (hr : (-4095 ≤ r ∧ r ≤ 4095) ∧ (-4095 ≤ d ∧ d ≤ 4095)) :
    MovP P N ds r d ↔ 0 ≤ x + r ∧ x + ww + r ≤ 4095 ∧ 0 ≤ y + d ∧ y + hh + d ≤ 4095 := by
  obtain ⟨h0, ⟨d1, m1, e1⟩, ⟨d2, m2, e2⟩, ⟨d3, m3, e3⟩, ⟨d4, m4, e4⟩⟩ := hb
  constructor
  · intro h
    have a1 := h.2.2 d1 m1; have a2 := h.2.2 d2 m2; have a3 := h.2.2 d3 m3; have a4 := h.2.2 d4 m4
    unfold OnP at a1 a2 a3 a4
    omega
  · intro h
    refine ⟨hv, hr, fun e he => ?_⟩
    have := h0 e he
    unfold OnP
    omega
theorem box_on {P N : Int} {ds : List Dt} {x y ww hh : Int} (hv : Vd P N ds) (hb : IsBox ds x y ww hh) : (0 ≤ x ∧ x ≤ 4095) ∧ (0 ≤ y ∧ y ≤ 4095) ∧ (0 ≤ ww ∧ ww ≤ 4095) ∧ (0 ≤ hh ∧ hh ≤ 4095) := by
  obtain ⟨h0, ⟨d1, m1, e1⟩, ⟨d2, m2, e2⟩, ⟨d3, m3, e3⟩, ⟨d4, m4, e4⟩⟩ := hb
  have a1 := (hv.mem d1 m1).1; have a2 := (hv.mem d2 m2).1; have a3 := (hv.mem d3 m3).1; have a4 := (hv.mem d4 m4).1
  have := h0 d1 m1; have := h0 d2 m2; have := h0 d3 m3; have := h0 d4 m4
  omega
theorem psame_true (P N : Int) (ds : List Dt) (A A2 : Option Addr) (c c2 : Nat) (w : World) (hA : Dz w A ds) (hA2 : Dz w A2 ds) (hz : ds.length ≤ 9000000000000000000) :
    Calls Try.prog 25 #[.agg #[.int .i64 P, .int .i64 N, .slice A ds.length c], .agg #[.int .i64 P, .int .i64 N, .slice A2 ds.length c2]] w fun e w' => e = .returned (.bool true) ∧ Below w.heap.size w w' := by
  have h := rsame_any P N P N ds ds A A2 c c2 w hA hA2 hz hz
  rwa [decide_eq_true (show SameS P N P N ds ds from ⟨rfl, rfl, rfl⟩)] at h
theorem rints_true (L : List Nat) (A A2 : Option Addr) (c c2 : Nat) (w : World) (hA : Iz w A (L.map Int.ofNat)) (hA2 : Iz w A2 (L.map Int.ofNat)) (hz : L.length ≤ 9000000000000000000) :
    Calls Try.prog 30 #[.slice A L.length c, .slice A2 L.length c2] w fun e w' => e = .returned (.bool true) ∧ Below w.heap.size w w' := by
  have h := rints_same (L.map Int.ofNat) A A2 c c2 w hA hA2 (by rw [List.length_map]; exact hz)
  rwa [List.length_map] at h
/-- Thin of a valid stroke with a right tolerance. -/
theorem pthin_yes (P N : Int) (ds : List Dt) (A : Option Addr) (c : Nat) (z : Int) (w : World) (hA : Dz w A ds) (hz : ds.length ≤ 9000000000000000000) (hc : ds.length ≤ c) (hv : Vd P N ds) (ht : 0 ≤ z ∧ z ≤ 1000) :
    Calls Try.prog 28 #[.agg #[.int .i64 P, .int .i64 N, .slice A ds.length c], .int .i64 z] w fun e w' => ∃ (L : List Nat) (B : Option Addr) (k : Nat), e = .returned (.tuple #[.slice B L.length k, .int .i64 0]) ∧ IsThin (BetwP ds z) (ds.length - 1) L ∧ Iz w' B (L.map Int.ofNat) ∧ Below w.heap.size w w' :=
  (pthin_any P N ds A c z w hA hz hc).mono fun e w' h => by
    obtain ⟨h1 | h1, hb⟩ := h
    · obtain ⟨_, L, B, k, rfl, h2, h3, _⟩ := h1
      exact ⟨L, B, k, rfl, h2, h3, hb⟩
    · exact absurd ⟨hv, ht⟩ h1.1
theorem outT_yes {ok : Prop} {P N : Int} {es : List Dt} {w w' : World} {e : Ending} (h : OutT ok P N es w e w') (hok : ok) : ∃ A c, e = .returned (.tuple #[.agg #[.int .i64 P, .int .i64 N, .slice A es.length c], .int .i64 0]) ∧ Dz w' A es ∧ es.length ≤ c ∧ Below w.heap.size w w' := by
  obtain ⟨h1 | h1, hb⟩ := h
  · obtain ⟨_, A, c, rfl, h2, _, h3⟩ := h1
    exact ⟨A, c, rfl, h2, h3, hb⟩
  · exact absurd hok h1.1
theorem outT_no {ok : Prop} {P N : Int} {es : List Dt} {w w' : World} {e : Ending} (h : OutT ok P N es w e w') (hok : ¬ ok) : e = .returned (.tuple #[.agg #[.int .i64 0, .int .i64 0, .slice none 0 0], .int .i64 50]) ∧ Below w.heap.size w w' := by
  obtain ⟨h1 | h1, hb⟩ := h
  · exact absurd h1.1 hok
  · exact ⟨h1.2, hb⟩
theorem yes_of {f : FuncId} {args : Array Value} {w : World} {ok : Prop} {P N : Int} {es : List Dt} (h : Calls Try.prog f args w (OutT ok P N es w)) (hok : ok) : Calls Try.prog f args w fun e w' => ∃ A c, e = .returned (.tuple #[.agg #[.int .i64 P, .int .i64 N, .slice A es.length c], .int .i64 0]) ∧ Dz w' A es ∧ es.length ≤ c ∧ Below w.heap.size w w' := h.mono fun _ _ h2 => outT_yes h2 hok
theorem no_of {f : FuncId} {args : Array Value} {w : World} {ok : Prop} {P N : Int} {es : List Dt} (h : Calls Try.prog f args w (OutT ok P N es w)) (hok : ¬ ok) : Calls Try.prog f args w fun e w' => e = .returned (.tuple #[.agg #[.int .i64 0, .int .i64 0, .slice none 0 0], .int .i64 50]) ∧ Below w.heap.size w w' := h.mono fun _ _ h2 => outT_no h2 hok
end Go.Proofs.Ytamogfcedkjmcaa
