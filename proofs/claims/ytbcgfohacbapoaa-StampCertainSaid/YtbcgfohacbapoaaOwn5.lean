
/- Dots of the call's own: appending one. No conditions. -/
import Derived.Test.YtbcgfohacbapoaaDt5
import Derived.Test.YtbcgfohacbapoaaAlc
import Derived.Laws.AppendOwn
namespace Go.Proofs.Ytbcgfohacbapoaa
open Go.RowKit Go.Lib

/-- A dot's cells. -/
def dcs (d : Dt) : List Value := [.int .i64 d.x, .int .i64 d.y, .int .i64 d.t, .int .i64 d.p]
def flat (ds : List Dt) : List Value := ds.flatMap dcs
theorem flat_snoc (ds : List Dt) (d : Dt) : flat (ds ++ [d]) = flat ds ++ dcs d := by simp [flat]
theorem flat_length (ds : List Dt) : (flat ds).length = ds.length * 4 := by
  induction ds with
  | nil => rfl
  | cons d r ih => simp only [flat, List.flatMap_cons, List.length_append, List.length_cons] at ih ⊢; rw [ih]; simp [dcs]; omega
theorem flat_at : ∀ (ds : List Dt) (i k : Nat) (h : i < ds.length), k < 4 → (flat ds)[i * 4 + k]? = (dcs ds[i])[k]?
  | d :: r, 0, k, _, hk => by
    show (dcs d ++ flat r)[0 * 4 + k]? = _
    rw [Nat.zero_mul, Nat.zero_add, List.getElem?_append_left (by simpa [dcs] using hk)]; rfl
  | d :: r, i + 1, k, h, hk => by
    show (dcs d ++ flat r)[(i + 1) * 4 + k]? = _
    rw [List.getElem?_append_right (by simp [dcs]; omega), show (i + 1) * 4 + k - (dcs d).length = i * 4 + k from by simp [dcs]; omega, flat_at r i k (by simpa using h) hk]; rfl
theorem info_dot : (Try.prog.info? 24).map (fun i => (i.zero, i.size, i.bytes)) = some (some (.agg #[.int .i64 0, .int .i64 0, .int .i64 0, .int .i64 0]), 4, 32) := by kernel_rfl
/-- What the call owns reads as dots. -/
theorem Dz.of_own {W : World} {B n : Nat} {v : Value} {ds : List Dt} (h : W.ownsRow B 24 4 v n (flat ds)) : n = ds.length ∧ ∃ A c, v = .slice A ds.length c ∧ Dz W A ds := by
  have hn : n = ds.length := by have := h.1; rw [flat_length] at this; omega
  subst hn
  refine ⟨rfl, ?_⟩
  rcases h.2 with ⟨rfl, h0⟩ | ⟨g, cap, cur, rfl, hB, hg, hc1, hc2, hs, ht⟩
  · exact ⟨none, 0, by rw [h0], fun hh => absurd hh (by omega)⟩
  · refine ⟨_, _, rfl, fun _ => ⟨g, 0, rfl, (Array.getElem?_eq_some_iff.1 hg).1, fun i hi => ?_⟩⟩
    have key : ∀ k v, k < 4 → (dcs ds[i])[k]? = some v → W.cell? ⟨g, 0 + i * 4 + k, none⟩ = some v := fun k v hk hv => by
      have h1 := flat_at ds i k hi hk
      rw [hv, ← ht, List.getElem?_take_of_lt (by omega)] at h1
      have h2 : cur[0 + i * 4 + k]? = some v := by rw [Nat.zero_add]; simpa using h1
      exact Blk.cell (show Blk W g 24 cur from hg) h2
    exact ⟨key 0 _ (by omega) rfl, key 1 _ (by omega) rfl, key 2 _ (by omega) rfl, key 3 _ (by omega) rfl⟩
theorem own_pos {W : World} {B e s n : Nat} {v : Value} {xs : List Value} (h : W.ownsRow B e s v (n + 1) xs) : ∃ g c, v = .slice (some ⟨g, 0, none⟩) (n + 1) c ∧ B ≤ g := by
  rcases h.2 with ⟨_, h0⟩ | ⟨g, cap, cur, h1, h2, _⟩
  · omega
  · exact ⟨g, cap, h1, h2⟩
theorem own_far {W : World} {B e s n : Nat} {v : Value} {xs : List Value} (h : W.ownsRow B e s v n xs) {p : Addr} (hp : v.ownBlock ≠ some p.block) (u : Value) : (W.setCell p u).ownsRow B e s v n xs := by
  refine ⟨h.1, ?_⟩
  rcases h.2 with h0 | ⟨g, cap, cur, rfl, h1, h2, h3⟩
  · exact Or.inl h0
  · exact Or.inr ⟨g, cap, cur, rfl, h1, (Below.heap_setCell W p u g (fun e => hp (by rw [← e]; rfl))).trans h2, h3⟩
theorem own_base_le {W : World} {B B2 e s n : Nat} {v : Value} {xs : List Value} (h : W.ownsRow B e s v n xs) (hb : B2 ≤ B) : W.ownsRow B2 e s v n xs := by
  refine ⟨h.1, ?_⟩
  rcases h.2 with h0 | ⟨g, cap, cur, rfl, h1, h3⟩
  · exact Or.inl h0
  · exact Or.inr ⟨g, cap, cur, rfl, by omega, h3⟩
theorem own_ne {W : World} {B e s n k : Nat} {v : Value} {xs : List Value} (h : W.ownsRow B e s v n xs) (hk : k < B) : v.ownBlock ≠ some k := by
  rcases h.2 with ⟨rfl, _⟩ | ⟨g, cap, cur, rfl, h1, _⟩
  · simp [Value.ownBlock]
  · simp only [Value.ownBlock, ne_eq, Option.some.injEq]; omega
theorem own_below {W W2 : World} {B e s n : Nat} {v : Value} {xs : List Value} (h : W.ownsRow B e s v n xs) (hb : Below W.heap.size W W2) : W2.ownsRow B e s v n xs := by
  refine ⟨h.1, ?_⟩
  rcases h.2 with h0 | ⟨g, cap, cur, rfl, h1, h2, h3⟩
  · exact Or.inl h0
  · exact Or.inr ⟨g, cap, cur, rfl, h1, (hb.block g (Array.getElem?_eq_some_iff.1 h2).1).trans h2, h3⟩
theorem own_base {w : World} {base e size n : Nat} {v : Value} {xs : List Value} (h : w.ownsRow base e size v n xs) (k : Nat) (hk : v.ownBlock = some k) : base ≤ k := (h.lt k hk).1
theorem own_none (W : World) (B : Nat) : W.ownsRow B 24 4 (.slice none 0 0) 0 (flat []) := ⟨rfl, Or.inl ⟨rfl, rfl⟩⟩
theorem wpList_append_dot {w : World} {ops : Array Oper} {rest : List Oper} {o : Oper} {a : Act} {Q : Exit → Act → World → Prop} (hgd : o.guard = none) (s x : Operand)
    (ho : o.op = .call { callee := .builtin .append, args := #[s, x], argTypes := #[25, 25] }) (base : Nat) (v : Value) (n : Nat) (ds : List Dt) (hs : a.eval s = v) (hown : w.ownsRow base 24 4 v n (flat ds))
    (g : Nat) (d : Dt) (hx : a.eval x = .slice (some ⟨g, 0, none⟩) 1 1) (hg : Blk w g 24 (dcs d).toArray) (hn : n ≤ 1000000) (hbase : base ≤ w.heap.size)
    (h : ∀ v' w', w'.ownsRow base 24 4 v' (n + 1) (flat (ds ++ [d])) → w.grownBy w' v.ownBlock → wpList Try.prog ops Q rest (a.put o.dst v') w') : wpList Try.prog ops Q (o :: rest) a w := by
  obtain ⟨i, hi, hz, hsz, hb⟩ := info_of info_dot
  refine wpList_append_own w hgd s x 25 ho base 24 i _ 4 32 Try.underlying25 hi hz hsz hb rfl (by decide) v n _ hs hown ⟨g, 0, none⟩ 1 1 (dcs d) hx rfl (fun j u hj => ?_) (fun u hu => ?_) (by unfold maxLen; omega) (by omega) hbase fun v' w' h1 h2 _ => h v' w' (by rw [flat_snoc]; exact h1) h2
  · have e : (⟨g, 0, none⟩ : Addr).add j = ⟨g, j, none⟩ := by unfold Addr.add; split <;> simp_all
    rw [e]; exact hg.cell (by simpa using hj)
  · simp only [dcs, List.mem_cons, List.not_mem_nil, or_false] at hu
    rcases hu with rfl | rfl | rfl | rfl <;> rfl
theorem wp_append_dot {w : World} {o : Oper} {a : Act} {K : Act → World → Prop} {Q : Exit → Act → World → Prop} (s x : Operand)
    (ho : o.op = .call { callee := .builtin .append, args := #[s, x], argTypes := #[25, 25] }) (base : Nat) (v : Value) (n : Nat) (ds : List Dt) (hs : a.eval s = v) (hown : w.ownsRow base 24 4 v n (flat ds))
    (g : Nat) (d : Dt) (hx : a.eval x = .slice (some ⟨g, 0, none⟩) 1 1) (hg : Blk w g 24 (dcs d).toArray) (hn : n ≤ 1000000) (hbase : base ≤ w.heap.size)
    (h : ∀ v' w', w'.ownsRow base 24 4 v' (n + 1) (flat (ds ++ [d])) → w.grownBy w' v.ownBlock → K (a.put o.dst v') w') : Oper.wp Try.prog o a w K Q := by
  obtain ⟨i, hi, hz, hsz, hb⟩ := info_of info_dot
  refine wp_append_own w s x 25 ho base 24 i _ 4 32 Try.underlying25 hi hz hsz hb rfl (by decide) v n _ hs hown ⟨g, 0, none⟩ 1 1 (dcs d) hx rfl (fun j u hj => ?_) (fun u hu => ?_) (by unfold maxLen; omega) (by omega) hbase fun v' w' h1 h2 _ => h v' w' (by rw [flat_snoc]; exact h1) h2
  · have e : (⟨g, 0, none⟩ : Addr).add j = ⟨g, j, none⟩ := by unfold Addr.add; split <;> simp_all
    rw [e]; exact hg.cell (by simpa using hj)
  · simp only [dcs, List.mem_cons, List.not_mem_nil, or_false] at hu
    rcases hu with rfl | rfl | rfl | rfl <;> rfl
end Go.Proofs.Ytbcgfohacbapoaa
