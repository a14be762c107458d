
/- Slices of the call's own, of stamps, skews or meetings: appending one, appending all of another. No conditions. -/
import Derived.Test.YtbcgfohacbapoaaFl6
import Derived.Laws.AppendOwn
import Derived.Laws.AppendOwnNone
namespace Go.Proofs.Ytbcgfohacbapoaa
open Go.RowKit Go.Lib

/-- What a law on append asks of an element's type. -/
structure Ap {α : Type} (cs : α → List Value) (k : Nat) (T TS : TypeId) : Prop where
  info : ∃ (i : TypeInfo) (z : Value) (b : Nat), Try.prog.info? T = some i ∧ i.zero = some z ∧ i.size = k ∧ i.bytes = b ∧ b ≤ 100 ∧ z.cells.size = k
  und : Try.prog.underlying TS = some (.slice T)
  pos : 0 < k
  len : ∀ x, (cs x).length = k
  one : ∀ x, ∀ u ∈ cs x, u.oneCell' = true
theorem apM : Ap smc 3 64 65 := ⟨by
  obtain ⟨i, h1, h2, h3, h4⟩ := info_of (show (Try.prog.info? 64).map (fun i => (i.zero, i.size, i.bytes)) = some (some (.agg #[.int .i64 0, .int .i64 0, .int .i64 0]), 3, 24) from by kernel_rfl)
  exact ⟨i, _, _, h1, h2, h3, h4, by omega, rfl⟩, Try.underlying65, by omega, fun _ => rfl, fun x u hu => by simp [smc] at hu; rcases hu with rfl | rfl | rfl <;> rfl⟩
theorem apK : Ap skc 3 77 80 := ⟨by
  obtain ⟨i, h1, h2, h3, h4⟩ := info_of info_skew
  exact ⟨i, _, _, h1, h2, h3, h4, by omega, rfl⟩, Try.underlying80, by omega, fun _ => rfl, fun x u hu => by simp [skc] at hu; rcases hu with rfl | rfl | rfl <;> rfl⟩
theorem apT : Ap mtc 4 79 82 := ⟨by
  obtain ⟨i, h1, h2, h3, h4⟩ := info_of (show (Try.prog.info? 79).map (fun i => (i.zero, i.size, i.bytes)) = some (some (.agg #[.int .i64 0, .int .i64 0, .int .i64 0, .int .i64 0]), 4, 32) from by kernel_rfl)
  exact ⟨i, _, _, h1, h2, h3, h4, by omega, rfl⟩, Try.underlying82, by omega, fun _ => rfl, fun x u hu => by simp [mtc] at hu; rcases hu with rfl | rfl | rfl | rfl <;> rfl⟩
/-- The call's own slice holds l. -/
def OwnL {α : Type} (cs : α → List Value) (k : Nat) (T : TypeId) (W : World) (B : Nat) (v : Value) (l : List α) : Prop := W.ownsRow B T k v l.length (l.flatMap cs)
section
variable {α : Type} {cs : α → List Value} {k : Nat} {T TS : TypeId} {W W' : World} {B : Nat} {v : Value} {l : List α}
theorem OwnL.nil (W : World) (B : Nat) : OwnL cs k T W B (.slice none 0 0) ([] : List α) := World.ownsRow_nil W B T k
theorem OwnL.below (h : OwnL cs k T W B v l) (hb : Below W.heap.size W W') : OwnL cs k T W' B v l := own_below h hb
theorem OwnL.base {B2 : Nat} (h : OwnL cs k T W B v l) (hb : B2 ≤ B) : OwnL cs k T W B2 v l := own_base_le h hb
theorem OwnL.far (h : OwnL cs k T W B v l) {p : Addr} (hp : p.block < B) (u : Value) : OwnL cs k T (W.setCell p u) B v l := own_far h (own_ne h hp) u
theorem OwnL.block (h : OwnL cs k T W B v l) {g : Nat} (e : v.ownBlock = some g) : B ≤ g := own_base h g e
theorem OwnL.drew (h : OwnL cs k T W B v l) : OwnL cs k T W.drew B v l := h
/-- As a slice value, with what lies there. -/
theorem OwnL.read (ap : Ap cs k T TS) (h : OwnL cs k T W B v l) : ∃ A c, v = .slice A l.length c ∧ Rz cs k W A l ∧ l.length ≤ c ∧ (A = none → c = 0) ∧ c ≤ maxLen := by
  obtain ⟨_, A, c, rfl, hz⟩ := Rz.of_own ap.len h ap.pos
  refine ⟨A, c, rfl, hz, ?_⟩
  rcases h.2 with ⟨h1, h0⟩ | ⟨g, cap, cur, h1, _, _, h2, h3, _⟩
  · simp only [Value.slice.injEq] at h1
    obtain ⟨rfl, h2, rfl⟩ := h1
    exact ⟨by omega, fun _ => rfl, by unfold maxLen; omega⟩
  · simp only [Value.slice.injEq] at h1
    obtain ⟨rfl, h4, rfl⟩ := h1
    exact ⟨h2, (fun h => by cases h), h3⟩
theorem wp_append_one (ap : Ap cs k T TS) {w : World} {o : Oper} {a : Act} {K : Act → World → Prop} {Q : Exit → Act → World → Prop} (s x : Operand)
    (ho : o.op = .call { callee := .builtin .append, args := #[s, x], argTypes := #[TS, TS] }) (B : Nat) (v : Value) (l : List α) (hs : a.eval s = v) (hown : OwnL cs k T w B v l)
    (g : Nat) (d : α) (hx : a.eval x = .slice (some ⟨g, 0, none⟩) 1 1) (hg : Blk w g T (cs d).toArray) (hn : l.length ≤ 1000000) (hbase : B ≤ w.heap.size)
    (h : ∀ v' w', OwnL cs k T w' B v' (l ++ [d]) → w.grownBy w' v.ownBlock → K (a.put o.dst v') w') : Oper.wp Try.prog o a w K Q := by
  obtain ⟨i, z, b, hi, hz, hsz, hb, hb1, hzc⟩ := ap.info
  refine wp_append_own w s x TS ho B T i z k b ap.und hi hz hsz hb hzc ap.pos v l.length _ hs hown ⟨g, 0, none⟩ 1 1 (cs d) hx (by rw [ap.len]; omega) (fun j u hj => ?_) (ap.one d) (by unfold maxLen; omega) (Nat.le_trans (Nat.mul_le_mul_left _ hb1) (by omega)) hbase fun v' w' h1 h2 _ => h v' w' (by
    unfold OwnL
    rw [List.length_append, List.flatMap_append]; simpa using h1) h2
  have e : (⟨g, 0, none⟩ : Addr).add j = ⟨g, j, none⟩ := by unfold Addr.add; split <;> simp_all
  rw [e]; exact hg.cell (by simpa using hj)
theorem wpList_append_one (ap : Ap cs k T TS) {w : World} {ops : Array Oper} {rest : List Oper} {o : Oper} {a : Act} {Q : Exit → Act → World → Prop} (hgd : o.guard = none) (s x : Operand)
    (ho : o.op = .call { callee := .builtin .append, args := #[s, x], argTypes := #[TS, TS] }) (B : Nat) (v : Value) (l : List α) (hs : a.eval s = v) (hown : OwnL cs k T w B v l)
    (g : Nat) (d : α) (hx : a.eval x = .slice (some ⟨g, 0, none⟩) 1 1) (hg : Blk w g T (cs d).toArray) (hn : l.length ≤ 1000000) (hbase : B ≤ w.heap.size)
    (h : ∀ v' w', OwnL cs k T w' B v' (l ++ [d]) → w.grownBy w' v.ownBlock → wpList Try.prog ops Q rest (a.put o.dst v') w') : wpList Try.prog ops Q (o :: rest) a w :=
  wpList_plain hgd fun _ hK => wp_append_one ap s x ho B v l hs hown g d hx hg hn hbase fun v' w' h2 h3 => hK _ _ (h v' w' h2 h3)
/-- append(s, x...). -/
theorem wpList_append_all (ap : Ap cs k T TS) {w : World} {ops : Array Oper} {rest : List Oper} {o : Oper} {a : Act} {Q : Exit → Act → World → Prop} (hgd : o.guard = none) (s x : Operand)
    (ho : o.op = .call { callee := .builtin .append, args := #[s, x], argTypes := #[TS, TS] }) (B : Nat) (v : Value) (l : List α) (hs : a.eval s = v) (hown : OwnL cs k T w B v l)
    (A : Option Addr) (c : Nat) (m : List α) (hx : a.eval x = .slice A m.length c) (hm : Rz cs k w A m) (hA : A = none → c = 0) (hn : l.length + m.length ≤ 1000000) (hbase : B ≤ w.heap.size)
    (h : ∀ v' w', OwnL cs k T w' B v' (l ++ m) → w.grownBy w' v.ownBlock → wpList Try.prog ops Q rest (a.put o.dst v') w') : wpList Try.prog ops Q (o :: rest) a w := by
  obtain ⟨i, z, b, hi, hz, hsz, hb, hb1, hzc⟩ := ap.info
  cases A with
  | none =>
    have hm0 : m = [] := by
      cases m with
      | nil => rfl
      | cons y r => obtain ⟨b', o', e, _⟩ := hm (by simp); cases e
    subst hm0
    have hc := hA rfl
    subst hc
    refine wpList_append_own_none hgd s x TS ho B T i k ap.und hi v l.length _ hs hown hx ?_
    exact h v w (by rw [List.append_nil]; exact hown) ⟨rfl, rfl, rfl, Nat.le_refl _, fun _ _ _ => rfl⟩
  | some ad =>
    have hlen : ∀ l : List α, (l.flatMap cs).length = l.length * k := fun l => by
      induction l with
      | nil => simp
      | cons x r ih => simp only [List.flatMap_cons, List.length_append, List.length_cons, ap.len, ih]; rw [Nat.add_mul]; omega
    refine wpList_append_own w hgd s x TS ho B T i z k b ap.und hi hz hsz hb hzc ap.pos v l.length _ hs hown ad m.length c (m.flatMap cs) hx (hlen m) (fun j u hj => ?_) (fun u hu => ?_) (by unfold maxLen; omega) (Nat.le_trans (Nat.mul_le_mul_left _ hb1) (by omega)) hbase fun v' w' h1 h2 _ => h v' w' (by
      unfold OwnL
      rw [List.length_append, List.flatMap_append]; exact h1) h2
    · have hj2 : j < m.length * k := by rw [← hlen]; exact (List.getElem?_eq_some_iff.1 hj).1
      have hm1 : 0 < m.length := by
        rcases Nat.eq_zero_or_pos m.length with h0 | h0
        · rw [h0] at hj2; omega
        · exact h0
      obtain ⟨b', o', e, _, hc⟩ := hm hm1
      cases e
      have hq : j / k < m.length := (Nat.div_lt_iff_lt_mul ap.pos).2 hj2
      have hr : j % k < k := Nat.mod_lt _ ap.pos
      have hdm : j / k * k + j % k = j := by rw [Nat.mul_comm]; exact Nat.div_add_mod j k
      have key : ∀ (m : List α) (q r : Nat) (hq : q < m.length), r < k → (m.flatMap cs)[q * k + r]? = (cs m[q])[r]? := by
        intro m
        induction m with
        | nil => intro q r hq; simp at hq
        | cons x t ih =>
          intro q r hq hr
          cases q with
          | zero => rw [List.flatMap_cons, List.getElem?_append_left (by rw [ap.len]; omega)]; simp
          | succ q =>
            rw [List.flatMap_cons, List.getElem?_append_right (by rw [ap.len, Nat.add_mul]; omega), show (q + 1) * k + r - (cs x).length = q * k + r from by rw [ap.len, Nat.add_mul]; omega]
            exact ih q r (by simpa using hq) hr
      have h2 := key m (j / k) (j % k) hq hr
      rw [hdm, hj] at h2
      have h3 := hc (j / k) hq (j % k) u h2.symm
      have e : (⟨b', o', none⟩ : Addr).add j = ⟨b', o' + j, none⟩ := by unfold Addr.add; split <;> simp_all
      rw [e]
      rwa [show o' + j / k * k + j % k = o' + j from by omega] at h3
    · obtain ⟨y, hy, hu⟩ := List.mem_flatMap.1 hu
      exact ap.one y u hu
end
end Go.Proofs.Ytbcgfohacbapoaa
