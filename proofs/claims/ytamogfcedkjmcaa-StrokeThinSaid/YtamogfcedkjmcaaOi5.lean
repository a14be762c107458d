
/- Numbers of the call's own: appending one. No conditions. -/
import Derived.Test.YtamogfcedkjmcaaOwn5
import Derived.Test.YtamogfcedkjmcaaIn5
namespace Go.Proofs.Ytamogfcedkjmcaa
open Go.RowKit Go.Lib

def nv (k : Nat) : Value := .int .i64 (k : Nat)
theorem info_int : (Try.prog.info? 3).map (fun i => (i.zero, i.size, i.bytes)) = some (some (.int .i64 0), 1, 8) := by kernel_rfl
/-- What the call owns reads as numbers. -/
theorem Iz.of_own {W : World} {B n : Nat} {v : Value} {M : List Nat} (h : W.ownsRow B 3 1 v n (M.map nv)) : n = M.length ∧ ∃ A c, v = .slice A M.length c ∧ Iz W A (M.map Int.ofNat) := by
  have hn : n = M.length := by have := h.1; rw [List.length_map] at this; omega
  subst hn
  refine ⟨rfl, ?_⟩
  rcases h.2 with ⟨rfl, h0⟩ | ⟨g, cap, cur, rfl, hB, hg, hc1, hc2, hs, ht⟩
  · exact ⟨none, 0, by rw [h0], fun hh => absurd hh (by rw [List.length_map]; omega)⟩
  · refine ⟨_, _, rfl, fun _ => ⟨g, 0, rfl, (Array.getElem?_eq_some_iff.1 hg).1, fun i hi => ?_⟩⟩
    have hi2 : i < M.length := by simpa using hi
    have h1 : (M.map nv)[i]? = some (nv M[i]) := by rw [List.getElem?_map, List.getElem?_eq_getElem hi2]; rfl
    rw [← ht, List.getElem?_take_of_lt (by omega)] at h1
    have h2 : cur[0 + i]? = some (nv M[i]) := by rw [Nat.zero_add]; simpa using h1
    rw [Blk.cell (show Blk W g 3 cur from hg) h2]
    simp [nv]
theorem owni_none (W : World) (B : Nat) : W.ownsRow B 3 1 (.slice none 0 0) 0 (([] : List Nat).map nv) := ⟨rfl, Or.inl ⟨rfl, rfl⟩⟩
theorem wpList_append_nat {w : World} {ops : Array Oper} {rest : List Oper} {o : Oper} {a : Act} {Q : Exit → Act → World → Prop} (hgd : o.guard = none) (s x : Operand)
    (ho : o.op = .call { callee := .builtin .append, args := #[s, x], argTypes := #[32, 32] }) (base : Nat) (v : Value) (n : Nat) (M : List Nat) (hs : a.eval s = v) (hown : w.ownsRow base 3 1 v n (M.map nv))
    (g : Nat) (d : Nat) (hx : a.eval x = .slice (some ⟨g, 0, none⟩) 1 1) (hg : Blk w g 3 #[.int .i64 (d : Nat)]) (hn : n ≤ 1000000) (hbase : base ≤ w.heap.size)
    (h : ∀ v' w', w'.ownsRow base 3 1 v' (n + 1) ((M ++ [d]).map nv) → w.grownBy w' v.ownBlock → wpList Try.prog ops Q rest (a.put o.dst v') w') : wpList Try.prog ops Q (o :: rest) a w := by
  obtain ⟨i, hi, hz, hsz, hb⟩ := info_of info_int
  refine wpList_append_own w hgd s x 32 ho base 3 i _ 1 8 Try.underlying32 hi hz hsz hb rfl (by decide) v n _ hs hown ⟨g, 0, none⟩ 1 1 [nv d] hx rfl (fun j u hj => ?_) (fun u hu => ?_) (by unfold maxLen; omega) (by omega) hbase fun v' w' h1 h2 _ => h v' w' (by rw [List.map_append]; exact h1) h2
  · have e : (⟨g, 0, none⟩ : Addr).add j = ⟨g, j, none⟩ := by unfold Addr.add; split <;> simp_all
    rw [e]; exact hg.cell (by simpa [nv] using hj)
  · simp only [List.mem_cons, List.not_mem_nil, or_false] at hu
    rcases hu with rfl
    rfl
end Go.Proofs.Ytamogfcedkjmcaa
