/- The contract of the reference's trimmed. Conditions: the digits read, and there are at most 10,000. -/
import Derived.Test.YtgpppjfgdbloiaaQDivd
namespace Go.Proofs.Ytgpppjfgdbloiaa
open Go.RowKit Go.Lib

/-- append of digits onto nothing. -/
theorem wpList_append_cp {w : World} {ops : Array Oper} {rest : List Oper} {o : Oper} {a : Act} {Q : Exit → Act → World → Prop} (hgd : o.guard = none) (s x : Operand) (t : TypeId)
    (ho : o.op = .call { callee := .builtin .append, args := #[s, x], argTypes := #[t, t] }) (ht : Try.prog.underlying t = some (.slice 3)) (A : Option Addr) (n c X g : Nat)
    (hs : a.eval s = .slice (some ⟨g, 0, none⟩) 0 0) (hx : a.eval x = .slice A n c) (hg : Blk w g 3 #[]) (hA : Dm w A n c X) (hn : n ≤ 10000)
    (h : ∀ A2 c2 w2, Dm w2 A2 n c2 X → Fr g A2 → w.grownBy w2 (some g) → wpList Try.prog ops Q rest (a.put o.dst (.slice A2 n c2)) w2) : wpList Try.prog ops Q (o :: rest) a w := by
  obtain ⟨i, hi, hz, hsz, hb⟩ := info_of info_i64
  have hown : w.ownsRow g 3 1 (.slice (some ⟨g, 0, none⟩) 0 0) 0 [] :=
    ⟨rfl, .inr ⟨g, 0, _, rfl, Nat.le_refl _, hg, Nat.le_refl _, by unfold maxLen; omega, rfl, rfl⟩⟩
  refine wpList_plain hgd fun K hK => ?_
  by_cases h0 : 0 < n
  · obtain ⟨b, off, rfl, hbl, hc⟩ := hA.2 h0
    obtain ⟨v', w', hr, h2, h3, h4⟩ := run_append_own (P := Try.prog) w g t o.type 3 i (.int .i64 0) 1 8 ht hi hz hsz hb rfl (by decide) _ 0 _ hown ⟨b, off, none⟩ n c ((digs X n).map iv) (by rw [List.length_map, digs_length, Nat.mul_one]) (by
        intro j v hj
        have hj2 : j < n := by
          have := (List.getElem?_eq_some_iff.1 hj).1
          rwa [List.length_map, digs_length] at this
        have e : (⟨b, off, none⟩ : Addr).add j = ⟨b, off + j, none⟩ := by unfold Addr.add; split <;> simp_all
        rw [e, hc j hj2]
        rw [List.getElem?_map, List.getElem?_eq_getElem (by rw [digs_length]; exact hj2)] at hj
        rw [Option.map_some, digs_at] at hj
        exact hj) (by
        intro v hv
        obtain ⟨x, _, rfl⟩ := List.mem_map.1 hv
        rfl) (by unfold maxLen; omega) (by omega) (Nat.le_of_lt (Blk.lt hg))
    have h5 : w'.ownsRow g 3 1 v' n ((digs X n).map iv) := by
      rw [Nat.zero_add, List.nil_append] at h2; exact h2
    obtain ⟨A2, c2, rfl, hD, hF⟩ := Dm.ownF h5
    unfold Oper.wp execOp
    simp only [ho, resolve, invoke, builtin, Sem.run_bind, Sem.run_pure, Result.andThen_ok, List.map_toArray, List.map_cons, List.map_nil, hs, hx, hr]
    exact hK _ _ (h _ _ _ hD hF h3)
  · obtain rfl : n = 0 := by omega
    have hr : (Builtin.append_ #[t, t] o.type #[.slice (some ⟨g, 0, none⟩) 0 0, .slice A 0 c]).run Try.prog w = .ok (.slice (some ⟨g, 0, none⟩) 0 0) w := by
      cases A with
      | none => simp [Builtin.append_, run_underlying ht, Builtin.lenOf, Builtin.firstCells, sizeOf, typeInfo, hi, storeCells, loadCells]
      | some a => simp [Builtin.append_, run_underlying ht, Builtin.lenOf, Builtin.firstCells, sizeOf, typeInfo, hi, storeCells, loadCells, loadCellsFrom]
    unfold Oper.wp execOp
    simp only [ho, resolve, invoke, builtin, Sem.run_bind, Sem.run_pure, Result.andThen_ok, List.map_toArray, List.map_cons, List.map_nil, hs, hx, hr]
    exact hK _ _ (h _ _ _ Dm.zero (fun b o e => by cases e; exact Nat.le_refl _) ⟨rfl, rfl, rfl, Nat.le_refl _, fun _ _ _ => rfl⟩)

set_option maxRecDepth 100000 in
theorem qtrimmed_any (A : Option Addr) (n c V : Nat) (w : World) (hA : Dm w A n c V) (hV : V < 10 ^ n) (hn : n ≤ 10000) :
    Calls Try.prog 58 #[.slice A n c] w (OutG V w) := by
  have HA := Lib.hid hA; have HV := Lib.hid hV
  clear hA hV
  go_enter Try.func58, Try.ntmps58
  go_wp2_with (at_builtin; refine wpList_append_cp rfl _ _ 44 rfl Try.underlying44 A n c V w.heap.size rfl rfl (Blk.new w _ _) (HA.out.below ((Below.refl _ _).alloc (Nat.le_refl _) _)) (by omega) ?_; intro A2 c2 w2 hD2 hF2 hgrow2; have hb2 := (((Below.refl w.heap.size w).alloc (Nat.le_refl _) _).grown hgrow2 (by simp) (fun k hk => by cases hk; exact Nat.le_refl _)); have HD2 := Lib.hid hD2; have HF2 := Lib.hid hF2; have HB2 := Lib.hid hb2; clear hD2 hF2 hgrow2 hb2)
  refine (reftrim_any A2 n c2 V w2 HD2.out HV.out (by omega)).mono ?_
  rintro e w3 ⟨rfl, rfl⟩
  go_wp2_with fail
  go_ret
  exact ⟨A2, c2, rfl, HD2.out.less (dl_le.2 HV.out), HF2.out, HB2.out⟩
end Go.Proofs.Ytgpppjfgdbloiaa
