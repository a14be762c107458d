/- Slices of structs in memory; slices of the call's own: appending one, appending all of another. No conditions. | The contracts of plane's small functions. Conditions: sizes that do not overflow. | A region whose rest holds more of the world: the held condition may grow on the way. Slices of places. No conditions. | The contracts of plane's ValidRect, areValid, isList, Side, Touch, Inside. Conditions: slices read. | The contract of plane's Side. No conditions. | The contracts of plane's Touch and Inside. No conditions. | The contracts of plane's around and Around. Conditions: the slice read, small coordinates. -/
import Derived.Laws.AppendOwn
import Derived.Laws.AppendOwnNone
import Derived.Shelf.Abstract
import Derived.Deep.CutRange
import Derived.Test.YtpjbihfkedbenaaGreatGA
import Derived.Test.YtpjbihfkedbenaaGreatHB
import Derived.Test.YtpjbihfkedbenaaGreatHA
namespace Go.Proofs.YtpjbihfkedbenaaGreat
open Go.RowKit Go.Lib
theorem un_none : yielded.match_1 (motive := fun _ => Option Bool) (some undef) (fun b => some b) (fun _ => none) = none := rfl
theorem own_pos {W : World} {B e s n : Nat} {v : Value} {xs : List Value} (h : W.ownsRow B e s v (n + 1) xs) : ∃ g c, v = .slice (some ⟨g, 0, none⟩) (n + 1) c /\ B <= g := by
 rcases h.2 with ⟨_, h0⟩ | ⟨g, cap, cur, h1, h2, _⟩
 · omega
 · exact ⟨g, cap, h1, h2⟩
theorem own_far {W : World} {B e s n : Nat} {v : Value} {xs : List Value} (h : W.ownsRow B e s v n xs) {p : Addr} (hp : v.ownBlock ≠ some p.block) (u : Value) : (W.setCell p u).ownsRow B e s v n xs := by
 refine ⟨h.1, ?_⟩
 rcases h.2 with h0 | ⟨g, cap, cur, rfl, h1, h2, h3⟩
 · exact Or.inl h0
 · exact Or.inr ⟨g, cap, cur, rfl, h1, (Below.heap_setCell W p u g (fun e => hp (by rw [<- e]; rfl))).trans h2, h3⟩
theorem own_base_le {W : World} {B B2 e s n : Nat} {v : Value} {xs : List Value} (h : W.ownsRow B e s v n xs) (hb : B2 <= B) : W.ownsRow B2 e s v n xs := by
 refine ⟨h.1, ?_⟩
 rcases h.2 with h0 | ⟨g, cap, cur, rfl, h1, h3⟩
 · exact Or.inl h0
 · exact Or.inr ⟨g, cap, cur, rfl, by omega, h3⟩
theorem own_ne {W : World} {B e s n k : Nat} {v : Value} {xs : List Value} (h : W.ownsRow B e s v n xs) (hk : k < B) : v.ownBlock ≠ some k := by
 rcases h.2 with ⟨rfl, _⟩ | ⟨g, cap, cur, rfl, h1, _⟩
 · simp [Value.ownBlock]
 · simp only [Value.ownBlock, ne_eq, Option.some.injEq]; omega
theorem own_below {W W2 : World} {B e s n : Nat} {v : Value} {xs : List Value} (h : W.ownsRow B e s v n xs) (hb : Below W.heap.size W W2) : W2.ownsRow B e s v n xs := by
 refine ⟨h.1, ?_⟩
 rcases h.2 with h0 | ⟨g, cap, cur, rfl, h1, h2, h3⟩
 · exact Or.inl h0
 · exact Or.inr ⟨g, cap, cur, rfl, h1, (hb.block g (Array.getElem?_eq_some_iff.1 h2).1).trans h2, h3⟩
theorem own7_base {w : World} {base e size n : Nat} {v : Value} {xs : List Value} (h : w.ownsRow base e size v n xs) (k : Nat) (hk : v.ownBlock = some k) : base <= k := (h.lt k hk).1
def Rz {α : Type} (cs : α -> List Value) (k : Nat) (w : World) (A : Option Addr) (l : List α) : Prop :=
 0 < l.length -> ∃ b o, A = some ⟨b, o, none⟩ /\ b < w.heap.size /\ ∀ i (h : i < l.length) j v, (cs l[i])[j]? = some v -> w.cell? ⟨b, o + i * k + j, none⟩ = some v
section
variable {α : Type} {cs : α -> List Value} {k : Nat} {w w' : World} {A : Option Addr} {l : List α}
theorem Rz.below {B : Nat} (h : Rz cs k w A l) (hb : Below B w w') (hB : w.heap.size <= B) : Rz cs k w' A l := fun hn => by
 obtain ⟨b, o, e, hl, hc⟩ := h hn
 have hl2 : b < B := Nat.lt_of_lt_of_le hl hB
 exact ⟨b, o, e, Nat.lt_of_lt_of_le hl hb.size, fun i hi j v hv => (hb.cell (p := ⟨b, _, none⟩) hl2).trans (hc i hi j v hv)⟩
theorem Rz.nil (w : World) (A : Option Addr) : Rz cs k w A ([] : List α) := fun h => absurd h (by simp)
theorem Rz.some (h : Rz cs k w A l) (hn : 0 < l.length) : ∃ b o, A = some ⟨b, o, none⟩ := by obtain ⟨b, o, e, _⟩ := h hn; exact ⟨b, o, e⟩
theorem Rz.here {b o : Nat} (h : Rz cs k w (Option.some ⟨b, o, none⟩) l) {i : Nat} (hi : i < l.length) : b < w.heap.size := by
 obtain ⟨b', o', e, hl, _⟩ := h (by omega); cases e; exact hl
theorem Rz.at {b o : Nat} (h : Rz cs k w (Option.some ⟨b, o, none⟩) l) {i : Nat} (hi : i < l.length) {j : Nat} {v : Value} (hv : (cs l[i])[j]? = Option.some v) : w.cell? ⟨b, o + i * k + j, none⟩ = Option.some v := by
 obtain ⟨b', o', e, _, hc⟩ := h (by omega); cases e; exact hc i hi j v hv
theorem Rz.cells {W : World} {B : Nat} {b o : Nat} (h : Rz cs k w (Option.some ⟨b, o, none⟩) l) (hb : Below B w W) (hB : w.heap.size <= B) {i : Nat} (hi : i < l.length) {j : Nat} {v : Value} (hv : (cs l[i])[j]? = Option.some v) : W.cell? ⟨b, o + i * k + j, none⟩ = Option.some v :=
 (h.below hb hB).at hi hv
theorem Rz.drop {b o : Nat} (h : Rz cs k w (Option.some ⟨b, o, none⟩) l) (n : Nat) : Rz cs k w (Option.some ⟨b, o + n * k, none⟩) (l.drop n) := fun hn => by
 simp only [List.length_drop] at hn
 refine ⟨b, o + n * k, rfl, h.here (i := n) (by omega), fun i hi j v hv => ?_⟩
 simp only [List.length_drop] at hi
 rw [List.getElem_drop] at hv
 have := h.at (i := n + i) (by omega) hv
 rwa [show o + (n + i) * k + j = o + n * k + i * k + j from by rw [Nat.add_mul]; omega] at this
theorem Rz.take (h : Rz cs k w A l) (n : Nat) : Rz cs k w A (l.take n) := fun hn => by
 simp only [List.length_take] at hn
 obtain ⟨b, o, e, hl, hc⟩ := h (by omega)
 refine ⟨b, o, e, hl, fun i hi j v hv => ?_⟩
 simp only [List.length_take] at hi
 rw [List.getElem_take] at hv
 exact hc i (by omega) j v hv
end
theorem Rz.of_own {α : Type} {cs : α -> List Value} {k : Nat} (hk : ∀ x, (cs x).length = k) {W : World} {B n : Nat} {e : TypeId} {v : Value} {l : List α} (h : W.ownsRow B e k v n (l.flatMap cs)) (h0 : 0 < k) : n = l.length /\ ∃ A c, v = .slice A l.length c /\ Rz cs k W A l := by
 have hlen : (l.flatMap cs).length = l.length * k := by
   clear h
   induction l with
   | nil => simp
   | cons x r ih => simp only [List.flatMap_cons, List.length_append, List.length_cons, hk, ih]; rw [Nat.add_mul]; omega
 have hn : n = l.length := by
   have := h.1; rw [hlen] at this
   exact (Nat.eq_of_mul_eq_mul_right h0 this).symm
 subst hn
 refine ⟨rfl, ?_⟩
 rcases h.2 with ⟨rfl, h0⟩ | ⟨g, cap, cur, rfl, hB, hg, hc1, hc2, hs, ht⟩
 · exact ⟨none, 0, by rw [h0], fun hh => absurd hh (by omega)⟩
 · refine ⟨_, _, rfl, fun _ => ⟨g, 0, rfl, (Array.getElem?_eq_some_iff.1 hg).1, fun i hi j v hv => ?_⟩⟩
   have hjk : j < k := by rw [<- hk l[i]]; exact (List.getElem?_eq_some_iff.1 hv).1
   have key : (l.flatMap cs)[i * k + j]? = Option.some v := by
     clear h ht hg hB hc1 hc2 hs hlen
     induction l generalizing i with
     | nil => simp at hi
     | cons x r ih =>
       cases i with
       | zero =>
         rw [List.flatMap_cons, List.getElem?_append_left (by rw [hk]; omega)]
         simpa using hv
       | succ i =>
         rw [List.flatMap_cons, List.getElem?_append_right (by rw [hk, Nat.add_mul]; omega), show (i + 1) * k + j - (cs x).length = i * k + j from by rw [hk, Nat.add_mul]; omega]
         exact ih (by simp only [List.length_cons] at hi; omega) i (by simpa using hi) (by simpa using hv)
   have h3 : cur[0 + i * k + j]? = Option.some v := by
     have hlt : i * k + j < l.length * k := by
       have : (i + 1) * k <= l.length * k := Nat.mul_le_mul_right k hi
       rw [Nat.add_mul] at this; omega
     rw [<- ht, List.getElem?_take_of_lt hlt] at key
     rw [Nat.zero_add]; simpa using key
   exact Blk.cell (show Blk W g e cur from hg) h3
structure Ap {α : Type} (cs : α -> List Value) (k : Nat) (T TS : TypeId) : Prop where
 info : ∃ (i : TypeInfo) (z : Value) (b : Nat), Tryz.prog.info? T = some i /\ i.zero = some z /\ i.size = k /\ i.bytes = b /\ b <= 100 /\ z.cells.size = k
 und : Tryz.prog.underlying TS = some (.slice T)
 pos : 0 < k
 len : ∀ x, (cs x).length = k
 one : ∀ x, ∀ u ∈ cs x, u.oneCell' = true
def OwnL {α : Type} (cs : α -> List Value) (k : Nat) (T : TypeId) (W : World) (B : Nat) (v : Value) (l : List α) : Prop := W.ownsRow B T k v l.length (l.flatMap cs)
section
variable {α : Type} {cs : α -> List Value} {k : Nat} {T TS : TypeId} {W W' : World} {B : Nat} {v : Value} {l : List α}
theorem OwnL.nil (W : World) (B : Nat) : OwnL cs k T W B (.slice none 0 0) ([] : List α) := World.ownsRow_nil W B T k
theorem OwnL.below (h : OwnL cs k T W B v l) (hb : Below W.heap.size W W') : OwnL cs k T W' B v l := own_below h hb
theorem OwnL.base {B2 : Nat} (h : OwnL cs k T W B v l) (hb : B2 <= B) : OwnL cs k T W B2 v l := own_base_le h hb
theorem OwnL.far (h : OwnL cs k T W B v l) {p : Addr} (hp : p.block < B) (u : Value) : OwnL cs k T (W.setCell p u) B v l := own_far h (own_ne h hp) u
theorem OwnL.block (h : OwnL cs k T W B v l) {g : Nat} (e : v.ownBlock = some g) : B <= g := own7_base h g e
theorem OwnL.drew (h : OwnL cs k T W B v l) : OwnL cs k T W.drew B v l := h
theorem OwnL.read (ap : Ap cs k T TS) (h : OwnL cs k T W B v l) : ∃ A c, v = .slice A l.length c /\ Rz cs k W A l /\ l.length <= c /\ (A = none -> c = 0) /\ c <= maxLen := by
 obtain ⟨_, A, c, rfl, hz⟩ := Rz.of_own ap.len h ap.pos
 refine ⟨A, c, rfl, hz, ?_⟩
 rcases h.2 with ⟨h1, h0⟩ | ⟨g, cap, cur, h1, _, _, h2, h3, _⟩
 · simp only [Value.slice.injEq] at h1
   obtain ⟨rfl, h2, rfl⟩ := h1
   exact ⟨by omega, fun _ => rfl, by unfold maxLen; omega⟩
 · simp only [Value.slice.injEq] at h1
   obtain ⟨rfl, h4, rfl⟩ := h1
   exact ⟨h2, (fun h => by cases h), h3⟩
theorem wp_append_one (ap : Ap cs k T TS) {w : World} {o : Oper} {a : Act} {K : Act -> World -> Prop} {Q : Exit -> Act -> World -> Prop} (s x : Operand)
   (ho : o.op = .call { callee := .builtin .append, args := #[s, x], argTypes := #[TS, TS] }) (B : Nat) (v : Value) (l : List α) (hs : a.eval s = v) (hown : OwnL cs k T w B v l)
   (g : Nat) (d : α) (hx : a.eval x = .slice (some ⟨g, 0, none⟩) 1 1) (hg : Blk w g T (cs d).toArray) (hn : l.length <= 1000000) (hbase : B <= w.heap.size)
   (h : ∀ v' w', OwnL cs k T w' B v' (l ++ [d]) -> w.grownBy w' v.ownBlock -> K (a.put o.dst v') w') : Oper.wp Tryz.prog o a w K Q := by
 obtain ⟨i, z, b, hi, hz, hsz, hb, hb1, hzc⟩ := ap.info
 refine wp_append_own w s x TS ho B T i z k b ap.und hi hz hsz hb hzc ap.pos v l.length _ hs hown ⟨g, 0, none⟩ 1 1 (cs d) hx (by rw [ap.len]; omega) (fun j u hj => ?_) (ap.one d) (by unfold maxLen; omega) (Nat.le_trans (Nat.mul_le_mul_left _ hb1) (by omega)) hbase fun v' w' h1 h2 _ => h v' w' (by
   unfold OwnL
   rw [List.length_append, List.flatMap_append]; simpa using h1) h2
 have e : (⟨g, 0, none⟩ : Addr).add j = ⟨g, j, none⟩ := by unfold Addr.add; split <;> simp_all
 rw [e]; exact hg.cell (by simpa using hj)
theorem wpList_append_one (ap : Ap cs k T TS) {w : World} {ops : Array Oper} {rest : List Oper} {o : Oper} {a : Act} {Q : Exit -> Act -> World -> Prop} (hgd : o.guard = none) (s x : Operand)
   (ho : o.op = .call { callee := .builtin .append, args := #[s, x], argTypes := #[TS, TS] }) (B : Nat) (v : Value) (l : List α) (hs : a.eval s = v) (hown : OwnL cs k T w B v l)
   (g : Nat) (d : α) (hx : a.eval x = .slice (some ⟨g, 0, none⟩) 1 1) (hg : Blk w g T (cs d).toArray) (hn : l.length <= 1000000) (hbase : B <= w.heap.size)
   (h : ∀ v' w', OwnL cs k T w' B v' (l ++ [d]) -> w.grownBy w' v.ownBlock -> wpList Tryz.prog ops Q rest (a.put o.dst v') w') : wpList Tryz.prog ops Q (o :: rest) a w :=
 wpList_plain hgd fun _ hK => wp_append_one ap s x ho B v l hs hown g d hx hg hn hbase fun v' w' h2 h3 => hK _ _ (h v' w' h2 h3)
end
abbrev p7v (p : P7) : Value := .agg #[.int .i64 p.x, .int .i64 p.y]
abbrev r7v (r : R7) : Value := .agg #[.int .i64 r.x, .int .i64 r.y, .int .i64 r.w, .int .i64 r.h]
def p7c (p : P7) : List Value := [.int .i64 p.x, .int .i64 p.y]
abbrev Pz := Rz p7c 2
abbrev Yl (f : FuncId) (args : Array Value) (w : World) (v : Value) : Prop := Calls Tryz.prog f args w fun e w' => e = .returned v /\ Below w.heap.size w w'
theorem Yl.eq {f : FuncId} {args : Array Value} {w : World} {v v' : Value} (h : Yl f args w v) (e : v = v') : Yl f args w v' := e ▸ h
set_option maxRecDepth 100000 in
set_option maxHeartbeats 4000000 in
theorem isfrom_any (n l m : Int) (w : World) : Yl 44 #[.int .i64 n, .int .i64 l, .int .i64 m] w (.bool (decide (l <= n /\ n <= m))) := by
 by_cases h1 : l <= n
 case pos =>
   by_cases h2 : n <= m
   case pos =>
     rw [decide_eq_true (show l <= n /\ n <= m from ⟨h1, h2⟩)]
     go_enter Tryz.func44, Tryz.ntmps44
     go_wp2_with fail
     go_ret
     exact ⟨rfl, Below.refl _ _⟩
   case neg =>
     rw [decide_eq_false (show ¬ (l <= n /\ n <= m) by omega)]
     go_enter Tryz.func44, Tryz.ntmps44
     go_wp2_with fail
     go_ret
     exact ⟨rfl, Below.refl _ _⟩
 case neg =>
   rw [decide_eq_false (show ¬ (l <= n /\ n <= m) by omega)]
   have hundef := un_none
   go_enter Tryz.func44, Tryz.ntmps44
   go_wp2_with fail
   go_ret
   exact ⟨rfl, Below.refl _ _⟩
theorem isfrom_yes (n l m : Int) (w : World) (h : l <= n /\ n <= m) : Yl 44 #[.int .i64 n, .int .i64 l, .int .i64 m] w (.bool true) := by
 have := isfrom_any n l m w; rwa [decide_eq_true h] at this
theorem isfrom_no (n l m : Int) (w : World) (h : ¬ (l <= n /\ n <= m)) : Yl 44 #[.int .i64 n, .int .i64 l, .int .i64 m] w (.bool false) := by
 have := isfrom_any n l m w; rwa [decide_eq_false h] at this
set_option maxRecDepth 100000 in
set_option maxHeartbeats 4000000 in
theorem betw_any (n l m : Int) (w : World) : Yl 50 #[.int .i64 n, .int .i64 l, .int .i64 m] w (.int .i64 (min (max n l) m)) := by
 go_enter Tryz.func50, Tryz.ntmps50
 go_wp2_with fail
 all_goals (go_ret; exact ⟨ret_int (by omega), Below.refl _ _⟩)
set_option maxRecDepth 100000 in
set_option maxHeartbeats 4000000 in
theorem sign_any (n : Int) (w : World) : Yl 27 #[.int .i64 n] w (.int .i64 (sg7 n)) := by
 go_enter Tryz.func27, Tryz.ntmps27
 go_wp2_with fail
 refine (betw_any n (-1) 1 _).mono ?_
 rintro e v0 ⟨rfl, hb⟩
 go_wp2_with fail
 go_ret
 exact ⟨rfl, hb⟩
set_option maxRecDepth 100000 in
set_option maxHeartbeats 4000000 in
theorem vplace_any (p : P7) (w : World) : Yl 23 #[p7v p] w (.bool (decide p.ok)) := by
 obtain ⟨x, y⟩ := p
 by_cases h1 : 0 <= x /\ x <= 4095
 case neg =>
   rw [decide_eq_false (show ¬ P7.ok ⟨x, y⟩ from fun h => h1 h.1)]
   have S_0 : Hid (Blk (w.alloc (.cells #[.int .i64 x, .int .i64 y] 31)) w.heap.size 31 #[.int .i64 x, .int .i64 y]) := allocs_blk [(#[.int .i64 x, .int .i64 y], 31)] w 0 _ rfl
   have HB_0 : Hid (Below w.heap.size w (w.alloc (.cells #[.int .i64 x, .int .i64 y] 31))) := allocs_below [(#[.int .i64 x, .int .i64 y], 31)] w (Below.refl w.heap.size w) (Nat.le_refl _)
   go_enter Tryz.func23, Tryz.ntmps23
   have yy0 := S_0.out.cell (i := 0) (v := .int .i64 x) rfl; have yy1 := S_0.out.cell (i := 1) (v := .int .i64 y) rfl
   go_wp2_with fail
   refine (isfrom_no x 0 4095 _ h1).mono ?_
   rintro e v0 ⟨rfl, hb⟩
   clear yy0 yy1
   have S_1 : Hid (Blk v0 w.heap.size 31 #[.int .i64 x, .int .i64 y]) := Lib.hid (S_0.out.below hb S_0.out.lt)
   have HB_1 : Hid (Below w.heap.size w v0) := Lib.hid (HB_0.out.trans (hb.mono HB_0.out.size))
   clear hb S_0 HB_0
   have hundef := un_none
   go_wp2_with fail
   go_ret
   exact ⟨rfl, HB_1.out⟩
 case pos =>
  by_cases h2 : 0 <= y /\ y <= 4095
  case pos =>
   rw [decide_eq_true (show P7.ok ⟨x, y⟩ from ⟨h1, h2⟩)]
   have S_0 : Hid (Blk (w.alloc (.cells #[.int .i64 x, .int .i64 y] 31)) w.heap.size 31 #[.int .i64 x, .int .i64 y]) := allocs_blk [(#[.int .i64 x, .int .i64 y], 31)] w 0 _ rfl
   have HB_0 : Hid (Below w.heap.size w (w.alloc (.cells #[.int .i64 x, .int .i64 y] 31))) := allocs_below [(#[.int .i64 x, .int .i64 y], 31)] w (Below.refl w.heap.size w) (Nat.le_refl _)
   go_enter Tryz.func23, Tryz.ntmps23
   have yy0 := S_0.out.cell (i := 0) (v := .int .i64 x) rfl; have yy1 := S_0.out.cell (i := 1) (v := .int .i64 y) rfl
   go_wp2_with fail
   refine (isfrom_yes x 0 4095 _ h1).mono ?_
   rintro e v0 ⟨rfl, hb⟩
   clear yy0 yy1
   have S_1 : Hid (Blk v0 w.heap.size 31 #[.int .i64 x, .int .i64 y]) := Lib.hid (S_0.out.below hb S_0.out.lt)
   have HB_1 : Hid (Below w.heap.size w v0) := Lib.hid (HB_0.out.trans (hb.mono HB_0.out.size))
   clear hb S_0 HB_0
   have yy0 := S_1.out.cell (i := 0) (v := .int .i64 x) rfl; have yy1 := S_1.out.cell (i := 1) (v := .int .i64 y) rfl
   go_wp2_with fail
   refine (isfrom_yes y 0 4095 _ h2).mono ?_
   rintro e v1 ⟨rfl, hb⟩
   clear yy0 yy1
   have S_2 : Hid (Blk v1 w.heap.size 31 #[.int .i64 x, .int .i64 y]) := Lib.hid (S_1.out.below hb S_1.out.lt)
   have HB_2 : Hid (Below w.heap.size w v1) := Lib.hid (HB_1.out.trans (hb.mono HB_1.out.size))
   clear hb S_1 HB_1
   go_wp2_with fail
   go_ret
   exact ⟨rfl, HB_2.out⟩
  case neg =>
   rw [decide_eq_false (show ¬ P7.ok ⟨x, y⟩ from fun h => h2 h.2)]
   have S_0 : Hid (Blk (w.alloc (.cells #[.int .i64 x, .int .i64 y] 31)) w.heap.size 31 #[.int .i64 x, .int .i64 y]) := allocs_blk [(#[.int .i64 x, .int .i64 y], 31)] w 0 _ rfl
   have HB_0 : Hid (Below w.heap.size w (w.alloc (.cells #[.int .i64 x, .int .i64 y] 31))) := allocs_below [(#[.int .i64 x, .int .i64 y], 31)] w (Below.refl w.heap.size w) (Nat.le_refl _)
   go_enter Tryz.func23, Tryz.ntmps23
   have yy0 := S_0.out.cell (i := 0) (v := .int .i64 x) rfl; have yy1 := S_0.out.cell (i := 1) (v := .int .i64 y) rfl
   go_wp2_with fail
   refine (isfrom_yes x 0 4095 _ h1).mono ?_
   rintro e v0 ⟨rfl, hb⟩
   clear yy0 yy1
   have S_1 : Hid (Blk v0 w.heap.size 31 #[.int .i64 x, .int .i64 y]) := Lib.hid (S_0.out.below hb S_0.out.lt)
   have HB_1 : Hid (Below w.heap.size w v0) := Lib.hid (HB_0.out.trans (hb.mono HB_0.out.size))
   clear hb S_0 HB_0
   have yy0 := S_1.out.cell (i := 0) (v := .int .i64 x) rfl; have yy1 := S_1.out.cell (i := 1) (v := .int .i64 y) rfl
   go_wp2_with fail
   refine (isfrom_no y 0 4095 _ h2).mono ?_
   rintro e v1 ⟨rfl, hb⟩
   clear yy0 yy1
   have S_2 : Hid (Blk v1 w.heap.size 31 #[.int .i64 x, .int .i64 y]) := Lib.hid (S_1.out.below hb S_1.out.lt)
   have HB_2 : Hid (Below w.heap.size w v1) := Lib.hid (HB_1.out.trans (hb.mono HB_1.out.size))
   clear hb S_1 HB_1
   go_wp2_with fail
   go_ret
   exact ⟨rfl, HB_2.out⟩
theorem vplace_yes (p : P7) (w : World) (h : p.ok) : Yl 23 #[p7v p] w (.bool true) := by
 have := vplace_any p w; rwa [decide_eq_true h] at this
theorem vplace_no (p : P7) (w : World) (h : ¬ p.ok) : Yl 23 #[p7v p] w (.bool false) := by
 have := vplace_any p w; rwa [decide_eq_false h] at this
set_option maxRecDepth 100000 in
set_option maxHeartbeats 4000000 in
theorem pfr_any (a b : P7) (w : World) (ha : a.sm) (hb : b.sm) : Yl 29 #[p7v a, p7v b] w (p7v (fr7 a b)) := by
 obtain ⟨ax, ay⟩ := a; obtain ⟨bx, bY⟩ := b
 unfold P7.sm Sm7 at ha hb
 simp only at ha hb
 have e1 : IntKind.i64.wrap (bx - ax) = bx - ax := IntWalk.i64_in _ (by omega)
 have e2 : IntKind.i64.wrap (bY - ay) = bY - ay := IntWalk.i64_in _ (by omega)
 clear ha hb
 have S_0 : Hid (Blk (((w.alloc (.cells #[.int .i64 ax, .int .i64 ay] 31)).alloc (.cells #[.int .i64 bx, .int .i64 bY] 31)).alloc (.cells #[.int .i64 0, .int .i64 0] 31)) w.heap.size 31 #[.int .i64 ax, .int .i64 ay]) := allocs_blk [(#[.int .i64 ax, .int .i64 ay], 31), (#[.int .i64 bx, .int .i64 bY], 31), (#[.int .i64 0, .int .i64 0], 31)] w 0 _ rfl
 have T_0 : Hid (Blk (((w.alloc (.cells #[.int .i64 ax, .int .i64 ay] 31)).alloc (.cells #[.int .i64 bx, .int .i64 bY] 31)).alloc (.cells #[.int .i64 0, .int .i64 0] 31)) (w.heap.size + 1) 31 #[.int .i64 bx, .int .i64 bY]) := allocs_blk [(#[.int .i64 ax, .int .i64 ay], 31), (#[.int .i64 bx, .int .i64 bY], 31), (#[.int .i64 0, .int .i64 0], 31)] w 1 _ rfl
 have Z_0 : Hid (Blk (((w.alloc (.cells #[.int .i64 ax, .int .i64 ay] 31)).alloc (.cells #[.int .i64 bx, .int .i64 bY] 31)).alloc (.cells #[.int .i64 0, .int .i64 0] 31)) (w.heap.size + 2) 31 #[.int .i64 0, .int .i64 0]) := allocs_blk [(#[.int .i64 ax, .int .i64 ay], 31), (#[.int .i64 bx, .int .i64 bY], 31), (#[.int .i64 0, .int .i64 0], 31)] w 2 _ rfl
 have HB_0 : Hid (Below w.heap.size w (((w.alloc (.cells #[.int .i64 ax, .int .i64 ay] 31)).alloc (.cells #[.int .i64 bx, .int .i64 bY] 31)).alloc (.cells #[.int .i64 0, .int .i64 0] 31))) := allocs_below [(#[.int .i64 ax, .int .i64 ay], 31), (#[.int .i64 bx, .int .i64 bY], 31), (#[.int .i64 0, .int .i64 0], 31)] w (Below.refl w.heap.size w) (Nat.le_refl _)
 go_enter Tryz.func29, Tryz.ntmps29
 have yy0 := S_0.out.cell (i := 0) (v := .int .i64 ax) rfl; have yy1 := S_0.out.cell (i := 1) (v := .int .i64 ay) rfl
 have yy2 := T_0.out.cell (i := 0) (v := .int .i64 bx) rfl; have yy3 := T_0.out.cell (i := 1) (v := .int .i64 bY) rfl
 have z0 := Z_0.out.cell (i := 0) (v := .int .i64 0) rfl; have z1 := Z_0.out.cell (i := 1) (v := .int .i64 0) rfl; have f0 := Z_0.out.frozen 0; have f1 := Z_0.out.frozen 1
 go_wp2_with fail
 exact bodyPost_ret (v := .agg #[.int .i64 (bx - ax), .int .i64 (bY - ay)]) (by simp [results, Tryz.results29, go_sem]) rfl ⟨rfl, allocs_below [(#[.int .i64 ax, .int .i64 ay], 31), (#[.int .i64 bx, .int .i64 bY], 31), (#[.int .i64 (bx - ax), .int .i64 (bY - ay)], 31)] w (Below.refl w.heap.size w) (Nat.le_refl _)⟩
set_option maxRecDepth 100000 in
set_option maxHeartbeats 4000000 in
theorem upper_any (r : R7) (w : World) : Yl 32 #[r7v r] w (p7v (ul7 r)) := by
 obtain ⟨rx, ry, rw_, rh⟩ := r
 have S_0 : Hid (Blk ((w.alloc (.cells #[.int .i64 rx, .int .i64 ry, .int .i64 rw_, .int .i64 rh] 39)).alloc (.cells #[.int .i64 0, .int .i64 0] 31)) w.heap.size 39 #[.int .i64 rx, .int .i64 ry, .int .i64 rw_, .int .i64 rh]) := allocs_blk [(#[.int .i64 rx, .int .i64 ry, .int .i64 rw_, .int .i64 rh], 39), (#[.int .i64 0, .int .i64 0], 31)] w 0 _ rfl
 have Z_0 : Hid (Blk ((w.alloc (.cells #[.int .i64 rx, .int .i64 ry, .int .i64 rw_, .int .i64 rh] 39)).alloc (.cells #[.int .i64 0, .int .i64 0] 31)) (w.heap.size + 1) 31 #[.int .i64 0, .int .i64 0]) := allocs_blk [(#[.int .i64 rx, .int .i64 ry, .int .i64 rw_, .int .i64 rh], 39), (#[.int .i64 0, .int .i64 0], 31)] w 1 _ rfl
 have HB_0 : Hid (Below w.heap.size w ((w.alloc (.cells #[.int .i64 rx, .int .i64 ry, .int .i64 rw_, .int .i64 rh] 39)).alloc (.cells #[.int .i64 0, .int .i64 0] 31))) := allocs_below [(#[.int .i64 rx, .int .i64 ry, .int .i64 rw_, .int .i64 rh], 39), (#[.int .i64 0, .int .i64 0], 31)] w (Below.refl w.heap.size w) (Nat.le_refl _)
 go_enter Tryz.func32, Tryz.ntmps32
 have yy0 := S_0.out.cell (i := 0) (v := .int .i64 rx) rfl; have yy1 := S_0.out.cell (i := 1) (v := .int .i64 ry) rfl; have yy2 := S_0.out.cell (i := 2) (v := .int .i64 rw_) rfl; have yy3 := S_0.out.cell (i := 3) (v := .int .i64 rh) rfl
 have z0 := Z_0.out.cell (i := 0) (v := .int .i64 0) rfl; have z1 := Z_0.out.cell (i := 1) (v := .int .i64 0) rfl; have f0 := Z_0.out.frozen 0; have f1 := Z_0.out.frozen 1
 go_wp2_with fail
 exact bodyPost_ret (v := .agg #[.int .i64 (rx), .int .i64 (ry)]) (by simp [results, Tryz.results32, go_sem]) rfl ⟨rfl, allocs_below [(#[.int .i64 rx, .int .i64 ry, .int .i64 rw_, .int .i64 rh], 39), (#[.int .i64 rx, .int .i64 ry], 31)] w (Below.refl w.heap.size w) (Nat.le_refl _)⟩
set_option maxRecDepth 100000 in
set_option maxHeartbeats 4000000 in
theorem lower_any (r : R7) (w : World) (h : r.ok) : Yl 33 #[r7v r] w (p7v (lr7 r)) := by
 obtain ⟨rx, ry, rw_, rh⟩ := r
 unfold R7.ok at h
 simp only at h
 have e1 : IntKind.i64.wrap (rx + rw_) = rx + rw_ := IntWalk.i64_in _ (by omega)
 have e2 : IntKind.i64.wrap (ry + rh) = ry + rh := IntWalk.i64_in _ (by omega)
 clear h
 have S_0 : Hid (Blk ((w.alloc (.cells #[.int .i64 rx, .int .i64 ry, .int .i64 rw_, .int .i64 rh] 39)).alloc (.cells #[.int .i64 0, .int .i64 0] 31)) w.heap.size 39 #[.int .i64 rx, .int .i64 ry, .int .i64 rw_, .int .i64 rh]) := allocs_blk [(#[.int .i64 rx, .int .i64 ry, .int .i64 rw_, .int .i64 rh], 39), (#[.int .i64 0, .int .i64 0], 31)] w 0 _ rfl
 have Z_0 : Hid (Blk ((w.alloc (.cells #[.int .i64 rx, .int .i64 ry, .int .i64 rw_, .int .i64 rh] 39)).alloc (.cells #[.int .i64 0, .int .i64 0] 31)) (w.heap.size + 1) 31 #[.int .i64 0, .int .i64 0]) := allocs_blk [(#[.int .i64 rx, .int .i64 ry, .int .i64 rw_, .int .i64 rh], 39), (#[.int .i64 0, .int .i64 0], 31)] w 1 _ rfl
 have HB_0 : Hid (Below w.heap.size w ((w.alloc (.cells #[.int .i64 rx, .int .i64 ry, .int .i64 rw_, .int .i64 rh] 39)).alloc (.cells #[.int .i64 0, .int .i64 0] 31))) := allocs_below [(#[.int .i64 rx, .int .i64 ry, .int .i64 rw_, .int .i64 rh], 39), (#[.int .i64 0, .int .i64 0], 31)] w (Below.refl w.heap.size w) (Nat.le_refl _)
 go_enter Tryz.func33, Tryz.ntmps33
 have yy0 := S_0.out.cell (i := 0) (v := .int .i64 rx) rfl; have yy1 := S_0.out.cell (i := 1) (v := .int .i64 ry) rfl; have yy2 := S_0.out.cell (i := 2) (v := .int .i64 rw_) rfl; have yy3 := S_0.out.cell (i := 3) (v := .int .i64 rh) rfl
 have z0 := Z_0.out.cell (i := 0) (v := .int .i64 0) rfl; have z1 := Z_0.out.cell (i := 1) (v := .int .i64 0) rfl; have f0 := Z_0.out.frozen 0; have f1 := Z_0.out.frozen 1
 go_wp2_with fail
 exact bodyPost_ret (v := .agg #[.int .i64 (rx + rw_), .int .i64 (ry + rh)]) (by simp [results, Tryz.results33, go_sem]) rfl ⟨rfl, allocs_below [(#[.int .i64 rx, .int .i64 ry, .int .i64 rw_, .int .i64 rh], 39), (#[.int .i64 (rx + rw_), .int .i64 (ry + rh)], 31)] w (Below.refl w.heap.size w) (Nat.le_refl _)⟩
set_option maxRecDepth 100000 in
set_option maxHeartbeats 4000000 in
theorem along_any (a b : P7) (w : World) (ha : a.sm) (hb : b.sm) : Yl 35 #[p7v a, p7v b] w (.int .i64 (dot7 a b)) := by
 have hs := dot7_small ha hb
 obtain ⟨m1, hm1⟩ : ∃ m, m = a.x * b.x := ⟨_, rfl⟩
 obtain ⟨m2, hm2⟩ : ∃ m, m = a.y * b.y := ⟨_, rfl⟩
 rw [<- hm1, <- hm2] at hs
 have e1 : IntKind.i64.wrap (a.x * b.x) = m1 := by rw [hm1]; exact IntWalk.i64_in _ (by omega)
 have e2 : IntKind.i64.wrap (a.y * b.y) = m2 := by rw [hm2]; exact IntWalk.i64_in _ (by omega)
 have e3 : IntKind.i64.wrap (m1 + m2) = m1 + m2 := IntWalk.i64_in _ (by omega)
 have HV : Hid (m1 + m2 = dot7 a b) := Lib.hid (by rw [hm1, hm2]; rfl)
 clear hm1 hm2 hs ha hb
 have S_0 : Hid (Blk ((w.alloc (.cells #[.int .i64 a.x, .int .i64 a.y] 31)).alloc (.cells #[.int .i64 b.x, .int .i64 b.y] 31)) w.heap.size 31 #[.int .i64 a.x, .int .i64 a.y]) := allocs_blk [(#[.int .i64 a.x, .int .i64 a.y], 31), (#[.int .i64 b.x, .int .i64 b.y], 31)] w 0 _ rfl
 have T_0 : Hid (Blk ((w.alloc (.cells #[.int .i64 a.x, .int .i64 a.y] 31)).alloc (.cells #[.int .i64 b.x, .int .i64 b.y] 31)) (w.heap.size + 1) 31 #[.int .i64 b.x, .int .i64 b.y]) := allocs_blk [(#[.int .i64 a.x, .int .i64 a.y], 31), (#[.int .i64 b.x, .int .i64 b.y], 31)] w 1 _ rfl
 have HB_0 : Hid (Below w.heap.size w ((w.alloc (.cells #[.int .i64 a.x, .int .i64 a.y] 31)).alloc (.cells #[.int .i64 b.x, .int .i64 b.y] 31))) := allocs_below [(#[.int .i64 a.x, .int .i64 a.y], 31), (#[.int .i64 b.x, .int .i64 b.y], 31)] w (Below.refl w.heap.size w) (Nat.le_refl _)
 go_enter Tryz.func35, Tryz.ntmps35
 have yy0 := S_0.out.cell (i := 0) (v := .int .i64 a.x) rfl; have yy1 := S_0.out.cell (i := 1) (v := .int .i64 a.y) rfl
 have yy2 := T_0.out.cell (i := 0) (v := .int .i64 b.x) rfl; have yy3 := T_0.out.cell (i := 1) (v := .int .i64 b.y) rfl
 go_wp2_with fail
 go_ret
 exact ⟨ret_int HV.out, HB_0.out⟩
set_option maxRecDepth 100000 in
set_option maxHeartbeats 4000000 in
theorem across_any (a b : P7) (w : World) (ha : a.sm) (hb : b.sm) : Yl 28 #[p7v a, p7v b] w (.int .i64 (crs7 a b)) := by
 have hs := crs7_small ha hb
 obtain ⟨m1, hm1⟩ : ∃ m, m = a.x * b.y := ⟨_, rfl⟩
 obtain ⟨m2, hm2⟩ : ∃ m, m = a.y * b.x := ⟨_, rfl⟩
 rw [<- hm1, <- hm2] at hs
 have e1 : IntKind.i64.wrap (a.x * b.y) = m1 := by rw [hm1]; exact IntWalk.i64_in _ (by omega)
 have e2 : IntKind.i64.wrap (a.y * b.x) = m2 := by rw [hm2]; exact IntWalk.i64_in _ (by omega)
 have e3 : IntKind.i64.wrap (m1 - m2) = m1 - m2 := IntWalk.i64_in _ (by omega)
 have HV : Hid (m1 - m2 = crs7 a b) := Lib.hid (by rw [hm1, hm2]; rfl)
 clear hm1 hm2 hs ha hb
 have S_0 : Hid (Blk ((w.alloc (.cells #[.int .i64 a.x, .int .i64 a.y] 31)).alloc (.cells #[.int .i64 b.x, .int .i64 b.y] 31)) w.heap.size 31 #[.int .i64 a.x, .int .i64 a.y]) := allocs_blk [(#[.int .i64 a.x, .int .i64 a.y], 31), (#[.int .i64 b.x, .int .i64 b.y], 31)] w 0 _ rfl
 have T_0 : Hid (Blk ((w.alloc (.cells #[.int .i64 a.x, .int .i64 a.y] 31)).alloc (.cells #[.int .i64 b.x, .int .i64 b.y] 31)) (w.heap.size + 1) 31 #[.int .i64 b.x, .int .i64 b.y]) := allocs_blk [(#[.int .i64 a.x, .int .i64 a.y], 31), (#[.int .i64 b.x, .int .i64 b.y], 31)] w 1 _ rfl
 have HB_0 : Hid (Below w.heap.size w ((w.alloc (.cells #[.int .i64 a.x, .int .i64 a.y] 31)).alloc (.cells #[.int .i64 b.x, .int .i64 b.y] 31))) := allocs_below [(#[.int .i64 a.x, .int .i64 a.y], 31), (#[.int .i64 b.x, .int .i64 b.y], 31)] w (Below.refl w.heap.size w) (Nat.le_refl _)
 go_enter Tryz.func28, Tryz.ntmps28
 have yy0 := S_0.out.cell (i := 0) (v := .int .i64 a.x) rfl; have yy1 := S_0.out.cell (i := 1) (v := .int .i64 a.y) rfl
 have yy2 := T_0.out.cell (i := 0) (v := .int .i64 b.x) rfl; have yy3 := T_0.out.cell (i := 1) (v := .int .i64 b.y) rfl
 go_wp2_with fail
 go_ret
 exact ⟨ret_int HV.out, HB_0.out⟩
set_option maxRecDepth 100000 in
set_option maxHeartbeats 4000000 in
theorem before_any (a b : P7) (w : World) : Yl 31 #[p7v a, p7v b] w (.bool (bf7 a b)) := by
 by_cases h1 : a.x < b.x
 case pos =>
   rw [show bf7 a b = true from decide_eq_true (Or.inl h1)]
   have hundef := un_none
   have S_0 : Hid (Blk ((w.alloc (.cells #[.int .i64 a.x, .int .i64 a.y] 31)).alloc (.cells #[.int .i64 b.x, .int .i64 b.y] 31)) w.heap.size 31 #[.int .i64 a.x, .int .i64 a.y]) := allocs_blk [(#[.int .i64 a.x, .int .i64 a.y], 31), (#[.int .i64 b.x, .int .i64 b.y], 31)] w 0 _ rfl
   have T_0 : Hid (Blk ((w.alloc (.cells #[.int .i64 a.x, .int .i64 a.y] 31)).alloc (.cells #[.int .i64 b.x, .int .i64 b.y] 31)) (w.heap.size + 1) 31 #[.int .i64 b.x, .int .i64 b.y]) := allocs_blk [(#[.int .i64 a.x, .int .i64 a.y], 31), (#[.int .i64 b.x, .int .i64 b.y], 31)] w 1 _ rfl
   have HB_0 : Hid (Below w.heap.size w ((w.alloc (.cells #[.int .i64 a.x, .int .i64 a.y] 31)).alloc (.cells #[.int .i64 b.x, .int .i64 b.y] 31))) := allocs_below [(#[.int .i64 a.x, .int .i64 a.y], 31), (#[.int .i64 b.x, .int .i64 b.y], 31)] w (Below.refl w.heap.size w) (Nat.le_refl _)
   go_enter Tryz.func31, Tryz.ntmps31
   have yy0 := S_0.out.cell (i := 0) (v := .int .i64 a.x) rfl; have yy1 := S_0.out.cell (i := 1) (v := .int .i64 a.y) rfl
   have yy2 := T_0.out.cell (i := 0) (v := .int .i64 b.x) rfl; have yy3 := T_0.out.cell (i := 1) (v := .int .i64 b.y) rfl
   go_wp2_with fail
   go_ret
   exact ⟨rfl, HB_0.out⟩
 case neg =>
  by_cases h2 : a.y < b.y
  case pos =>
   rw [show bf7 a b = true from decide_eq_true (Or.inr h2)]
   have S_0 : Hid (Blk ((w.alloc (.cells #[.int .i64 a.x, .int .i64 a.y] 31)).alloc (.cells #[.int .i64 b.x, .int .i64 b.y] 31)) w.heap.size 31 #[.int .i64 a.x, .int .i64 a.y]) := allocs_blk [(#[.int .i64 a.x, .int .i64 a.y], 31), (#[.int .i64 b.x, .int .i64 b.y], 31)] w 0 _ rfl
   have T_0 : Hid (Blk ((w.alloc (.cells #[.int .i64 a.x, .int .i64 a.y] 31)).alloc (.cells #[.int .i64 b.x, .int .i64 b.y] 31)) (w.heap.size + 1) 31 #[.int .i64 b.x, .int .i64 b.y]) := allocs_blk [(#[.int .i64 a.x, .int .i64 a.y], 31), (#[.int .i64 b.x, .int .i64 b.y], 31)] w 1 _ rfl
   have HB_0 : Hid (Below w.heap.size w ((w.alloc (.cells #[.int .i64 a.x, .int .i64 a.y] 31)).alloc (.cells #[.int .i64 b.x, .int .i64 b.y] 31))) := allocs_below [(#[.int .i64 a.x, .int .i64 a.y], 31), (#[.int .i64 b.x, .int .i64 b.y], 31)] w (Below.refl w.heap.size w) (Nat.le_refl _)
   go_enter Tryz.func31, Tryz.ntmps31
   have yy0 := S_0.out.cell (i := 0) (v := .int .i64 a.x) rfl; have yy1 := S_0.out.cell (i := 1) (v := .int .i64 a.y) rfl
   have yy2 := T_0.out.cell (i := 0) (v := .int .i64 b.x) rfl; have yy3 := T_0.out.cell (i := 1) (v := .int .i64 b.y) rfl
   go_wp2_with fail
   go_ret
   exact ⟨rfl, HB_0.out⟩
  case neg =>
   rw [show bf7 a b = false from decide_eq_false (fun h => h.elim h1 h2)]
   have S_0 : Hid (Blk ((w.alloc (.cells #[.int .i64 a.x, .int .i64 a.y] 31)).alloc (.cells #[.int .i64 b.x, .int .i64 b.y] 31)) w.heap.size 31 #[.int .i64 a.x, .int .i64 a.y]) := allocs_blk [(#[.int .i64 a.x, .int .i64 a.y], 31), (#[.int .i64 b.x, .int .i64 b.y], 31)] w 0 _ rfl
   have T_0 : Hid (Blk ((w.alloc (.cells #[.int .i64 a.x, .int .i64 a.y] 31)).alloc (.cells #[.int .i64 b.x, .int .i64 b.y] 31)) (w.heap.size + 1) 31 #[.int .i64 b.x, .int .i64 b.y]) := allocs_blk [(#[.int .i64 a.x, .int .i64 a.y], 31), (#[.int .i64 b.x, .int .i64 b.y], 31)] w 1 _ rfl
   have HB_0 : Hid (Below w.heap.size w ((w.alloc (.cells #[.int .i64 a.x, .int .i64 a.y] 31)).alloc (.cells #[.int .i64 b.x, .int .i64 b.y] 31))) := allocs_below [(#[.int .i64 a.x, .int .i64 a.y], 31), (#[.int .i64 b.x, .int .i64 b.y], 31)] w (Below.refl w.heap.size w) (Nat.le_refl _)
   go_enter Tryz.func31, Tryz.ntmps31
   have yy0 := S_0.out.cell (i := 0) (v := .int .i64 a.x) rfl; have yy1 := S_0.out.cell (i := 1) (v := .int .i64 a.y) rfl
   have yy2 := T_0.out.cell (i := 0) (v := .int .i64 b.x) rfl; have yy3 := T_0.out.cell (i := 1) (v := .int .i64 b.y) rfl
   go_wp2_with fail
   go_ret
   exact ⟨rfl, HB_0.out⟩
theorem grow_more {P : Program} {md : Region.Mode} {ops : Array Oper} {Q : Exit -> Act -> World -> Prop} {S : World -> Prop} (S' : World -> Prop) (hS : ∀ w, S' w -> S w) : ∀ {fuel : Nat} {listed : Array Bool} {a : Act} {I : World -> Prop}, Grow P md ops Q S' fuel listed a I -> Grow P md ops Q S fuel listed a I
 | 0, _, _, _, h => h
 | _ + 1, _, _, _, h => ⟨h.1, fun i hi w hw => wpOp_mono (fun _ _ h2 => by
     obtain ⟨I', h3, h4, h5⟩ := h2
     exact ⟨I', ⟨fun w hw => hS w (h3.1 w hw), h3.2⟩, h4, grow_more S' hS h5⟩) (h.2 i hi w hw)⟩
theorem grow_put {P : Program} {md : Region.Mode} {ops : Array Oper} {Q : Exit -> Act -> World -> Prop} {S : World -> Prop} {fuel : Nat} {listed : Array Bool} {K : Act -> World -> Prop} {a : Act} {w : World}
   (hK : Shut (∀ a' w' (I' : World -> Prop), Calm S I' -> I' w' -> Grow P md ops Q S fuel listed a' I' -> K a' w')) (I : World -> Prop) (hI : Calm S I) (h0 : I w) (h : Calm S I -> Grow P md ops Q S fuel listed a I) : K a w := hK.out _ _ I hI h0 (h hI)
theorem grow_more3 {P : Program} {md : Region.Mode} {ops : Array Oper} {Q : Exit -> Act -> World -> Prop} {S : World -> Prop} (T : World -> Prop) {fuel : Nat} {listed : Array Bool} {a : Act} {I : World -> Prop} (hI : Calm S I) (hT : ∀ w, I w -> T w) (h : Calm (fun w => S w /\ T w) I -> Grow P md ops Q (fun w => S w /\ T w) fuel listed a I) : Grow P md ops Q S fuel listed a I :=
 grow_more (fun w => S w /\ T w) (fun _ h => h.1) (h ⟨fun w hw => ⟨hI.1 w hw, hT w hw⟩, hI.2⟩)
theorem grow_new {P : Program} {md : Region.Mode} {ops : Array Oper} {Q : Exit -> Act -> World -> Prop} {S I : World -> Prop} {fuel : Nat} {listed : Array Bool} {K : Act -> World -> Prop} {a : Act} {w : World} {o : Obj} {p : Nat} {t : TypeId} {cs : Array Value}
   (hK : Shut (∀ a' w' (I' : World -> Prop), Calm S I' -> I' w' -> Grow P md ops Q S fuel listed a' I' -> K a' w')) (hI : Calm S I) (hA : I w) (hn : Blk (w.alloc o) p t cs) (h : Calm S (fun w' => I w' /\ Blk w' p t cs) -> Grow P md ops Q S fuel listed a (fun w' => I w' /\ Blk w' p t cs)) : K a (w.alloc o) :=
 have hc : Calm S (fun w' => I w' /\ Blk w' p t cs) := ⟨fun w h => hI.1 w h.1, fun w w' h hb => ⟨hI.2 w w' h.1 hb, h.2.below hb h.2.lt⟩⟩
 hK.out _ _ _ hc ⟨hI.2 w _ hA ((Below.refl _ _).alloc (Nat.le_refl _) _), hn⟩ (h hc)
theorem apP : Ap p7c 2 31 24 := ⟨by
 obtain ⟨i, h1, h2, h3, h4⟩ := info_of (show (Tryz.prog.info? 31).map (fun i => (i.zero, i.size, i.bytes)) = some (some (.agg #[.int .i64 0, .int .i64 0]), 2, 16) from by kernel_rfl)
 exact ⟨i, _, _, h1, h2, h3, h4, by omega, rfl⟩, Tryz.underlying24, by omega, fun _ => rfl, fun x u hu => by simp [p7c] at hu; rcases hu with rfl | rfl <;> rfl⟩
theorem pz_of {W : World} {g : Nat} {t : TypeId} {l : List P7} (h : Blk W g t (l.flatMap p7c).toArray) : Pz W (some ⟨g, 0, none⟩) l := fun hn => ⟨g, 0, rfl, h.lt, fun i hi j v hv => by
 refine h.cell (i := 0 + i * 2 + j) ?_
 rw [List.getElem?_toArray, Nat.zero_add]
 have hj : j < 2 := (List.getElem?_eq_some_iff.1 hv).1
 clear h hn
 induction l generalizing i with
 | nil => simp at hi
 | cons x r ih =>
   cases i with
   | zero =>
     rw [List.flatMap_cons, List.getElem?_append_left (by simp [p7c]; omega)]
     simpa using hv
   | succ i =>
     rw [List.flatMap_cons, List.getElem?_append_right (by simp [p7c]; omega), show (i + 1) * 2 + j - (p7c x).length = i * 2 + j from by simp [p7c]; omega]
     exact ih i (by simpa using hi) (by simpa using hv)⟩
theorem Pz.cell {w w' : World} {b o B : Nat} {l : List P7} (h : Pz w (some ⟨b, o, none⟩) l) (hb : Below B w w') (hB : w.heap.size <= B) {i : Nat} (hi : i < l.length) : w'.cell? ⟨b, o + i * 2, none⟩ = some (.int .i64 l[i].x) /\ w'.cell? ⟨b, o + i * 2 + 1, none⟩ = some (.int .i64 l[i].y) :=
 ⟨h.cells hb hB hi (j := 0) rfl, h.cells hb hB hi (j := 1) rfl⟩
set_option maxRecDepth 100000 in
set_option maxHeartbeats 8000000 in
theorem vrect_any (r : R7) (w : World) : Yl 21 #[r7v r] w (.bool (decide r.ok)) := by
 obtain ⟨x, y, rw_, rh⟩ := r
 by_cases h1 : P7.ok ⟨x, y⟩
 case neg =>
   rw [decide_eq_false (show ¬ R7.ok ⟨x, y, rw_, rh⟩ from fun h => h1 h.1)]
   have S_0 : Hid (Blk (w.alloc (.cells #[.int .i64 x, .int .i64 y, .int .i64 rw_, .int .i64 rh] 39)) w.heap.size 39 #[.int .i64 x, .int .i64 y, .int .i64 rw_, .int .i64 rh]) := allocs_blk [(#[.int .i64 x, .int .i64 y, .int .i64 rw_, .int .i64 rh], 39)] w 0 _ rfl
   have HB_0 : Hid (Below w.heap.size w (w.alloc (.cells #[.int .i64 x, .int .i64 y, .int .i64 rw_, .int .i64 rh] 39))) := allocs_below [(#[.int .i64 x, .int .i64 y, .int .i64 rw_, .int .i64 rh], 39)] w (Below.refl w.heap.size w) (Nat.le_refl _)
   go_enter Tryz.func21, Tryz.ntmps21
   have yy0 := S_0.out.cell (i := 0) (v := .int .i64 x) rfl; have yy1 := S_0.out.cell (i := 1) (v := .int .i64 y) rfl; have yy2 := S_0.out.cell (i := 2) (v := .int .i64 rw_) rfl; have yy3 := S_0.out.cell (i := 3) (v := .int .i64 rh) rfl
   go_wp2_with fail
   refine (upper_any ⟨x, y, rw_, rh⟩ _).mono ?_
   rintro e v0 ⟨rfl, hb⟩
   clear yy0 yy1 yy2 yy3
   have S_1 : Hid (Blk v0 w.heap.size 39 #[.int .i64 x, .int .i64 y, .int .i64 rw_, .int .i64 rh]) := Lib.hid (S_0.out.below hb S_0.out.lt)
   have HB_1 : Hid (Below w.heap.size w v0) := Lib.hid (HB_0.out.trans (hb.mono HB_0.out.size))
   clear hb S_0 HB_0
   have yy0 := S_1.out.cell (i := 0) (v := .int .i64 x) rfl; have yy1 := S_1.out.cell (i := 1) (v := .int .i64 y) rfl; have yy2 := S_1.out.cell (i := 2) (v := .int .i64 rw_) rfl; have yy3 := S_1.out.cell (i := 3) (v := .int .i64 rh) rfl
   go_wp2_with fail
   refine (vplace_no ⟨x, y⟩ _ h1).mono ?_
   rintro e v1 ⟨rfl, hb⟩
   clear yy0 yy1 yy2 yy3
   have S_2 : Hid (Blk v1 w.heap.size 39 #[.int .i64 x, .int .i64 y, .int .i64 rw_, .int .i64 rh]) := Lib.hid (S_1.out.below hb S_1.out.lt)
   have HB_2 : Hid (Below w.heap.size w v1) := Lib.hid (HB_1.out.trans (hb.mono HB_1.out.size))
   clear hb S_1 HB_1
   have hundef := un_none
   go_wp2_with fail
   go_ret
   exact ⟨rfl, HB_2.out⟩
 case pos =>
  have h1' : ((0 <= x /\ x <= 4095) /\ (0 <= y /\ y <= 4095)) := h1
  by_cases h2 : 0 <= rw_ /\ rw_ <= 4095 - x
  case neg =>
   rw [decide_eq_false (show ¬ R7.ok ⟨x, y, rw_, rh⟩ from fun h => h2 h.2.1)]
   have S_0 : Hid (Blk (w.alloc (.cells #[.int .i64 x, .int .i64 y, .int .i64 rw_, .int .i64 rh] 39)) w.heap.size 39 #[.int .i64 x, .int .i64 y, .int .i64 rw_, .int .i64 rh]) := allocs_blk [(#[.int .i64 x, .int .i64 y, .int .i64 rw_, .int .i64 rh], 39)] w 0 _ rfl
   have HB_0 : Hid (Below w.heap.size w (w.alloc (.cells #[.int .i64 x, .int .i64 y, .int .i64 rw_, .int .i64 rh] 39))) := allocs_below [(#[.int .i64 x, .int .i64 y, .int .i64 rw_, .int .i64 rh], 39)] w (Below.refl w.heap.size w) (Nat.le_refl _)
   go_enter Tryz.func21, Tryz.ntmps21
   have yy0 := S_0.out.cell (i := 0) (v := .int .i64 x) rfl; have yy1 := S_0.out.cell (i := 1) (v := .int .i64 y) rfl; have yy2 := S_0.out.cell (i := 2) (v := .int .i64 rw_) rfl; have yy3 := S_0.out.cell (i := 3) (v := .int .i64 rh) rfl
   go_wp2_with fail
   refine (upper_any ⟨x, y, rw_, rh⟩ _).mono ?_
   rintro e v0 ⟨rfl, hb⟩
   clear yy0 yy1 yy2 yy3
   have S_1 : Hid (Blk v0 w.heap.size 39 #[.int .i64 x, .int .i64 y, .int .i64 rw_, .int .i64 rh]) := Lib.hid (S_0.out.below hb S_0.out.lt)
   have HB_1 : Hid (Below w.heap.size w v0) := Lib.hid (HB_0.out.trans (hb.mono HB_0.out.size))
   clear hb S_0 HB_0
   have yy0 := S_1.out.cell (i := 0) (v := .int .i64 x) rfl; have yy1 := S_1.out.cell (i := 1) (v := .int .i64 y) rfl; have yy2 := S_1.out.cell (i := 2) (v := .int .i64 rw_) rfl; have yy3 := S_1.out.cell (i := 3) (v := .int .i64 rh) rfl
   go_wp2_with fail
   refine (vplace_yes ⟨x, y⟩ _ h1).mono ?_
   rintro e v1 ⟨rfl, hb⟩
   clear yy0 yy1 yy2 yy3
   have S_2 : Hid (Blk v1 w.heap.size 39 #[.int .i64 x, .int .i64 y, .int .i64 rw_, .int .i64 rh]) := Lib.hid (S_1.out.below hb S_1.out.lt)
   have HB_2 : Hid (Below w.heap.size w v1) := Lib.hid (HB_1.out.trans (hb.mono HB_1.out.size))
   clear hb S_1 HB_1
   have e1 : IntKind.i64.wrap (4095 - x) = 4095 - x := IntWalk.i64_in _ (by omega)
   have yy0 := S_2.out.cell (i := 0) (v := .int .i64 x) rfl; have yy1 := S_2.out.cell (i := 1) (v := .int .i64 y) rfl; have yy2 := S_2.out.cell (i := 2) (v := .int .i64 rw_) rfl; have yy3 := S_2.out.cell (i := 3) (v := .int .i64 rh) rfl
   go_wp2_with fail
   refine (isfrom_no rw_ 0 (4095 - x) _ h2).mono ?_
   rintro e v2 ⟨rfl, hb⟩
   clear yy0 yy1 yy2 yy3
   have S_3 : Hid (Blk v2 w.heap.size 39 #[.int .i64 x, .int .i64 y, .int .i64 rw_, .int .i64 rh]) := Lib.hid (S_2.out.below hb S_2.out.lt)
   have HB_3 : Hid (Below w.heap.size w v2) := Lib.hid (HB_2.out.trans (hb.mono HB_2.out.size))
   clear hb S_2 HB_2
   have hundef := un_none
   go_wp2_with fail
   go_ret
   exact ⟨rfl, HB_3.out⟩
  case pos =>
   by_cases h3 : 0 <= rh /\ rh <= 4095 - y
   case neg =>
     rw [decide_eq_false (show ¬ R7.ok ⟨x, y, rw_, rh⟩ from fun h => h3 h.2.2)]
     have S_0 : Hid (Blk (w.alloc (.cells #[.int .i64 x, .int .i64 y, .int .i64 rw_, .int .i64 rh] 39)) w.heap.size 39 #[.int .i64 x, .int .i64 y, .int .i64 rw_, .int .i64 rh]) := allocs_blk [(#[.int .i64 x, .int .i64 y, .int .i64 rw_, .int .i64 rh], 39)] w 0 _ rfl
     have HB_0 : Hid (Below w.heap.size w (w.alloc (.cells #[.int .i64 x, .int .i64 y, .int .i64 rw_, .int .i64 rh] 39))) := allocs_below [(#[.int .i64 x, .int .i64 y, .int .i64 rw_, .int .i64 rh], 39)] w (Below.refl w.heap.size w) (Nat.le_refl _)
     go_enter Tryz.func21, Tryz.ntmps21
     have yy0 := S_0.out.cell (i := 0) (v := .int .i64 x) rfl; have yy1 := S_0.out.cell (i := 1) (v := .int .i64 y) rfl; have yy2 := S_0.out.cell (i := 2) (v := .int .i64 rw_) rfl; have yy3 := S_0.out.cell (i := 3) (v := .int .i64 rh) rfl
     go_wp2_with fail
     refine (upper_any ⟨x, y, rw_, rh⟩ _).mono ?_
     rintro e v0 ⟨rfl, hb⟩
     clear yy0 yy1 yy2 yy3
     have S_1 : Hid (Blk v0 w.heap.size 39 #[.int .i64 x, .int .i64 y, .int .i64 rw_, .int .i64 rh]) := Lib.hid (S_0.out.below hb S_0.out.lt)
     have HB_1 : Hid (Below w.heap.size w v0) := Lib.hid (HB_0.out.trans (hb.mono HB_0.out.size))
     clear hb S_0 HB_0
     have yy0 := S_1.out.cell (i := 0) (v := .int .i64 x) rfl; have yy1 := S_1.out.cell (i := 1) (v := .int .i64 y) rfl; have yy2 := S_1.out.cell (i := 2) (v := .int .i64 rw_) rfl; have yy3 := S_1.out.cell (i := 3) (v := .int .i64 rh) rfl
     go_wp2_with fail
     refine (vplace_yes ⟨x, y⟩ _ h1).mono ?_
     rintro e v1 ⟨rfl, hb⟩
     clear yy0 yy1 yy2 yy3
     have S_2 : Hid (Blk v1 w.heap.size 39 #[.int .i64 x, .int .i64 y, .int .i64 rw_, .int .i64 rh]) := Lib.hid (S_1.out.below hb S_1.out.lt)
     have HB_2 : Hid (Below w.heap.size w v1) := Lib.hid (HB_1.out.trans (hb.mono HB_1.out.size))
     clear hb S_1 HB_1
     have e1 : IntKind.i64.wrap (4095 - x) = 4095 - x := IntWalk.i64_in _ (by omega)
     have yy0 := S_2.out.cell (i := 0) (v := .int .i64 x) rfl; have yy1 := S_2.out.cell (i := 1) (v := .int .i64 y) rfl; have yy2 := S_2.out.cell (i := 2) (v := .int .i64 rw_) rfl; have yy3 := S_2.out.cell (i := 3) (v := .int .i64 rh) rfl
     go_wp2_with fail
     refine (isfrom_yes rw_ 0 (4095 - x) _ h2).mono ?_
     rintro e v2 ⟨rfl, hb⟩
     clear yy0 yy1 yy2 yy3
     have S_3 : Hid (Blk v2 w.heap.size 39 #[.int .i64 x, .int .i64 y, .int .i64 rw_, .int .i64 rh]) := Lib.hid (S_2.out.below hb S_2.out.lt)
     have HB_3 : Hid (Below w.heap.size w v2) := Lib.hid (HB_2.out.trans (hb.mono HB_2.out.size))
     clear hb S_2 HB_2
     have e2 : IntKind.i64.wrap (4095 - y) = 4095 - y := IntWalk.i64_in _ (by omega)
     have yy0 := S_3.out.cell (i := 0) (v := .int .i64 x) rfl; have yy1 := S_3.out.cell (i := 1) (v := .int .i64 y) rfl; have yy2 := S_3.out.cell (i := 2) (v := .int .i64 rw_) rfl; have yy3 := S_3.out.cell (i := 3) (v := .int .i64 rh) rfl
     go_wp2_with fail
     refine (isfrom_no rh 0 (4095 - y) _ h3).mono ?_
     rintro e v3 ⟨rfl, hb⟩
     clear yy0 yy1 yy2 yy3
     have S_4 : Hid (Blk v3 w.heap.size 39 #[.int .i64 x, .int .i64 y, .int .i64 rw_, .int .i64 rh]) := Lib.hid (S_3.out.below hb S_3.out.lt)
     have HB_4 : Hid (Below w.heap.size w v3) := Lib.hid (HB_3.out.trans (hb.mono HB_3.out.size))
     clear hb S_3 HB_3
     go_wp2_with fail
     go_ret
     exact ⟨rfl, HB_4.out⟩
   case pos =>
     rw [decide_eq_true (show R7.ok ⟨x, y, rw_, rh⟩ from ⟨h1, h2, h3⟩)]
     have S_0 : Hid (Blk (w.alloc (.cells #[.int .i64 x, .int .i64 y, .int .i64 rw_, .int .i64 rh] 39)) w.heap.size 39 #[.int .i64 x, .int .i64 y, .int .i64 rw_, .int .i64 rh]) := allocs_blk [(#[.int .i64 x, .int .i64 y, .int .i64 rw_, .int .i64 rh], 39)] w 0 _ rfl
     have HB_0 : Hid (Below w.heap.size w (w.alloc (.cells #[.int .i64 x, .int .i64 y, .int .i64 rw_, .int .i64 rh] 39))) := allocs_below [(#[.int .i64 x, .int .i64 y, .int .i64 rw_, .int .i64 rh], 39)] w (Below.refl w.heap.size w) (Nat.le_refl _)
     go_enter Tryz.func21, Tryz.ntmps21
     have yy0 := S_0.out.cell (i := 0) (v := .int .i64 x) rfl; have yy1 := S_0.out.cell (i := 1) (v := .int .i64 y) rfl; have yy2 := S_0.out.cell (i := 2) (v := .int .i64 rw_) rfl; have yy3 := S_0.out.cell (i := 3) (v := .int .i64 rh) rfl
     go_wp2_with fail
     refine (upper_any ⟨x, y, rw_, rh⟩ _).mono ?_
     rintro e v0 ⟨rfl, hb⟩
     clear yy0 yy1 yy2 yy3
     have S_1 : Hid (Blk v0 w.heap.size 39 #[.int .i64 x, .int .i64 y, .int .i64 rw_, .int .i64 rh]) := Lib.hid (S_0.out.below hb S_0.out.lt)
     have HB_1 : Hid (Below w.heap.size w v0) := Lib.hid (HB_0.out.trans (hb.mono HB_0.out.size))
     clear hb S_0 HB_0
     have yy0 := S_1.out.cell (i := 0) (v := .int .i64 x) rfl; have yy1 := S_1.out.cell (i := 1) (v := .int .i64 y) rfl; have yy2 := S_1.out.cell (i := 2) (v := .int .i64 rw_) rfl; have yy3 := S_1.out.cell (i := 3) (v := .int .i64 rh) rfl
     go_wp2_with fail
     refine (vplace_yes ⟨x, y⟩ _ h1).mono ?_
     rintro e v1 ⟨rfl, hb⟩
     clear yy0 yy1 yy2 yy3
     have S_2 : Hid (Blk v1 w.heap.size 39 #[.int .i64 x, .int .i64 y, .int .i64 rw_, .int .i64 rh]) := Lib.hid (S_1.out.below hb S_1.out.lt)
     have HB_2 : Hid (Below w.heap.size w v1) := Lib.hid (HB_1.out.trans (hb.mono HB_1.out.size))
     clear hb S_1 HB_1
     have e1 : IntKind.i64.wrap (4095 - x) = 4095 - x := IntWalk.i64_in _ (by omega)
     have yy0 := S_2.out.cell (i := 0) (v := .int .i64 x) rfl; have yy1 := S_2.out.cell (i := 1) (v := .int .i64 y) rfl; have yy2 := S_2.out.cell (i := 2) (v := .int .i64 rw_) rfl; have yy3 := S_2.out.cell (i := 3) (v := .int .i64 rh) rfl
     go_wp2_with fail
     refine (isfrom_yes rw_ 0 (4095 - x) _ h2).mono ?_
     rintro e v2 ⟨rfl, hb⟩
     clear yy0 yy1 yy2 yy3
     have S_3 : Hid (Blk v2 w.heap.size 39 #[.int .i64 x, .int .i64 y, .int .i64 rw_, .int .i64 rh]) := Lib.hid (S_2.out.below hb S_2.out.lt)
     have HB_3 : Hid (Below w.heap.size w v2) := Lib.hid (HB_2.out.trans (hb.mono HB_2.out.size))
     clear hb S_2 HB_2
     have e2 : IntKind.i64.wrap (4095 - y) = 4095 - y := IntWalk.i64_in _ (by omega)
     have yy0 := S_3.out.cell (i := 0) (v := .int .i64 x) rfl; have yy1 := S_3.out.cell (i := 1) (v := .int .i64 y) rfl; have yy2 := S_3.out.cell (i := 2) (v := .int .i64 rw_) rfl; have yy3 := S_3.out.cell (i := 3) (v := .int .i64 rh) rfl
     go_wp2_with fail
     refine (isfrom_yes rh 0 (4095 - y) _ h3).mono ?_
     rintro e v3 ⟨rfl, hb⟩
     clear yy0 yy1 yy2 yy3
     have S_4 : Hid (Blk v3 w.heap.size 39 #[.int .i64 x, .int .i64 y, .int .i64 rw_, .int .i64 rh]) := Lib.hid (S_3.out.below hb S_3.out.lt)
     have HB_4 : Hid (Below w.heap.size w v3) := Lib.hid (HB_3.out.trans (hb.mono HB_3.out.size))
     clear hb S_3 HB_3
     go_wp2_with fail
     go_ret
     exact ⟨rfl, HB_4.out⟩
theorem vrect_yes (r : R7) (w : World) (h : r.ok) : Yl 21 #[r7v r] w (.bool true) := by
 have := vrect_any r w; rwa [decide_eq_true h] at this
theorem vrect_no (r : R7) (w : World) (h : ¬ r.ok) : Yl 21 #[r7v r] w (.bool false) := by
 have := vrect_any r w; rwa [decide_eq_false h] at this
set_option maxRecDepth 100000 in
set_option maxHeartbeats 8000000 in
theorem arevalid_any (l : List P7) (A : Option Addr) (c : Nat) (w : World) (hA : Pz w A l) (hz : l.length <= 9223372036854775807) : Yl 26 #[.slice A l.length c] w (.bool (decide (∀ p ∈ l, p.ok))) := by
 have HA := Lib.hid hA; clear hA
 go_enter Tryz.func26, Tryz.ntmps26
 go_wp2_with fail
 go_loopw [7] (fun ii wr => ∃ i : Nat, ii = .int .i64 i /\ i <= l.length /\ (∀ j (hj : j < l.length), j < i -> l[j].ok) /\ Below w.heap.size w wr) (fun ii _ => l.length - (intOf ii).toNat)
 case atStart => exact ⟨0, rfl, Nat.zero_le _, fun j _ h => absurd h (by omega), Below.refl _ _⟩
 case round =>
   obtain ⟨i, rfl, hi, hok, hB⟩ := hrel
   have HOK := Lib.hid hok; have HB := Lib.hid hB; clear hok hB
   by_cases hlt : i < l.length
   case neg =>
     obtain rfl : i = l.length := by omega
     have HV : Hid (decide (∀ p ∈ l, p.ok) = true) := Lib.hid (decide_eq_true fun p hp => by
       obtain ⟨j, hj, rfl⟩ := List.getElem_of_mem hp
       exact HOK.out j hj hj)
     clear hlt hi
     go_wp2_with fail
     go_ret
     exact ⟨by rw [HV.out]; rfl, HB.out⟩
   case pos =>
     obtain ⟨b, o, rfl⟩ := HA.out.some (by omega)
     obtain ⟨k0, k1⟩ := Pz.cell HA.out HB.out (Nat.le_refl _) hlt
     have HN2 : Hid (l[i].ok -> ∀ j (hj : j < l.length), j < i + 1 -> l[j].ok) := Lib.hid (fun h j hj hji => by
       by_cases e : j = i
       · subst e; exact h
       · exact HOK.out j hj (by omega))
     have HM : Hid (l[i] ∈ l) := Lib.hid (List.getElem_mem hlt)
     obtain ⟨p, hp⟩ : ∃ p, p = l[i] := ⟨_, rfl⟩
     rw [<- hp] at k0 k1 HN2 HM
     obtain ⟨x, y⟩ := p
     dsimp only at k0 k1
     have q1 : (0 : Int) <= (i : Int) := by omega
     have q2 : (i : Int) < (l.length : Int) := by omega
     have q5 : (i : Int) <= 9223372036854775806 := by omega
     have HI := Lib.hid hlt
     clear hp hlt hi
     have HB2 := Lib.hid (HB.out.alloc HB.out.size (.cells #[.int .i64 x, .int .i64 y] 31))
     have HD := Lib.hid (Blk.new wr 31 #[.int .i64 x, .int .i64 y])
     have d0 := HD.out.cell (i := 0) (v := .int .i64 x) rfl; have d1 := HD.out.cell (i := 1) (v := .int .i64 y) rfl
     go_wp2_with fail
     by_cases hp : P7.ok ⟨x, y⟩
     case pos =>
       refine (vplace_yes ⟨x, y⟩ _ hp).mono ?_
       rintro e v0 ⟨rfl, hb⟩
       have HN3 := Lib.hid (HN2.out hp); have HB3 := Lib.hid (HB2.out.trans (hb.mono HB2.out.size)); clear hp hb d0 d1 k0 k1
       go_wp2_with fail
       go_roundw
       case rel => exact ⟨i + 1, by go_num, HI.out, HN3.out, HB3.out⟩
       case measure => have := HI.out; simp [intOf]; omega
     case neg =>
       refine (vplace_no ⟨x, y⟩ _ hp).mono ?_
       rintro e v0 ⟨rfl, hb⟩
       have HV : Hid (decide (∀ p ∈ l, p.ok) = false) := Lib.hid (decide_eq_false fun h => hp (h _ HM.out))
       have HB3 := Lib.hid (HB2.out.trans (hb.mono HB2.out.size)); clear hp hb d0 d1 k0 k1
       go_wp2_with fail
       go_ret
       exact ⟨by rw [HV.out]; rfl, HB3.out⟩
def Ls7 (l : List P7) : Prop := (1 <= l.length /\ l.length <= 40) /\ ∀ p ∈ l, p.ok
instance decLs7 (l : List P7) : Decidable (Ls7 l) := by unfold Ls7; infer_instance
set_option maxRecDepth 100000 in
set_option maxHeartbeats 8000000 in
theorem islist_any (l : List P7) (A : Option Addr) (c : Nat) (w : World) (hA : Pz w A l) (hz : l.length <= 9223372036854775807) : Yl 24 #[.slice A l.length c] w (.bool (decide (Ls7 l))) := by
 by_cases h1 : 1 <= l.length /\ l.length <= 40
 case neg =>
   rw [decide_eq_false (show ¬ Ls7 l from fun h => h1 h.1)]
   have HC := Lib.hid (fun W => isfrom_no (l.length : Nat) 1 40 W (by omega))
   have hundef := un_none
   clear h1
   go_enter Tryz.func24, Tryz.ntmps24
   go_wp2_with fail
   refine (HC.out _).mono ?_
   rintro e v0 ⟨rfl, hb⟩
   go_wp2_with fail
   go_ret
   exact ⟨rfl, hb⟩
 case pos =>
   rw [show decide (Ls7 l) = decide (∀ p ∈ l, p.ok) from by by_cases h : ∀ p ∈ l, p.ok <;> simp [Ls7, h, h1]]
   have HC := Lib.hid (fun W => isfrom_yes (l.length : Nat) 1 40 W (by omega))
   have HC2 : Hid (∀ W, Below w.heap.size w W -> Yl 26 #[.slice A l.length c] W (.bool (decide (∀ p ∈ l, p.ok)))) := Lib.hid (fun W hW => arevalid_any l A c W (hA.below hW (Nat.le_refl _)) hz)
   clear h1 hA hz
   go_enter Tryz.func24, Tryz.ntmps24
   go_wp2_with fail
   refine (HC.out _).mono ?_
   rintro e v0 ⟨rfl, hb⟩
   go_wp2_with fail
   refine (HC2.out _ hb).mono ?_
   rintro e v1 ⟨rfl, hb1⟩
   have HB := Lib.hid (hb.trans (hb1.mono hb.size)); clear hb hb1
   go_wp2_with fail
   go_ret
   exact ⟨rfl, HB.out⟩
theorem islist_yes (l : List P7) (A : Option Addr) (c : Nat) (w : World) (hA : Pz w A l) (h : Ls7 l) : Yl 24 #[.slice A l.length c] w (.bool true) := by
 have := islist_any l A c w hA (by have := h.1; omega); rwa [decide_eq_true h] at this
theorem islist_no (l : List P7) (A : Option Addr) (c : Nat) (w : World) (hA : Pz w A l) (hz : l.length <= 9223372036854775807) (h : ¬ Ls7 l) : Yl 24 #[.slice A l.length c] w (.bool false) := by
 have := islist_any l A c w hA hz; rwa [decide_eq_false h] at this
theorem all_three (a b c : P7) : (∀ p ∈ [a, b, c], p.ok) ↔ a.ok /\ b.ok /\ c.ok := by simp
theorem all_four (a b c d : P7) : (∀ p ∈ [a, b, c, d], p.ok) ↔ a.ok /\ b.ok /\ c.ok /\ d.ok := by simp
theorem arevalid_three (a b c : P7) (p : Nat) (w : World) (hA : Pz w (some ⟨p, 0, none⟩) [a, b, c]) (v : Bool) (hv : decide (a.ok /\ b.ok /\ c.ok) = v) : Yl 26 #[.slice (some ⟨p, 0, none⟩) 3 3] w (.bool v) := by
 have := arevalid_any [a, b, c] (some ⟨p, 0, none⟩) 3 w hA (by simp)
 rwa [show decide (∀ p ∈ [a, b, c], p.ok) = v from by rw [<- hv]; exact decide_eq_decide.2 (all_three a b c)] at this
theorem arevalid_four (a b c d : P7) (p : Nat) (w : World) (hA : Pz w (some ⟨p, 0, none⟩) [a, b, c, d]) (v : Bool) (hv : decide (a.ok /\ b.ok /\ c.ok /\ d.ok) = v) : Yl 26 #[.slice (some ⟨p, 0, none⟩) 4 4] w (.bool v) := by
 have := arevalid_any [a, b, c, d] (some ⟨p, 0, none⟩) 4 w hA (by simp)
 rwa [show decide (∀ p ∈ [a, b, c, d], p.ok) = v from by rw [<- hv]; exact decide_eq_decide.2 (all_four a b c d)] at this
theorem fr7_sm {a b : P7} (ha : a.ok) (hb : b.ok) : (fr7 a b).sm := by unfold P7.ok at ha hb; unfold P7.sm Sm7 fr7; simp only; omega
set_option maxRecDepth 100000 in
set_option maxHeartbeats 8000000 in
theorem side_any (a b c : P7) (w : World) : Yl 10 #[p7v a, p7v b, p7v c] w (.int .i64 (sd7 a b c)) := by
 by_cases hv : a.ok /\ b.ok /\ c.ok
 case neg =>
   rw [show sd7 a b c = 0 from if_neg hv]
   have S_0 : Hid (Blk (((w.alloc (.cells #[.int .i64 a.x, .int .i64 a.y] 31)).alloc (.cells #[.int .i64 b.x, .int .i64 b.y] 31)).alloc (.cells #[.int .i64 c.x, .int .i64 c.y] 31)) w.heap.size 31 #[.int .i64 a.x, .int .i64 a.y]) := allocs_blk [(#[.int .i64 a.x, .int .i64 a.y], 31), (#[.int .i64 b.x, .int .i64 b.y], 31), (#[.int .i64 c.x, .int .i64 c.y], 31)] w 0 _ rfl
   have T_0 : Hid (Blk (((w.alloc (.cells #[.int .i64 a.x, .int .i64 a.y] 31)).alloc (.cells #[.int .i64 b.x, .int .i64 b.y] 31)).alloc (.cells #[.int .i64 c.x, .int .i64 c.y] 31)) (w.heap.size + 1) 31 #[.int .i64 b.x, .int .i64 b.y]) := allocs_blk [(#[.int .i64 a.x, .int .i64 a.y], 31), (#[.int .i64 b.x, .int .i64 b.y], 31), (#[.int .i64 c.x, .int .i64 c.y], 31)] w 1 _ rfl
   have U_0 : Hid (Blk (((w.alloc (.cells #[.int .i64 a.x, .int .i64 a.y] 31)).alloc (.cells #[.int .i64 b.x, .int .i64 b.y] 31)).alloc (.cells #[.int .i64 c.x, .int .i64 c.y] 31)) (w.heap.size + 2) 31 #[.int .i64 c.x, .int .i64 c.y]) := allocs_blk [(#[.int .i64 a.x, .int .i64 a.y], 31), (#[.int .i64 b.x, .int .i64 b.y], 31), (#[.int .i64 c.x, .int .i64 c.y], 31)] w 2 _ rfl
   have HB_0 : Hid (Below w.heap.size w (((w.alloc (.cells #[.int .i64 a.x, .int .i64 a.y] 31)).alloc (.cells #[.int .i64 b.x, .int .i64 b.y] 31)).alloc (.cells #[.int .i64 c.x, .int .i64 c.y] 31))) := allocs_below [(#[.int .i64 a.x, .int .i64 a.y], 31), (#[.int .i64 b.x, .int .i64 b.y], 31), (#[.int .i64 c.x, .int .i64 c.y], 31)] w (Below.refl w.heap.size w) (Nat.le_refl _)
   go_enter Tryz.func10, Tryz.ntmps10
   have yy0 := S_0.out.cell (i := 0) (v := .int .i64 a.x) rfl; have yy1 := S_0.out.cell (i := 1) (v := .int .i64 a.y) rfl
   have yy2 := T_0.out.cell (i := 0) (v := .int .i64 b.x) rfl; have yy3 := T_0.out.cell (i := 1) (v := .int .i64 b.y) rfl
   have yy4 := U_0.out.cell (i := 0) (v := .int .i64 c.x) rfl; have yy5 := U_0.out.cell (i := 1) (v := .int .i64 c.y) rfl
   have HN : Hid (Pz ((((w.alloc (.cells #[.int .i64 a.x, .int .i64 a.y] 31)).alloc (.cells #[.int .i64 b.x, .int .i64 b.y] 31)).alloc (.cells #[.int .i64 c.x, .int .i64 c.y] 31)).alloc (.cells #[.int .i64 a.x, .int .i64 a.y, .int .i64 b.x, .int .i64 b.y, .int .i64 c.x, .int .i64 c.y] 31)) (some ⟨w.heap.size + 3, 0, none⟩) [a, b, c]) := Lib.hid (pz_of (l := [a, b, c]) (allocs_blk [(#[.int .i64 a.x, .int .i64 a.y], 31), (#[.int .i64 b.x, .int .i64 b.y], 31), (#[.int .i64 c.x, .int .i64 c.y], 31), (#[.int .i64 a.x, .int .i64 a.y, .int .i64 b.x, .int .i64 b.y, .int .i64 c.x, .int .i64 c.y], 31)] w 3 _ rfl))
   go_wp2_with fail
   refine (arevalid_three a b c _ _ HN.out false (decide_eq_false hv)).mono ?_
   rintro e v0 ⟨rfl, hb1⟩
   have hb := ((Below.refl (((w.alloc (.cells #[.int .i64 a.x, .int .i64 a.y] 31)).alloc (.cells #[.int .i64 b.x, .int .i64 b.y] 31)).alloc (.cells #[.int .i64 c.x, .int .i64 c.y] 31)).heap.size (((w.alloc (.cells #[.int .i64 a.x, .int .i64 a.y] 31)).alloc (.cells #[.int .i64 b.x, .int .i64 b.y] 31)).alloc (.cells #[.int .i64 c.x, .int .i64 c.y] 31))).alloc (Nat.le_refl _) _).trans (hb1.mono (by simp)); clear hb1 HN
   clear yy0 yy1 yy2 yy3 yy4 yy5
   have S_1 : Hid (Blk v0 w.heap.size 31 #[.int .i64 a.x, .int .i64 a.y]) := Lib.hid (S_0.out.below hb S_0.out.lt)
   have T_1 : Hid (Blk v0 (w.heap.size + 1) 31 #[.int .i64 b.x, .int .i64 b.y]) := Lib.hid (T_0.out.below hb T_0.out.lt)
   have U_1 : Hid (Blk v0 (w.heap.size + 2) 31 #[.int .i64 c.x, .int .i64 c.y]) := Lib.hid (U_0.out.below hb U_0.out.lt)
   have HB_1 : Hid (Below w.heap.size w v0) := Lib.hid (HB_0.out.trans (hb.mono HB_0.out.size))
   clear hb S_0 T_0 U_0 HB_0
   go_wp2_with fail
   go_ret
   exact ⟨rfl, HB_1.out⟩
 case pos =>
   rw [show sd7 a b c = sg7 (turn7 a b c) from if_pos hv]
   have ha := hv.1.sm; have hb0 := hv.2.1.sm; have hc := hv.2.2.sm
   have h1 := fr7_sm hv.1 hv.2.1; have h2 := fr7_sm hv.1 hv.2.2
   have S_0 : Hid (Blk (((w.alloc (.cells #[.int .i64 a.x, .int .i64 a.y] 31)).alloc (.cells #[.int .i64 b.x, .int .i64 b.y] 31)).alloc (.cells #[.int .i64 c.x, .int .i64 c.y] 31)) w.heap.size 31 #[.int .i64 a.x, .int .i64 a.y]) := allocs_blk [(#[.int .i64 a.x, .int .i64 a.y], 31), (#[.int .i64 b.x, .int .i64 b.y], 31), (#[.int .i64 c.x, .int .i64 c.y], 31)] w 0 _ rfl
   have T_0 : Hid (Blk (((w.alloc (.cells #[.int .i64 a.x, .int .i64 a.y] 31)).alloc (.cells #[.int .i64 b.x, .int .i64 b.y] 31)).alloc (.cells #[.int .i64 c.x, .int .i64 c.y] 31)) (w.heap.size + 1) 31 #[.int .i64 b.x, .int .i64 b.y]) := allocs_blk [(#[.int .i64 a.x, .int .i64 a.y], 31), (#[.int .i64 b.x, .int .i64 b.y], 31), (#[.int .i64 c.x, .int .i64 c.y], 31)] w 1 _ rfl
   have U_0 : Hid (Blk (((w.alloc (.cells #[.int .i64 a.x, .int .i64 a.y] 31)).alloc (.cells #[.int .i64 b.x, .int .i64 b.y] 31)).alloc (.cells #[.int .i64 c.x, .int .i64 c.y] 31)) (w.heap.size + 2) 31 #[.int .i64 c.x, .int .i64 c.y]) := allocs_blk [(#[.int .i64 a.x, .int .i64 a.y], 31), (#[.int .i64 b.x, .int .i64 b.y], 31), (#[.int .i64 c.x, .int .i64 c.y], 31)] w 2 _ rfl
   have HB_0 : Hid (Below w.heap.size w (((w.alloc (.cells #[.int .i64 a.x, .int .i64 a.y] 31)).alloc (.cells #[.int .i64 b.x, .int .i64 b.y] 31)).alloc (.cells #[.int .i64 c.x, .int .i64 c.y] 31))) := allocs_below [(#[.int .i64 a.x, .int .i64 a.y], 31), (#[.int .i64 b.x, .int .i64 b.y], 31), (#[.int .i64 c.x, .int .i64 c.y], 31)] w (Below.refl w.heap.size w) (Nat.le_refl _)
   go_enter Tryz.func10, Tryz.ntmps10
   have yy0 := S_0.out.cell (i := 0) (v := .int .i64 a.x) rfl; have yy1 := S_0.out.cell (i := 1) (v := .int .i64 a.y) rfl
   have yy2 := T_0.out.cell (i := 0) (v := .int .i64 b.x) rfl; have yy3 := T_0.out.cell (i := 1) (v := .int .i64 b.y) rfl
   have yy4 := U_0.out.cell (i := 0) (v := .int .i64 c.x) rfl; have yy5 := U_0.out.cell (i := 1) (v := .int .i64 c.y) rfl
   have HN : Hid (Pz ((((w.alloc (.cells #[.int .i64 a.x, .int .i64 a.y] 31)).alloc (.cells #[.int .i64 b.x, .int .i64 b.y] 31)).alloc (.cells #[.int .i64 c.x, .int .i64 c.y] 31)).alloc (.cells #[.int .i64 a.x, .int .i64 a.y, .int .i64 b.x, .int .i64 b.y, .int .i64 c.x, .int .i64 c.y] 31)) (some ⟨w.heap.size + 3, 0, none⟩) [a, b, c]) := Lib.hid (pz_of (l := [a, b, c]) (allocs_blk [(#[.int .i64 a.x, .int .i64 a.y], 31), (#[.int .i64 b.x, .int .i64 b.y], 31), (#[.int .i64 c.x, .int .i64 c.y], 31), (#[.int .i64 a.x, .int .i64 a.y, .int .i64 b.x, .int .i64 b.y, .int .i64 c.x, .int .i64 c.y], 31)] w 3 _ rfl))
   go_wp2_with fail
   refine (arevalid_three a b c _ _ HN.out true (decide_eq_true hv)).mono ?_
   rintro e v0 ⟨rfl, hb1⟩
   have hb := ((Below.refl (((w.alloc (.cells #[.int .i64 a.x, .int .i64 a.y] 31)).alloc (.cells #[.int .i64 b.x, .int .i64 b.y] 31)).alloc (.cells #[.int .i64 c.x, .int .i64 c.y] 31)).heap.size (((w.alloc (.cells #[.int .i64 a.x, .int .i64 a.y] 31)).alloc (.cells #[.int .i64 b.x, .int .i64 b.y] 31)).alloc (.cells #[.int .i64 c.x, .int .i64 c.y] 31))).alloc (Nat.le_refl _) _).trans (hb1.mono (by simp)); clear hb1 HN
   clear yy0 yy1 yy2 yy3 yy4 yy5
   have S_1 : Hid (Blk v0 w.heap.size 31 #[.int .i64 a.x, .int .i64 a.y]) := Lib.hid (S_0.out.below hb S_0.out.lt)
   have T_1 : Hid (Blk v0 (w.heap.size + 1) 31 #[.int .i64 b.x, .int .i64 b.y]) := Lib.hid (T_0.out.below hb T_0.out.lt)
   have U_1 : Hid (Blk v0 (w.heap.size + 2) 31 #[.int .i64 c.x, .int .i64 c.y]) := Lib.hid (U_0.out.below hb U_0.out.lt)
   have HB_1 : Hid (Below w.heap.size w v0) := Lib.hid (HB_0.out.trans (hb.mono HB_0.out.size))
   clear hb S_0 T_0 U_0 HB_0
   go_wp2_with fail
   refine wp_region_grow (S := (fun w' => w'.cell? ⟨w.heap.size, 0, none⟩ = some (.int .i64 a.x) /\ w'.cell? ⟨w.heap.size, 1, none⟩ = some (.int .i64 a.y) /\ w'.cell? ⟨(w.heap.size + 1), 0, none⟩ = some (.int .i64 b.x) /\ w'.cell? ⟨(w.heap.size + 1), 1, none⟩ = some (.int .i64 b.y) /\ w'.cell? ⟨(w.heap.size + 2), 0, none⟩ = some (.int .i64 c.x) /\ w'.cell? ⟨(w.heap.size + 2), 1, none⟩ = some (.int .i64 c.y))) ((fun w' => Below v0.heap.size v0 w')) (by kernel_rfl) (⟨fun w2 h2 => ⟨(S_1.out.below h2 S_1.out.lt).cell (i := 0) (v := .int .i64 a.x) rfl, (S_1.out.below h2 S_1.out.lt).cell (i := 1) (v := .int .i64 a.y) rfl, (T_1.out.below h2 T_1.out.lt).cell (i := 0) (v := .int .i64 b.x) rfl, (T_1.out.below h2 T_1.out.lt).cell (i := 1) (v := .int .i64 b.y) rfl, (U_1.out.below h2 U_1.out.lt).cell (i := 0) (v := .int .i64 c.x) rfl, (U_1.out.below h2 U_1.out.lt).cell (i := 1) (v := .int .i64 c.y) rfl⟩, fun w2 w3 h2 hb2 => h2.trans (hb2.mono h2.size)⟩) ((Below.refl v0.heap.size v0).drew) (fun hCalm => ?_)
   refine grow_take 0 (some 13) ?_ rfl rfl (by kernel_rfl) (fun _ _ _ h => h) (by kernel_rfl) hCalm ?_ ?_
   rotate_left
   · intro wS hS; (try dsimp only at hS); go_simp <;> with_reducible rfl
   try simp only [Act.put, q8a, q8b, q8c]
   refine grow_take 1 (some 14) ?_ rfl rfl (by kernel_rfl) (fun _ _ _ h => h) (by kernel_rfl) hCalm ?_ ?_
   rotate_left
   · intro wS hS; (try dsimp only at hS); go_simp <;> with_reducible rfl
   try simp only [Act.put, q8a, q8b, q8c]
   refine grow_take 3 (some 16) ?_ rfl rfl (by kernel_rfl) (fun _ _ _ h => h) (by kernel_rfl) hCalm ?_ ?_
   rotate_left
   · intro wS hS; (try dsimp only at hS); go_simp <;> with_reducible rfl
   try simp only [Act.put, q8a, q8b, q8c]
   refine grow_take 4 (some 17) ?_ rfl rfl (by kernel_rfl) (fun _ _ _ h => h) (by kernel_rfl) hCalm ?_ ?_
   rotate_left
   · intro wS hS; (try dsimp only at hS); go_simp <;> with_reducible rfl
   try simp only [Act.put, q8a, q8b, q8c]
   refine grow_call 2 (some 15) (p7v (fr7 a b)) 29 [.tmp 13, .tmp 14] #[31, 31] rfl rfl (by kernel_rfl) (fun _ _ _ h => h) (by kernel_rfl) hCalm rfl (enters_of Tryz.func29 (by kernel_rfl) rfl) (fun wz _ => pfr_any a b wz ha hb0) (by kernel_rfl) ?_
   try simp only [Act.put, q8a, q8b, q8c]
   refine grow_call 5 (some 18) (p7v (fr7 a c)) 29 [.tmp 16, .tmp 17] #[31, 31] rfl rfl (by kernel_rfl) (fun _ _ _ h => h) (by kernel_rfl) hCalm rfl (enters_of Tryz.func29 (by kernel_rfl) rfl) (fun wz _ => pfr_any a c wz ha hc) (by kernel_rfl) ?_
   try simp only [Act.put, q8a, q8b, q8c]
   refine grow_call 6 (some 19) (.int .i64 (turn7 a b c)) 28 [.tmp 15, .tmp 18] #[31, 31] rfl rfl (by kernel_rfl) (fun _ _ _ h => h) (by kernel_rfl) hCalm rfl (enters_of Tryz.func28 (by kernel_rfl) rfl) (fun wz _ => across_any (fr7 a b) (fr7 a c) wz h1 h2) (by kernel_rfl) ?_
   try simp only [Act.put, q8a, q8b, q8c]
   refine grow_call 7 (some 20) (.int .i64 (sg7 (turn7 a b c))) 27 [.tmp 19] #[3] rfl rfl (by kernel_rfl) (fun _ _ _ h => h) (by kernel_rfl) hCalm rfl (enters_of Tryz.func27 (by kernel_rfl) rfl) (fun wz _ => sign_any (turn7 a b c) wz) (by kernel_rfl) ?_
   try simp only [Act.put, q8a, q8b, q8c]
   refine grow_take 8 (some 6) ?_ rfl rfl (by kernel_rfl) (fun _ _ _ h => h) (by kernel_rfl) hCalm ?_ ?_
   rotate_left
   · intro wS hS; (try dsimp only at hS); go_simp <;> with_reducible rfl
   try simp only [Act.put, q8a, q8b, q8c]
   refine grow_done (by kernel_rfl) (fun wA hA => ?_) _
   obtain ⟨v1, hv1⟩ : ∃ x, x = wA := ⟨_, rfl⟩
   rw [<- hv1] at hA ⊢
   clear hv1
   have hb := hA; clear hA hCalm
   have S_2 : Hid (Blk v1 w.heap.size 31 #[.int .i64 a.x, .int .i64 a.y]) := Lib.hid (S_1.out.below hb S_1.out.lt)
   have T_2 : Hid (Blk v1 (w.heap.size + 1) 31 #[.int .i64 b.x, .int .i64 b.y]) := Lib.hid (T_1.out.below hb T_1.out.lt)
   have U_2 : Hid (Blk v1 (w.heap.size + 2) 31 #[.int .i64 c.x, .int .i64 c.y]) := Lib.hid (U_1.out.below hb U_1.out.lt)
   have HB_2 : Hid (Below w.heap.size w v1) := Lib.hid (HB_1.out.trans (hb.mono HB_1.out.size))
   clear hb S_1 T_1 U_1 HB_1
   go_wp2_with fail
   go_ret
   exact ⟨rfl, HB_2.out⟩
set_option maxRecDepth 100000 in
set_option maxHeartbeats 8000000 in
theorem touch_any (a b : R7) (w : World) : Yl 13 #[r7v a, r7v b] w (.bool (tc7 a b)) := by
 by_cases ha : a.ok
 case neg =>
   rw [show tc7 a b = false from by unfold tc7; rw [decide_eq_false (fun h => ha h.1)]; rfl]
   have S_0 : Hid (Blk ((w.alloc (.cells #[.int .i64 a.x, .int .i64 a.y, .int .i64 a.w, .int .i64 a.h] 39)).alloc (.cells #[.int .i64 b.x, .int .i64 b.y, .int .i64 b.w, .int .i64 b.h] 39)) w.heap.size 39 #[.int .i64 a.x, .int .i64 a.y, .int .i64 a.w, .int .i64 a.h]) := allocs_blk [(#[.int .i64 a.x, .int .i64 a.y, .int .i64 a.w, .int .i64 a.h], 39), (#[.int .i64 b.x, .int .i64 b.y, .int .i64 b.w, .int .i64 b.h], 39)] w 0 _ rfl
   have T_0 : Hid (Blk ((w.alloc (.cells #[.int .i64 a.x, .int .i64 a.y, .int .i64 a.w, .int .i64 a.h] 39)).alloc (.cells #[.int .i64 b.x, .int .i64 b.y, .int .i64 b.w, .int .i64 b.h] 39)) (w.heap.size + 1) 39 #[.int .i64 b.x, .int .i64 b.y, .int .i64 b.w, .int .i64 b.h]) := allocs_blk [(#[.int .i64 a.x, .int .i64 a.y, .int .i64 a.w, .int .i64 a.h], 39), (#[.int .i64 b.x, .int .i64 b.y, .int .i64 b.w, .int .i64 b.h], 39)] w 1 _ rfl
   have HB_0 : Hid (Below w.heap.size w ((w.alloc (.cells #[.int .i64 a.x, .int .i64 a.y, .int .i64 a.w, .int .i64 a.h] 39)).alloc (.cells #[.int .i64 b.x, .int .i64 b.y, .int .i64 b.w, .int .i64 b.h] 39))) := allocs_below [(#[.int .i64 a.x, .int .i64 a.y, .int .i64 a.w, .int .i64 a.h], 39), (#[.int .i64 b.x, .int .i64 b.y, .int .i64 b.w, .int .i64 b.h], 39)] w (Below.refl w.heap.size w) (Nat.le_refl _)
   go_enter Tryz.func13, Tryz.ntmps13
   have yy0 := S_0.out.cell (i := 0) (v := .int .i64 a.x) rfl; have yy1 := S_0.out.cell (i := 1) (v := .int .i64 a.y) rfl; have yy2 := S_0.out.cell (i := 2) (v := .int .i64 a.w) rfl; have yy3 := S_0.out.cell (i := 3) (v := .int .i64 a.h) rfl
   have yy4 := T_0.out.cell (i := 0) (v := .int .i64 b.x) rfl; have yy5 := T_0.out.cell (i := 1) (v := .int .i64 b.y) rfl; have yy6 := T_0.out.cell (i := 2) (v := .int .i64 b.w) rfl; have yy7 := T_0.out.cell (i := 3) (v := .int .i64 b.h) rfl
   go_wp2_with fail
   refine (vrect_no a _ ha).mono ?_
   rintro e v0 ⟨rfl, hb⟩
   clear yy0 yy1 yy2 yy3 yy4 yy5 yy6 yy7
   have S_1 : Hid (Blk v0 w.heap.size 39 #[.int .i64 a.x, .int .i64 a.y, .int .i64 a.w, .int .i64 a.h]) := Lib.hid (S_0.out.below hb S_0.out.lt)
   have T_1 : Hid (Blk v0 (w.heap.size + 1) 39 #[.int .i64 b.x, .int .i64 b.y, .int .i64 b.w, .int .i64 b.h]) := Lib.hid (T_0.out.below hb T_0.out.lt)
   have HB_1 : Hid (Below w.heap.size w v0) := Lib.hid (HB_0.out.trans (hb.mono HB_0.out.size))
   clear hb S_0 T_0 HB_0
   have hundef := un_none
   go_wp2_with fail
   go_ret
   exact ⟨rfl, HB_1.out⟩
 case pos =>
  by_cases hb0 : b.ok
  case neg =>
   rw [show tc7 a b = false from by unfold tc7; rw [decide_eq_false (fun h => hb0 h.2)]; rfl]
   have S_0 : Hid (Blk ((w.alloc (.cells #[.int .i64 a.x, .int .i64 a.y, .int .i64 a.w, .int .i64 a.h] 39)).alloc (.cells #[.int .i64 b.x, .int .i64 b.y, .int .i64 b.w, .int .i64 b.h] 39)) w.heap.size 39 #[.int .i64 a.x, .int .i64 a.y, .int .i64 a.w, .int .i64 a.h]) := allocs_blk [(#[.int .i64 a.x, .int .i64 a.y, .int .i64 a.w, .int .i64 a.h], 39), (#[.int .i64 b.x, .int .i64 b.y, .int .i64 b.w, .int .i64 b.h], 39)] w 0 _ rfl
   have T_0 : Hid (Blk ((w.alloc (.cells #[.int .i64 a.x, .int .i64 a.y, .int .i64 a.w, .int .i64 a.h] 39)).alloc (.cells #[.int .i64 b.x, .int .i64 b.y, .int .i64 b.w, .int .i64 b.h] 39)) (w.heap.size + 1) 39 #[.int .i64 b.x, .int .i64 b.y, .int .i64 b.w, .int .i64 b.h]) := allocs_blk [(#[.int .i64 a.x, .int .i64 a.y, .int .i64 a.w, .int .i64 a.h], 39), (#[.int .i64 b.x, .int .i64 b.y, .int .i64 b.w, .int .i64 b.h], 39)] w 1 _ rfl
   have HB_0 : Hid (Below w.heap.size w ((w.alloc (.cells #[.int .i64 a.x, .int .i64 a.y, .int .i64 a.w, .int .i64 a.h] 39)).alloc (.cells #[.int .i64 b.x, .int .i64 b.y, .int .i64 b.w, .int .i64 b.h] 39))) := allocs_below [(#[.int .i64 a.x, .int .i64 a.y, .int .i64 a.w, .int .i64 a.h], 39), (#[.int .i64 b.x, .int .i64 b.y, .int .i64 b.w, .int .i64 b.h], 39)] w (Below.refl w.heap.size w) (Nat.le_refl _)
   go_enter Tryz.func13, Tryz.ntmps13
   have yy0 := S_0.out.cell (i := 0) (v := .int .i64 a.x) rfl; have yy1 := S_0.out.cell (i := 1) (v := .int .i64 a.y) rfl; have yy2 := S_0.out.cell (i := 2) (v := .int .i64 a.w) rfl; have yy3 := S_0.out.cell (i := 3) (v := .int .i64 a.h) rfl
   have yy4 := T_0.out.cell (i := 0) (v := .int .i64 b.x) rfl; have yy5 := T_0.out.cell (i := 1) (v := .int .i64 b.y) rfl; have yy6 := T_0.out.cell (i := 2) (v := .int .i64 b.w) rfl; have yy7 := T_0.out.cell (i := 3) (v := .int .i64 b.h) rfl
   go_wp2_with fail
   refine (vrect_yes a _ ha).mono ?_
   rintro e v0 ⟨rfl, hb⟩
   clear yy0 yy1 yy2 yy3 yy4 yy5 yy6 yy7
   have S_1 : Hid (Blk v0 w.heap.size 39 #[.int .i64 a.x, .int .i64 a.y, .int .i64 a.w, .int .i64 a.h]) := Lib.hid (S_0.out.below hb S_0.out.lt)
   have T_1 : Hid (Blk v0 (w.heap.size + 1) 39 #[.int .i64 b.x, .int .i64 b.y, .int .i64 b.w, .int .i64 b.h]) := Lib.hid (T_0.out.below hb T_0.out.lt)
   have HB_1 : Hid (Below w.heap.size w v0) := Lib.hid (HB_0.out.trans (hb.mono HB_0.out.size))
   clear hb S_0 T_0 HB_0
   have yy0 := S_1.out.cell (i := 0) (v := .int .i64 a.x) rfl; have yy1 := S_1.out.cell (i := 1) (v := .int .i64 a.y) rfl; have yy2 := S_1.out.cell (i := 2) (v := .int .i64 a.w) rfl; have yy3 := S_1.out.cell (i := 3) (v := .int .i64 a.h) rfl
   have yy4 := T_1.out.cell (i := 0) (v := .int .i64 b.x) rfl; have yy5 := T_1.out.cell (i := 1) (v := .int .i64 b.y) rfl; have yy6 := T_1.out.cell (i := 2) (v := .int .i64 b.w) rfl; have yy7 := T_1.out.cell (i := 3) (v := .int .i64 b.h) rfl
   go_wp2_with fail
   refine (vrect_no b _ hb0).mono ?_
   rintro e v1 ⟨rfl, hb⟩
   clear yy0 yy1 yy2 yy3 yy4 yy5 yy6 yy7
   have S_2 : Hid (Blk v1 w.heap.size 39 #[.int .i64 a.x, .int .i64 a.y, .int .i64 a.w, .int .i64 a.h]) := Lib.hid (S_1.out.below hb S_1.out.lt)
   have T_2 : Hid (Blk v1 (w.heap.size + 1) 39 #[.int .i64 b.x, .int .i64 b.y, .int .i64 b.w, .int .i64 b.h]) := Lib.hid (T_1.out.below hb T_1.out.lt)
   have HB_2 : Hid (Below w.heap.size w v1) := Lib.hid (HB_1.out.trans (hb.mono HB_1.out.size))
   clear hb S_1 T_1 HB_1
   go_wp2_with fail
   go_ret
   exact ⟨rfl, HB_2.out⟩
  case pos =>
   rw [show tc7 a b = (!bf7 (lr7 a) (ul7 b) && !bf7 (lr7 b) (ul7 a)) from by unfold tc7; rw [decide_eq_true ⟨ha, hb0⟩, Bool.true_and]]
   cases hf1 : bf7 (lr7 a) (ul7 b)
   case true =>
     have S_0 : Hid (Blk ((w.alloc (.cells #[.int .i64 a.x, .int .i64 a.y, .int .i64 a.w, .int .i64 a.h] 39)).alloc (.cells #[.int .i64 b.x, .int .i64 b.y, .int .i64 b.w, .int .i64 b.h] 39)) w.heap.size 39 #[.int .i64 a.x, .int .i64 a.y, .int .i64 a.w, .int .i64 a.h]) := allocs_blk [(#[.int .i64 a.x, .int .i64 a.y, .int .i64 a.w, .int .i64 a.h], 39), (#[.int .i64 b.x, .int .i64 b.y, .int .i64 b.w, .int .i64 b.h], 39)] w 0 _ rfl
     have T_0 : Hid (Blk ((w.alloc (.cells #[.int .i64 a.x, .int .i64 a.y, .int .i64 a.w, .int .i64 a.h] 39)).alloc (.cells #[.int .i64 b.x, .int .i64 b.y, .int .i64 b.w, .int .i64 b.h] 39)) (w.heap.size + 1) 39 #[.int .i64 b.x, .int .i64 b.y, .int .i64 b.w, .int .i64 b.h]) := allocs_blk [(#[.int .i64 a.x, .int .i64 a.y, .int .i64 a.w, .int .i64 a.h], 39), (#[.int .i64 b.x, .int .i64 b.y, .int .i64 b.w, .int .i64 b.h], 39)] w 1 _ rfl
     have HB_0 : Hid (Below w.heap.size w ((w.alloc (.cells #[.int .i64 a.x, .int .i64 a.y, .int .i64 a.w, .int .i64 a.h] 39)).alloc (.cells #[.int .i64 b.x, .int .i64 b.y, .int .i64 b.w, .int .i64 b.h] 39))) := allocs_below [(#[.int .i64 a.x, .int .i64 a.y, .int .i64 a.w, .int .i64 a.h], 39), (#[.int .i64 b.x, .int .i64 b.y, .int .i64 b.w, .int .i64 b.h], 39)] w (Below.refl w.heap.size w) (Nat.le_refl _)
     go_enter Tryz.func13, Tryz.ntmps13
     have yy0 := S_0.out.cell (i := 0) (v := .int .i64 a.x) rfl; have yy1 := S_0.out.cell (i := 1) (v := .int .i64 a.y) rfl; have yy2 := S_0.out.cell (i := 2) (v := .int .i64 a.w) rfl; have yy3 := S_0.out.cell (i := 3) (v := .int .i64 a.h) rfl
     have yy4 := T_0.out.cell (i := 0) (v := .int .i64 b.x) rfl; have yy5 := T_0.out.cell (i := 1) (v := .int .i64 b.y) rfl; have yy6 := T_0.out.cell (i := 2) (v := .int .i64 b.w) rfl; have yy7 := T_0.out.cell (i := 3) (v := .int .i64 b.h) rfl
     go_wp2_with fail
     refine (vrect_yes a _ ha).mono ?_
     rintro e v0 ⟨rfl, hb⟩
     clear yy0 yy1 yy2 yy3 yy4 yy5 yy6 yy7
     have S_1 : Hid (Blk v0 w.heap.size 39 #[.int .i64 a.x, .int .i64 a.y, .int .i64 a.w, .int .i64 a.h]) := Lib.hid (S_0.out.below hb S_0.out.lt)
     have T_1 : Hid (Blk v0 (w.heap.size + 1) 39 #[.int .i64 b.x, .int .i64 b.y, .int .i64 b.w, .int .i64 b.h]) := Lib.hid (T_0.out.below hb T_0.out.lt)
     have HB_1 : Hid (Below w.heap.size w v0) := Lib.hid (HB_0.out.trans (hb.mono HB_0.out.size))
     clear hb S_0 T_0 HB_0
     have yy0 := S_1.out.cell (i := 0) (v := .int .i64 a.x) rfl; have yy1 := S_1.out.cell (i := 1) (v := .int .i64 a.y) rfl; have yy2 := S_1.out.cell (i := 2) (v := .int .i64 a.w) rfl; have yy3 := S_1.out.cell (i := 3) (v := .int .i64 a.h) rfl
     have yy4 := T_1.out.cell (i := 0) (v := .int .i64 b.x) rfl; have yy5 := T_1.out.cell (i := 1) (v := .int .i64 b.y) rfl; have yy6 := T_1.out.cell (i := 2) (v := .int .i64 b.w) rfl; have yy7 := T_1.out.cell (i := 3) (v := .int .i64 b.h) rfl
     go_wp2_with fail
     refine (vrect_yes b _ hb0).mono ?_
     rintro e v1 ⟨rfl, hb⟩
     clear yy0 yy1 yy2 yy3 yy4 yy5 yy6 yy7
     have S_2 : Hid (Blk v1 w.heap.size 39 #[.int .i64 a.x, .int .i64 a.y, .int .i64 a.w, .int .i64 a.h]) := Lib.hid (S_1.out.below hb S_1.out.lt)
     have T_2 : Hid (Blk v1 (w.heap.size + 1) 39 #[.int .i64 b.x, .int .i64 b.y, .int .i64 b.w, .int .i64 b.h]) := Lib.hid (T_1.out.below hb T_1.out.lt)
     have HB_2 : Hid (Below w.heap.size w v1) := Lib.hid (HB_1.out.trans (hb.mono HB_1.out.size))
     clear hb S_1 T_1 HB_1
     go_wp2_with fail
     refine wp_region_grow (S := (fun w' => w'.cell? ⟨w.heap.size, 0, none⟩ = some (.int .i64 a.x) /\ w'.cell? ⟨w.heap.size, 1, none⟩ = some (.int .i64 a.y) /\ w'.cell? ⟨w.heap.size, 2, none⟩ = some (.int .i64 a.w) /\ w'.cell? ⟨w.heap.size, 3, none⟩ = some (.int .i64 a.h) /\ w'.cell? ⟨(w.heap.size + 1), 0, none⟩ = some (.int .i64 b.x) /\ w'.cell? ⟨(w.heap.size + 1), 1, none⟩ = some (.int .i64 b.y) /\ w'.cell? ⟨(w.heap.size + 1), 2, none⟩ = some (.int .i64 b.w) /\ w'.cell? ⟨(w.heap.size + 1), 3, none⟩ = some (.int .i64 b.h))) ((fun w' => Below v1.heap.size v1 w')) (by kernel_rfl) (⟨fun w2 h2 => ⟨(S_2.out.below h2 S_2.out.lt).cell (i := 0) (v := .int .i64 a.x) rfl, (S_2.out.below h2 S_2.out.lt).cell (i := 1) (v := .int .i64 a.y) rfl, (S_2.out.below h2 S_2.out.lt).cell (i := 2) (v := .int .i64 a.w) rfl, (S_2.out.below h2 S_2.out.lt).cell (i := 3) (v := .int .i64 a.h) rfl, (T_2.out.below h2 T_2.out.lt).cell (i := 0) (v := .int .i64 b.x) rfl, (T_2.out.below h2 T_2.out.lt).cell (i := 1) (v := .int .i64 b.y) rfl, (T_2.out.below h2 T_2.out.lt).cell (i := 2) (v := .int .i64 b.w) rfl, (T_2.out.below h2 T_2.out.lt).cell (i := 3) (v := .int .i64 b.h) rfl⟩, fun w2 w3 h2 hb2 => h2.trans (hb2.mono h2.size)⟩) ((Below.refl v1.heap.size v1).drew) (fun hCalm => ?_)
     refine grow_take 0 (some 13) ?_ rfl rfl (by kernel_rfl) (fun _ _ _ h => h) (by kernel_rfl) hCalm ?_ ?_
     rotate_left
     · intro wS hS; (try dsimp only at hS); go_simp <;> with_reducible rfl
     try simp only [Act.put, q8a, q8b, q8c]
     refine grow_take 2 (some 15) ?_ rfl rfl (by kernel_rfl) (fun _ _ _ h => h) (by kernel_rfl) hCalm ?_ ?_
     rotate_left
     · intro wS hS; (try dsimp only at hS); go_simp <;> with_reducible rfl
     try simp only [Act.put, q8a, q8b, q8c]
     refine grow_call 1 (some 14) (p7v (lr7 a)) 33 [.tmp 13] #[39] rfl rfl (by kernel_rfl) (fun _ _ _ h => h) (by kernel_rfl) hCalm rfl (enters_of Tryz.func33 (by kernel_rfl) rfl) (fun wz _ => lower_any a wz ha) (by kernel_rfl) ?_
     try simp only [Act.put, q8a, q8b, q8c]
     refine grow_call 3 (some 16) (p7v (ul7 b)) 32 [.tmp 15] #[39] rfl rfl (by kernel_rfl) (fun _ _ _ h => h) (by kernel_rfl) hCalm rfl (enters_of Tryz.func32 (by kernel_rfl) rfl) (fun wz _ => upper_any b wz) (by kernel_rfl) ?_
     try simp only [Act.put, q8a, q8b, q8c]
     refine grow_call 4 (some 17) (.bool true) 31 [.tmp 14, .tmp 16] #[31, 31] rfl rfl (by kernel_rfl) (fun _ _ _ h => h) (by kernel_rfl) hCalm rfl (enters_of Tryz.func31 (by kernel_rfl) rfl) (fun wz _ => (before_any (lr7 a) (ul7 b) wz).eq (by rw [hf1])) (by kernel_rfl) ?_
     try simp only [Act.put, q8a, q8b, q8c]
     refine grow_take 5 (some 18) ?_ rfl rfl (by kernel_rfl) (fun _ _ _ h => h) (by kernel_rfl) hCalm ?_ ?_
     rotate_left
     · intro wS hS; (try dsimp only at hS); go_simp <;> with_reducible rfl
     try simp only [Act.put, q8a, q8b, q8c]
     refine grow_take 6 (some 19) ?_ rfl rfl (by kernel_rfl) (fun _ _ _ h => h) (by kernel_rfl) hCalm ?_ ?_
     rotate_left
     · intro wS hS; (try dsimp only at hS); go_simp <;> with_reducible rfl
     try simp only [Act.put, q8a, q8b, q8c]
     refine grow_skip 7 (some 20) rfl rfl (by kernel_rfl) (fun _ _ _ h => h) (by kernel_rfl) hCalm ?_
     try simp only [Act.put, q8a, q8b, q8c]
     refine grow_skip 8 (some 21) rfl rfl (by kernel_rfl) (fun _ _ _ h => h) (by kernel_rfl) hCalm ?_
     try simp only [Act.put, q8a, q8b, q8c]
     refine grow_skip 9 (some 22) rfl rfl (by kernel_rfl) (fun _ _ _ h => h) (by kernel_rfl) hCalm ?_
     try simp only [Act.put, q8a, q8b, q8c]
     refine grow_skip 10 (some 23) rfl rfl (by kernel_rfl) (fun _ _ _ h => h) (by kernel_rfl) hCalm ?_
     try simp only [Act.put, q8a, q8b, q8c]
     refine grow_skip 11 (some 24) rfl rfl (by kernel_rfl) (fun _ _ _ h => h) (by kernel_rfl) hCalm ?_
     try simp only [Act.put, q8a, q8b, q8c]
     refine grow_skip 12 (some 25) rfl rfl (by kernel_rfl) (fun _ _ _ h => h) (by kernel_rfl) hCalm ?_
     try simp only [Act.put, q8a, q8b, q8c]
     refine grow_take 13 (some 26) ?_ rfl rfl (by kernel_rfl) (fun _ _ _ h => h) (by kernel_rfl) hCalm ?_ ?_
     rotate_left
     · intro wS hS; (try dsimp only at hS); go_simp <;> with_reducible rfl
     try simp only [Act.put, q8a, q8b, q8c]
     refine grow_take 14 (some 4) ?_ rfl rfl (by kernel_rfl) (fun _ _ _ h => h) (by kernel_rfl) hCalm ?_ ?_
     rotate_left
     · intro wS hS; (try dsimp only at hS); go_simp <;> with_reducible rfl
     try simp only [Act.put, q8a, q8b, q8c]
     refine grow_done (by kernel_rfl) (fun wA hA => ?_) _
     obtain ⟨v2, hv2⟩ : ∃ x, x = wA := ⟨_, rfl⟩
     rw [<- hv2] at hA ⊢
     clear hv2
     have hb := hA; clear hA hCalm
     have S_3 : Hid (Blk v2 w.heap.size 39 #[.int .i64 a.x, .int .i64 a.y, .int .i64 a.w, .int .i64 a.h]) := Lib.hid (S_2.out.below hb S_2.out.lt)
     have T_3 : Hid (Blk v2 (w.heap.size + 1) 39 #[.int .i64 b.x, .int .i64 b.y, .int .i64 b.w, .int .i64 b.h]) := Lib.hid (T_2.out.below hb T_2.out.lt)
     have HB_3 : Hid (Below w.heap.size w v2) := Lib.hid (HB_2.out.trans (hb.mono HB_2.out.size))
     clear hb S_2 T_2 HB_2
     go_wp2_with fail
     go_ret
     exact ⟨rfl, HB_3.out⟩
   case false =>
     rw [Bool.not_false, Bool.true_and]
     have S_0 : Hid (Blk ((w.alloc (.cells #[.int .i64 a.x, .int .i64 a.y, .int .i64 a.w, .int .i64 a.h] 39)).alloc (.cells #[.int .i64 b.x, .int .i64 b.y, .int .i64 b.w, .int .i64 b.h] 39)) w.heap.size 39 #[.int .i64 a.x, .int .i64 a.y, .int .i64 a.w, .int .i64 a.h]) := allocs_blk [(#[.int .i64 a.x, .int .i64 a.y, .int .i64 a.w, .int .i64 a.h], 39), (#[.int .i64 b.x, .int .i64 b.y, .int .i64 b.w, .int .i64 b.h], 39)] w 0 _ rfl
     have T_0 : Hid (Blk ((w.alloc (.cells #[.int .i64 a.x, .int .i64 a.y, .int .i64 a.w, .int .i64 a.h] 39)).alloc (.cells #[.int .i64 b.x, .int .i64 b.y, .int .i64 b.w, .int .i64 b.h] 39)) (w.heap.size + 1) 39 #[.int .i64 b.x, .int .i64 b.y, .int .i64 b.w, .int .i64 b.h]) := allocs_blk [(#[.int .i64 a.x, .int .i64 a.y, .int .i64 a.w, .int .i64 a.h], 39), (#[.int .i64 b.x, .int .i64 b.y, .int .i64 b.w, .int .i64 b.h], 39)] w 1 _ rfl
     have HB_0 : Hid (Below w.heap.size w ((w.alloc (.cells #[.int .i64 a.x, .int .i64 a.y, .int .i64 a.w, .int .i64 a.h] 39)).alloc (.cells #[.int .i64 b.x, .int .i64 b.y, .int .i64 b.w, .int .i64 b.h] 39))) := allocs_below [(#[.int .i64 a.x, .int .i64 a.y, .int .i64 a.w, .int .i64 a.h], 39), (#[.int .i64 b.x, .int .i64 b.y, .int .i64 b.w, .int .i64 b.h], 39)] w (Below.refl w.heap.size w) (Nat.le_refl _)
     go_enter Tryz.func13, Tryz.ntmps13
     have yy0 := S_0.out.cell (i := 0) (v := .int .i64 a.x) rfl; have yy1 := S_0.out.cell (i := 1) (v := .int .i64 a.y) rfl; have yy2 := S_0.out.cell (i := 2) (v := .int .i64 a.w) rfl; have yy3 := S_0.out.cell (i := 3) (v := .int .i64 a.h) rfl
     have yy4 := T_0.out.cell (i := 0) (v := .int .i64 b.x) rfl; have yy5 := T_0.out.cell (i := 1) (v := .int .i64 b.y) rfl; have yy6 := T_0.out.cell (i := 2) (v := .int .i64 b.w) rfl; have yy7 := T_0.out.cell (i := 3) (v := .int .i64 b.h) rfl
     go_wp2_with fail
     refine (vrect_yes a _ ha).mono ?_
     rintro e v0 ⟨rfl, hb⟩
     clear yy0 yy1 yy2 yy3 yy4 yy5 yy6 yy7
     have S_1 : Hid (Blk v0 w.heap.size 39 #[.int .i64 a.x, .int .i64 a.y, .int .i64 a.w, .int .i64 a.h]) := Lib.hid (S_0.out.below hb S_0.out.lt)
     have T_1 : Hid (Blk v0 (w.heap.size + 1) 39 #[.int .i64 b.x, .int .i64 b.y, .int .i64 b.w, .int .i64 b.h]) := Lib.hid (T_0.out.below hb T_0.out.lt)
     have HB_1 : Hid (Below w.heap.size w v0) := Lib.hid (HB_0.out.trans (hb.mono HB_0.out.size))
     clear hb S_0 T_0 HB_0
     have yy0 := S_1.out.cell (i := 0) (v := .int .i64 a.x) rfl; have yy1 := S_1.out.cell (i := 1) (v := .int .i64 a.y) rfl; have yy2 := S_1.out.cell (i := 2) (v := .int .i64 a.w) rfl; have yy3 := S_1.out.cell (i := 3) (v := .int .i64 a.h) rfl
     have yy4 := T_1.out.cell (i := 0) (v := .int .i64 b.x) rfl; have yy5 := T_1.out.cell (i := 1) (v := .int .i64 b.y) rfl; have yy6 := T_1.out.cell (i := 2) (v := .int .i64 b.w) rfl; have yy7 := T_1.out.cell (i := 3) (v := .int .i64 b.h) rfl
     go_wp2_with fail
     refine (vrect_yes b _ hb0).mono ?_
     rintro e v1 ⟨rfl, hb⟩
     clear yy0 yy1 yy2 yy3 yy4 yy5 yy6 yy7
     have S_2 : Hid (Blk v1 w.heap.size 39 #[.int .i64 a.x, .int .i64 a.y, .int .i64 a.w, .int .i64 a.h]) := Lib.hid (S_1.out.below hb S_1.out.lt)
     have T_2 : Hid (Blk v1 (w.heap.size + 1) 39 #[.int .i64 b.x, .int .i64 b.y, .int .i64 b.w, .int .i64 b.h]) := Lib.hid (T_1.out.below hb T_1.out.lt)
     have HB_2 : Hid (Below w.heap.size w v1) := Lib.hid (HB_1.out.trans (hb.mono HB_1.out.size))
     clear hb S_1 T_1 HB_1
     go_wp2_with fail
     refine wp_region_grow (S := (fun w' => w'.cell? ⟨w.heap.size, 0, none⟩ = some (.int .i64 a.x) /\ w'.cell? ⟨w.heap.size, 1, none⟩ = some (.int .i64 a.y) /\ w'.cell? ⟨w.heap.size, 2, none⟩ = some (.int .i64 a.w) /\ w'.cell? ⟨w.heap.size, 3, none⟩ = some (.int .i64 a.h) /\ w'.cell? ⟨(w.heap.size + 1), 0, none⟩ = some (.int .i64 b.x) /\ w'.cell? ⟨(w.heap.size + 1), 1, none⟩ = some (.int .i64 b.y) /\ w'.cell? ⟨(w.heap.size + 1), 2, none⟩ = some (.int .i64 b.w) /\ w'.cell? ⟨(w.heap.size + 1), 3, none⟩ = some (.int .i64 b.h))) ((fun w' => Below v1.heap.size v1 w')) (by kernel_rfl) (⟨fun w2 h2 => ⟨(S_2.out.below h2 S_2.out.lt).cell (i := 0) (v := .int .i64 a.x) rfl, (S_2.out.below h2 S_2.out.lt).cell (i := 1) (v := .int .i64 a.y) rfl, (S_2.out.below h2 S_2.out.lt).cell (i := 2) (v := .int .i64 a.w) rfl, (S_2.out.below h2 S_2.out.lt).cell (i := 3) (v := .int .i64 a.h) rfl, (T_2.out.below h2 T_2.out.lt).cell (i := 0) (v := .int .i64 b.x) rfl, (T_2.out.below h2 T_2.out.lt).cell (i := 1) (v := .int .i64 b.y) rfl, (T_2.out.below h2 T_2.out.lt).cell (i := 2) (v := .int .i64 b.w) rfl, (T_2.out.below h2 T_2.out.lt).cell (i := 3) (v := .int .i64 b.h) rfl⟩, fun w2 w3 h2 hb2 => h2.trans (hb2.mono h2.size)⟩) ((Below.refl v1.heap.size v1).drew) (fun hCalm => ?_)
     refine grow_take 0 (some 13) ?_ rfl rfl (by kernel_rfl) (fun _ _ _ h => h) (by kernel_rfl) hCalm ?_ ?_
     rotate_left
     · intro wS hS; (try dsimp only at hS); go_simp <;> with_reducible rfl
     try simp only [Act.put, q8a, q8b, q8c]
     refine grow_take 2 (some 15) ?_ rfl rfl (by kernel_rfl) (fun _ _ _ h => h) (by kernel_rfl) hCalm ?_ ?_
     rotate_left
     · intro wS hS; (try dsimp only at hS); go_simp <;> with_reducible rfl
     try simp only [Act.put, q8a, q8b, q8c]
     refine grow_call 1 (some 14) (p7v (lr7 a)) 33 [.tmp 13] #[39] rfl rfl (by kernel_rfl) (fun _ _ _ h => h) (by kernel_rfl) hCalm rfl (enters_of Tryz.func33 (by kernel_rfl) rfl) (fun wz _ => lower_any a wz ha) (by kernel_rfl) ?_
     try simp only [Act.put, q8a, q8b, q8c]
     refine grow_call 3 (some 16) (p7v (ul7 b)) 32 [.tmp 15] #[39] rfl rfl (by kernel_rfl) (fun _ _ _ h => h) (by kernel_rfl) hCalm rfl (enters_of Tryz.func32 (by kernel_rfl) rfl) (fun wz _ => upper_any b wz) (by kernel_rfl) ?_
     try simp only [Act.put, q8a, q8b, q8c]
     refine grow_call 4 (some 17) (.bool false) 31 [.tmp 14, .tmp 16] #[31, 31] rfl rfl (by kernel_rfl) (fun _ _ _ h => h) (by kernel_rfl) hCalm rfl (enters_of Tryz.func31 (by kernel_rfl) rfl) (fun wz _ => (before_any (lr7 a) (ul7 b) wz).eq (by rw [hf1])) (by kernel_rfl) ?_
     try simp only [Act.put, q8a, q8b, q8c]
     refine grow_take 5 (some 18) ?_ rfl rfl (by kernel_rfl) (fun _ _ _ h => h) (by kernel_rfl) hCalm ?_ ?_
     rotate_left
     · intro wS hS; (try dsimp only at hS); go_simp <;> with_reducible rfl
     try simp only [Act.put, q8a, q8b, q8c]
     refine grow_take 6 (some 19) ?_ rfl rfl (by kernel_rfl) (fun _ _ _ h => h) (by kernel_rfl) hCalm ?_ ?_
     rotate_left
     · intro wS hS; (try dsimp only at hS); go_simp <;> with_reducible rfl
     try simp only [Act.put, q8a, q8b, q8c]
     refine grow_take 7 (some 20) ?_ rfl rfl (by kernel_rfl) (fun _ _ _ h => h) (by kernel_rfl) hCalm ?_ ?_
     rotate_left
     · intro wS hS; (try dsimp only at hS); go_simp <;> with_reducible rfl
     try simp only [Act.put, q8a, q8b, q8c]
     refine grow_take 9 (some 22) ?_ rfl rfl (by kernel_rfl) (fun _ _ _ h => h) (by kernel_rfl) hCalm ?_ ?_
     rotate_left
     · intro wS hS; (try dsimp only at hS); go_simp <;> with_reducible rfl
     try simp only [Act.put, q8a, q8b, q8c]
     refine grow_call 8 (some 21) (p7v (lr7 b)) 33 [.tmp 20] #[39] rfl rfl (by kernel_rfl) (fun _ _ _ h => h) (by kernel_rfl) hCalm rfl (enters_of Tryz.func33 (by kernel_rfl) rfl) (fun wz _ => lower_any b wz hb0) (by kernel_rfl) ?_
     try simp only [Act.put, q8a, q8b, q8c]
     refine grow_call 10 (some 23) (p7v (ul7 a)) 32 [.tmp 22] #[39] rfl rfl (by kernel_rfl) (fun _ _ _ h => h) (by kernel_rfl) hCalm rfl (enters_of Tryz.func32 (by kernel_rfl) rfl) (fun wz _ => upper_any a wz) (by kernel_rfl) ?_
     try simp only [Act.put, q8a, q8b, q8c]
     refine grow_call 11 (some 24) (.bool (bf7 (lr7 b) (ul7 a))) 31 [.tmp 21, .tmp 23] #[31, 31] rfl rfl (by kernel_rfl) (fun _ _ _ h => h) (by kernel_rfl) hCalm rfl (enters_of Tryz.func31 (by kernel_rfl) rfl) (fun wz _ => before_any (lr7 b) (ul7 a) wz) (by kernel_rfl) ?_
     try simp only [Act.put, q8a, q8b, q8c]
     refine grow_take 12 (some 25) ?_ rfl rfl (by kernel_rfl) (fun _ _ _ h => h) (by kernel_rfl) hCalm ?_ ?_
     rotate_left
     · intro wS hS; (try dsimp only at hS); go_simp <;> with_reducible rfl
     try simp only [Act.put, q8a, q8b, q8c]
     refine grow_take 13 (some 26) ?_ rfl rfl (by kernel_rfl) (fun _ _ _ h => h) (by kernel_rfl) hCalm ?_ ?_
     rotate_left
     · intro wS hS; (try dsimp only at hS); go_simp <;> with_reducible rfl
     try simp only [Act.put, q8a, q8b, q8c]
     refine grow_take 14 (some 4) ?_ rfl rfl (by kernel_rfl) (fun _ _ _ h => h) (by kernel_rfl) hCalm ?_ ?_
     rotate_left
     · intro wS hS; (try dsimp only at hS); go_simp <;> with_reducible rfl
     try simp only [Act.put, q8a, q8b, q8c]
     refine grow_done (by kernel_rfl) (fun wA hA => ?_) _
     obtain ⟨v2, hv2⟩ : ∃ x, x = wA := ⟨_, rfl⟩
     rw [<- hv2] at hA ⊢
     clear hv2
     have hb := hA; clear hA hCalm
     have S_3 : Hid (Blk v2 w.heap.size 39 #[.int .i64 a.x, .int .i64 a.y, .int .i64 a.w, .int .i64 a.h]) := Lib.hid (S_2.out.below hb S_2.out.lt)
     have T_3 : Hid (Blk v2 (w.heap.size + 1) 39 #[.int .i64 b.x, .int .i64 b.y, .int .i64 b.w, .int .i64 b.h]) := Lib.hid (T_2.out.below hb T_2.out.lt)
     have HB_3 : Hid (Below w.heap.size w v2) := Lib.hid (HB_2.out.trans (hb.mono HB_2.out.size))
     clear hb S_2 T_2 HB_2
     go_wp2_with fail
     go_ret
     exact ⟨rfl, HB_3.out⟩
set_option maxRecDepth 100000 in
set_option maxHeartbeats 8000000 in
theorem inside_any (a b : R7) (w : World) : Yl 12 #[r7v a, r7v b] w (.bool (in7 a b)) := by
 by_cases ha : a.ok
 case neg =>
   rw [show in7 a b = false from by unfold in7; rw [decide_eq_false (fun h => ha h.1)]; rfl]
   have S_0 : Hid (Blk ((w.alloc (.cells #[.int .i64 a.x, .int .i64 a.y, .int .i64 a.w, .int .i64 a.h] 39)).alloc (.cells #[.int .i64 b.x, .int .i64 b.y, .int .i64 b.w, .int .i64 b.h] 39)) w.heap.size 39 #[.int .i64 a.x, .int .i64 a.y, .int .i64 a.w, .int .i64 a.h]) := allocs_blk [(#[.int .i64 a.x, .int .i64 a.y, .int .i64 a.w, .int .i64 a.h], 39), (#[.int .i64 b.x, .int .i64 b.y, .int .i64 b.w, .int .i64 b.h], 39)] w 0 _ rfl
   have T_0 : Hid (Blk ((w.alloc (.cells #[.int .i64 a.x, .int .i64 a.y, .int .i64 a.w, .int .i64 a.h] 39)).alloc (.cells #[.int .i64 b.x, .int .i64 b.y, .int .i64 b.w, .int .i64 b.h] 39)) (w.heap.size + 1) 39 #[.int .i64 b.x, .int .i64 b.y, .int .i64 b.w, .int .i64 b.h]) := allocs_blk [(#[.int .i64 a.x, .int .i64 a.y, .int .i64 a.w, .int .i64 a.h], 39), (#[.int .i64 b.x, .int .i64 b.y, .int .i64 b.w, .int .i64 b.h], 39)] w 1 _ rfl
   have HB_0 : Hid (Below w.heap.size w ((w.alloc (.cells #[.int .i64 a.x, .int .i64 a.y, .int .i64 a.w, .int .i64 a.h] 39)).alloc (.cells #[.int .i64 b.x, .int .i64 b.y, .int .i64 b.w, .int .i64 b.h] 39))) := allocs_below [(#[.int .i64 a.x, .int .i64 a.y, .int .i64 a.w, .int .i64 a.h], 39), (#[.int .i64 b.x, .int .i64 b.y, .int .i64 b.w, .int .i64 b.h], 39)] w (Below.refl w.heap.size w) (Nat.le_refl _)
   go_enter Tryz.func12, Tryz.ntmps12
   have yy0 := S_0.out.cell (i := 0) (v := .int .i64 a.x) rfl; have yy1 := S_0.out.cell (i := 1) (v := .int .i64 a.y) rfl; have yy2 := S_0.out.cell (i := 2) (v := .int .i64 a.w) rfl; have yy3 := S_0.out.cell (i := 3) (v := .int .i64 a.h) rfl
   have yy4 := T_0.out.cell (i := 0) (v := .int .i64 b.x) rfl; have yy5 := T_0.out.cell (i := 1) (v := .int .i64 b.y) rfl; have yy6 := T_0.out.cell (i := 2) (v := .int .i64 b.w) rfl; have yy7 := T_0.out.cell (i := 3) (v := .int .i64 b.h) rfl
   go_wp2_with fail
   refine (vrect_no a _ ha).mono ?_
   rintro e v0 ⟨rfl, hb⟩
   clear yy0 yy1 yy2 yy3 yy4 yy5 yy6 yy7
   have S_1 : Hid (Blk v0 w.heap.size 39 #[.int .i64 a.x, .int .i64 a.y, .int .i64 a.w, .int .i64 a.h]) := Lib.hid (S_0.out.below hb S_0.out.lt)
   have T_1 : Hid (Blk v0 (w.heap.size + 1) 39 #[.int .i64 b.x, .int .i64 b.y, .int .i64 b.w, .int .i64 b.h]) := Lib.hid (T_0.out.below hb T_0.out.lt)
   have HB_1 : Hid (Below w.heap.size w v0) := Lib.hid (HB_0.out.trans (hb.mono HB_0.out.size))
   clear hb S_0 T_0 HB_0
   have hundef := un_none
   go_wp2_with fail
   go_ret
   exact ⟨rfl, HB_1.out⟩
 case pos =>
  by_cases hb0 : b.ok
  case neg =>
   rw [show in7 a b = false from by unfold in7; rw [decide_eq_false (fun h => hb0 h.2)]; rfl]
   have S_0 : Hid (Blk ((w.alloc (.cells #[.int .i64 a.x, .int .i64 a.y, .int .i64 a.w, .int .i64 a.h] 39)).alloc (.cells #[.int .i64 b.x, .int .i64 b.y, .int .i64 b.w, .int .i64 b.h] 39)) w.heap.size 39 #[.int .i64 a.x, .int .i64 a.y, .int .i64 a.w, .int .i64 a.h]) := allocs_blk [(#[.int .i64 a.x, .int .i64 a.y, .int .i64 a.w, .int .i64 a.h], 39), (#[.int .i64 b.x, .int .i64 b.y, .int .i64 b.w, .int .i64 b.h], 39)] w 0 _ rfl
   have T_0 : Hid (Blk ((w.alloc (.cells #[.int .i64 a.x, .int .i64 a.y, .int .i64 a.w, .int .i64 a.h] 39)).alloc (.cells #[.int .i64 b.x, .int .i64 b.y, .int .i64 b.w, .int .i64 b.h] 39)) (w.heap.size + 1) 39 #[.int .i64 b.x, .int .i64 b.y, .int .i64 b.w, .int .i64 b.h]) := allocs_blk [(#[.int .i64 a.x, .int .i64 a.y, .int .i64 a.w, .int .i64 a.h], 39), (#[.int .i64 b.x, .int .i64 b.y, .int .i64 b.w, .int .i64 b.h], 39)] w 1 _ rfl
   have HB_0 : Hid (Below w.heap.size w ((w.alloc (.cells #[.int .i64 a.x, .int .i64 a.y, .int .i64 a.w, .int .i64 a.h] 39)).alloc (.cells #[.int .i64 b.x, .int .i64 b.y, .int .i64 b.w, .int .i64 b.h] 39))) := allocs_below [(#[.int .i64 a.x, .int .i64 a.y, .int .i64 a.w, .int .i64 a.h], 39), (#[.int .i64 b.x, .int .i64 b.y, .int .i64 b.w, .int .i64 b.h], 39)] w (Below.refl w.heap.size w) (Nat.le_refl _)
   go_enter Tryz.func12, Tryz.ntmps12
   have yy0 := S_0.out.cell (i := 0) (v := .int .i64 a.x) rfl; have yy1 := S_0.out.cell (i := 1) (v := .int .i64 a.y) rfl; have yy2 := S_0.out.cell (i := 2) (v := .int .i64 a.w) rfl; have yy3 := S_0.out.cell (i := 3) (v := .int .i64 a.h) rfl
   have yy4 := T_0.out.cell (i := 0) (v := .int .i64 b.x) rfl; have yy5 := T_0.out.cell (i := 1) (v := .int .i64 b.y) rfl; have yy6 := T_0.out.cell (i := 2) (v := .int .i64 b.w) rfl; have yy7 := T_0.out.cell (i := 3) (v := .int .i64 b.h) rfl
   go_wp2_with fail
   refine (vrect_yes a _ ha).mono ?_
   rintro e v0 ⟨rfl, hb⟩
   clear yy0 yy1 yy2 yy3 yy4 yy5 yy6 yy7
   have S_1 : Hid (Blk v0 w.heap.size 39 #[.int .i64 a.x, .int .i64 a.y, .int .i64 a.w, .int .i64 a.h]) := Lib.hid (S_0.out.below hb S_0.out.lt)
   have T_1 : Hid (Blk v0 (w.heap.size + 1) 39 #[.int .i64 b.x, .int .i64 b.y, .int .i64 b.w, .int .i64 b.h]) := Lib.hid (T_0.out.below hb T_0.out.lt)
   have HB_1 : Hid (Below w.heap.size w v0) := Lib.hid (HB_0.out.trans (hb.mono HB_0.out.size))
   clear hb S_0 T_0 HB_0
   have yy0 := S_1.out.cell (i := 0) (v := .int .i64 a.x) rfl; have yy1 := S_1.out.cell (i := 1) (v := .int .i64 a.y) rfl; have yy2 := S_1.out.cell (i := 2) (v := .int .i64 a.w) rfl; have yy3 := S_1.out.cell (i := 3) (v := .int .i64 a.h) rfl
   have yy4 := T_1.out.cell (i := 0) (v := .int .i64 b.x) rfl; have yy5 := T_1.out.cell (i := 1) (v := .int .i64 b.y) rfl; have yy6 := T_1.out.cell (i := 2) (v := .int .i64 b.w) rfl; have yy7 := T_1.out.cell (i := 3) (v := .int .i64 b.h) rfl
   go_wp2_with fail
   refine (vrect_no b _ hb0).mono ?_
   rintro e v1 ⟨rfl, hb⟩
   clear yy0 yy1 yy2 yy3 yy4 yy5 yy6 yy7
   have S_2 : Hid (Blk v1 w.heap.size 39 #[.int .i64 a.x, .int .i64 a.y, .int .i64 a.w, .int .i64 a.h]) := Lib.hid (S_1.out.below hb S_1.out.lt)
   have T_2 : Hid (Blk v1 (w.heap.size + 1) 39 #[.int .i64 b.x, .int .i64 b.y, .int .i64 b.w, .int .i64 b.h]) := Lib.hid (T_1.out.below hb T_1.out.lt)
   have HB_2 : Hid (Below w.heap.size w v1) := Lib.hid (HB_1.out.trans (hb.mono HB_1.out.size))
   clear hb S_1 T_1 HB_1
   go_wp2_with fail
   go_ret
   exact ⟨rfl, HB_2.out⟩
  case pos =>
   rw [show in7 a b = (!bf7 (ul7 a) (ul7 b) && !bf7 (lr7 b) (lr7 a)) from by unfold in7; rw [decide_eq_true ⟨ha, hb0⟩, Bool.true_and]]
   cases hf1 : bf7 (ul7 a) (ul7 b)
   case true =>
     have S_0 : Hid (Blk ((w.alloc (.cells #[.int .i64 a.x, .int .i64 a.y, .int .i64 a.w, .int .i64 a.h] 39)).alloc (.cells #[.int .i64 b.x, .int .i64 b.y, .int .i64 b.w, .int .i64 b.h] 39)) w.heap.size 39 #[.int .i64 a.x, .int .i64 a.y, .int .i64 a.w, .int .i64 a.h]) := allocs_blk [(#[.int .i64 a.x, .int .i64 a.y, .int .i64 a.w, .int .i64 a.h], 39), (#[.int .i64 b.x, .int .i64 b.y, .int .i64 b.w, .int .i64 b.h], 39)] w 0 _ rfl
     have T_0 : Hid (Blk ((w.alloc (.cells #[.int .i64 a.x, .int .i64 a.y, .int .i64 a.w, .int .i64 a.h] 39)).alloc (.cells #[.int .i64 b.x, .int .i64 b.y, .int .i64 b.w, .int .i64 b.h] 39)) (w.heap.size + 1) 39 #[.int .i64 b.x, .int .i64 b.y, .int .i64 b.w, .int .i64 b.h]) := allocs_blk [(#[.int .i64 a.x, .int .i64 a.y, .int .i64 a.w, .int .i64 a.h], 39), (#[.int .i64 b.x, .int .i64 b.y, .int .i64 b.w, .int .i64 b.h], 39)] w 1 _ rfl
     have HB_0 : Hid (Below w.heap.size w ((w.alloc (.cells #[.int .i64 a.x, .int .i64 a.y, .int .i64 a.w, .int .i64 a.h] 39)).alloc (.cells #[.int .i64 b.x, .int .i64 b.y, .int .i64 b.w, .int .i64 b.h] 39))) := allocs_below [(#[.int .i64 a.x, .int .i64 a.y, .int .i64 a.w, .int .i64 a.h], 39), (#[.int .i64 b.x, .int .i64 b.y, .int .i64 b.w, .int .i64 b.h], 39)] w (Below.refl w.heap.size w) (Nat.le_refl _)
     go_enter Tryz.func12, Tryz.ntmps12
     have yy0 := S_0.out.cell (i := 0) (v := .int .i64 a.x) rfl; have yy1 := S_0.out.cell (i := 1) (v := .int .i64 a.y) rfl; have yy2 := S_0.out.cell (i := 2) (v := .int .i64 a.w) rfl; have yy3 := S_0.out.cell (i := 3) (v := .int .i64 a.h) rfl
     have yy4 := T_0.out.cell (i := 0) (v := .int .i64 b.x) rfl; have yy5 := T_0.out.cell (i := 1) (v := .int .i64 b.y) rfl; have yy6 := T_0.out.cell (i := 2) (v := .int .i64 b.w) rfl; have yy7 := T_0.out.cell (i := 3) (v := .int .i64 b.h) rfl
     go_wp2_with fail
     refine (vrect_yes a _ ha).mono ?_
     rintro e v0 ⟨rfl, hb⟩
     clear yy0 yy1 yy2 yy3 yy4 yy5 yy6 yy7
     have S_1 : Hid (Blk v0 w.heap.size 39 #[.int .i64 a.x, .int .i64 a.y, .int .i64 a.w, .int .i64 a.h]) := Lib.hid (S_0.out.below hb S_0.out.lt)
     have T_1 : Hid (Blk v0 (w.heap.size + 1) 39 #[.int .i64 b.x, .int .i64 b.y, .int .i64 b.w, .int .i64 b.h]) := Lib.hid (T_0.out.below hb T_0.out.lt)
     have HB_1 : Hid (Below w.heap.size w v0) := Lib.hid (HB_0.out.trans (hb.mono HB_0.out.size))
     clear hb S_0 T_0 HB_0
     have yy0 := S_1.out.cell (i := 0) (v := .int .i64 a.x) rfl; have yy1 := S_1.out.cell (i := 1) (v := .int .i64 a.y) rfl; have yy2 := S_1.out.cell (i := 2) (v := .int .i64 a.w) rfl; have yy3 := S_1.out.cell (i := 3) (v := .int .i64 a.h) rfl
     have yy4 := T_1.out.cell (i := 0) (v := .int .i64 b.x) rfl; have yy5 := T_1.out.cell (i := 1) (v := .int .i64 b.y) rfl; have yy6 := T_1.out.cell (i := 2) (v := .int .i64 b.w) rfl; have yy7 := T_1.out.cell (i := 3) (v := .int .i64 b.h) rfl
     go_wp2_with fail
     refine (vrect_yes b _ hb0).mono ?_
     rintro e v1 ⟨rfl, hb⟩
     clear yy0 yy1 yy2 yy3 yy4 yy5 yy6 yy7
     have S_2 : Hid (Blk v1 w.heap.size 39 #[.int .i64 a.x, .int .i64 a.y, .int .i64 a.w, .int .i64 a.h]) := Lib.hid (S_1.out.below hb S_1.out.lt)
     have T_2 : Hid (Blk v1 (w.heap.size + 1) 39 #[.int .i64 b.x, .int .i64 b.y, .int .i64 b.w, .int .i64 b.h]) := Lib.hid (T_1.out.below hb T_1.out.lt)
     have HB_2 : Hid (Below w.heap.size w v1) := Lib.hid (HB_1.out.trans (hb.mono HB_1.out.size))
     clear hb S_1 T_1 HB_1
     go_wp2_with fail
     refine wp_region_grow (S := (fun w' => w'.cell? ⟨w.heap.size, 0, none⟩ = some (.int .i64 a.x) /\ w'.cell? ⟨w.heap.size, 1, none⟩ = some (.int .i64 a.y) /\ w'.cell? ⟨w.heap.size, 2, none⟩ = some (.int .i64 a.w) /\ w'.cell? ⟨w.heap.size, 3, none⟩ = some (.int .i64 a.h) /\ w'.cell? ⟨(w.heap.size + 1), 0, none⟩ = some (.int .i64 b.x) /\ w'.cell? ⟨(w.heap.size + 1), 1, none⟩ = some (.int .i64 b.y) /\ w'.cell? ⟨(w.heap.size + 1), 2, none⟩ = some (.int .i64 b.w) /\ w'.cell? ⟨(w.heap.size + 1), 3, none⟩ = some (.int .i64 b.h))) ((fun w' => Below v1.heap.size v1 w')) (by kernel_rfl) (⟨fun w2 h2 => ⟨(S_2.out.below h2 S_2.out.lt).cell (i := 0) (v := .int .i64 a.x) rfl, (S_2.out.below h2 S_2.out.lt).cell (i := 1) (v := .int .i64 a.y) rfl, (S_2.out.below h2 S_2.out.lt).cell (i := 2) (v := .int .i64 a.w) rfl, (S_2.out.below h2 S_2.out.lt).cell (i := 3) (v := .int .i64 a.h) rfl, (T_2.out.below h2 T_2.out.lt).cell (i := 0) (v := .int .i64 b.x) rfl, (T_2.out.below h2 T_2.out.lt).cell (i := 1) (v := .int .i64 b.y) rfl, (T_2.out.below h2 T_2.out.lt).cell (i := 2) (v := .int .i64 b.w) rfl, (T_2.out.below h2 T_2.out.lt).cell (i := 3) (v := .int .i64 b.h) rfl⟩, fun w2 w3 h2 hb2 => h2.trans (hb2.mono h2.size)⟩) ((Below.refl v1.heap.size v1).drew) (fun hCalm => ?_)
     refine grow_take 0 (some 13) ?_ rfl rfl (by kernel_rfl) (fun _ _ _ h => h) (by kernel_rfl) hCalm ?_ ?_
     rotate_left
     · intro wS hS; (try dsimp only at hS); go_simp <;> with_reducible rfl
     try simp only [Act.put, q8a, q8b, q8c]
     refine grow_take 2 (some 15) ?_ rfl rfl (by kernel_rfl) (fun _ _ _ h => h) (by kernel_rfl) hCalm ?_ ?_
     rotate_left
     · intro wS hS; (try dsimp only at hS); go_simp <;> with_reducible rfl
     try simp only [Act.put, q8a, q8b, q8c]
     refine grow_call 1 (some 14) (p7v (ul7 a)) 32 [.tmp 13] #[39] rfl rfl (by kernel_rfl) (fun _ _ _ h => h) (by kernel_rfl) hCalm rfl (enters_of Tryz.func32 (by kernel_rfl) rfl) (fun wz _ => upper_any a wz) (by kernel_rfl) ?_
     try simp only [Act.put, q8a, q8b, q8c]
     refine grow_call 3 (some 16) (p7v (ul7 b)) 32 [.tmp 15] #[39] rfl rfl (by kernel_rfl) (fun _ _ _ h => h) (by kernel_rfl) hCalm rfl (enters_of Tryz.func32 (by kernel_rfl) rfl) (fun wz _ => upper_any b wz) (by kernel_rfl) ?_
     try simp only [Act.put, q8a, q8b, q8c]
     refine grow_call 4 (some 17) (.bool true) 31 [.tmp 14, .tmp 16] #[31, 31] rfl rfl (by kernel_rfl) (fun _ _ _ h => h) (by kernel_rfl) hCalm rfl (enters_of Tryz.func31 (by kernel_rfl) rfl) (fun wz _ => (before_any (ul7 a) (ul7 b) wz).eq (by rw [hf1])) (by kernel_rfl) ?_
     try simp only [Act.put, q8a, q8b, q8c]
     refine grow_take 5 (some 18) ?_ rfl rfl (by kernel_rfl) (fun _ _ _ h => h) (by kernel_rfl) hCalm ?_ ?_
     rotate_left
     · intro wS hS; (try dsimp only at hS); go_simp <;> with_reducible rfl
     try simp only [Act.put, q8a, q8b, q8c]
     refine grow_take 6 (some 19) ?_ rfl rfl (by kernel_rfl) (fun _ _ _ h => h) (by kernel_rfl) hCalm ?_ ?_
     rotate_left
     · intro wS hS; (try dsimp only at hS); go_simp <;> with_reducible rfl
     try simp only [Act.put, q8a, q8b, q8c]
     refine grow_skip 7 (some 20) rfl rfl (by kernel_rfl) (fun _ _ _ h => h) (by kernel_rfl) hCalm ?_
     try simp only [Act.put, q8a, q8b, q8c]
     refine grow_skip 8 (some 21) rfl rfl (by kernel_rfl) (fun _ _ _ h => h) (by kernel_rfl) hCalm ?_
     try simp only [Act.put, q8a, q8b, q8c]
     refine grow_skip 9 (some 22) rfl rfl (by kernel_rfl) (fun _ _ _ h => h) (by kernel_rfl) hCalm ?_
     try simp only [Act.put, q8a, q8b, q8c]
     refine grow_skip 10 (some 23) rfl rfl (by kernel_rfl) (fun _ _ _ h => h) (by kernel_rfl) hCalm ?_
     try simp only [Act.put, q8a, q8b, q8c]
     refine grow_skip 11 (some 24) rfl rfl (by kernel_rfl) (fun _ _ _ h => h) (by kernel_rfl) hCalm ?_
     try simp only [Act.put, q8a, q8b, q8c]
     refine grow_skip 12 (some 25) rfl rfl (by kernel_rfl) (fun _ _ _ h => h) (by kernel_rfl) hCalm ?_
     try simp only [Act.put, q8a, q8b, q8c]
     refine grow_take 13 (some 26) ?_ rfl rfl (by kernel_rfl) (fun _ _ _ h => h) (by kernel_rfl) hCalm ?_ ?_
     rotate_left
     · intro wS hS; (try dsimp only at hS); go_simp <;> with_reducible rfl
     try simp only [Act.put, q8a, q8b, q8c]
     refine grow_take 14 (some 4) ?_ rfl rfl (by kernel_rfl) (fun _ _ _ h => h) (by kernel_rfl) hCalm ?_ ?_
     rotate_left
     · intro wS hS; (try dsimp only at hS); go_simp <;> with_reducible rfl
     try simp only [Act.put, q8a, q8b, q8c]
     refine grow_done (by kernel_rfl) (fun wA hA => ?_) _
     obtain ⟨v2, hv2⟩ : ∃ x, x = wA := ⟨_, rfl⟩
     rw [<- hv2] at hA ⊢
     clear hv2
     have hb := hA; clear hA hCalm
     have S_3 : Hid (Blk v2 w.heap.size 39 #[.int .i64 a.x, .int .i64 a.y, .int .i64 a.w, .int .i64 a.h]) := Lib.hid (S_2.out.below hb S_2.out.lt)
     have T_3 : Hid (Blk v2 (w.heap.size + 1) 39 #[.int .i64 b.x, .int .i64 b.y, .int .i64 b.w, .int .i64 b.h]) := Lib.hid (T_2.out.below hb T_2.out.lt)
     have HB_3 : Hid (Below w.heap.size w v2) := Lib.hid (HB_2.out.trans (hb.mono HB_2.out.size))
     clear hb S_2 T_2 HB_2
     go_wp2_with fail
     go_ret
     exact ⟨rfl, HB_3.out⟩
   case false =>
     rw [Bool.not_false, Bool.true_and]
     have S_0 : Hid (Blk ((w.alloc (.cells #[.int .i64 a.x, .int .i64 a.y, .int .i64 a.w, .int .i64 a.h] 39)).alloc (.cells #[.int .i64 b.x, .int .i64 b.y, .int .i64 b.w, .int .i64 b.h] 39)) w.heap.size 39 #[.int .i64 a.x, .int .i64 a.y, .int .i64 a.w, .int .i64 a.h]) := allocs_blk [(#[.int .i64 a.x, .int .i64 a.y, .int .i64 a.w, .int .i64 a.h], 39), (#[.int .i64 b.x, .int .i64 b.y, .int .i64 b.w, .int .i64 b.h], 39)] w 0 _ rfl
     have T_0 : Hid (Blk ((w.alloc (.cells #[.int .i64 a.x, .int .i64 a.y, .int .i64 a.w, .int .i64 a.h] 39)).alloc (.cells #[.int .i64 b.x, .int .i64 b.y, .int .i64 b.w, .int .i64 b.h] 39)) (w.heap.size + 1) 39 #[.int .i64 b.x, .int .i64 b.y, .int .i64 b.w, .int .i64 b.h]) := allocs_blk [(#[.int .i64 a.x, .int .i64 a.y, .int .i64 a.w, .int .i64 a.h], 39), (#[.int .i64 b.x, .int .i64 b.y, .int .i64 b.w, .int .i64 b.h], 39)] w 1 _ rfl
     have HB_0 : Hid (Below w.heap.size w ((w.alloc (.cells #[.int .i64 a.x, .int .i64 a.y, .int .i64 a.w, .int .i64 a.h] 39)).alloc (.cells #[.int .i64 b.x, .int .i64 b.y, .int .i64 b.w, .int .i64 b.h] 39))) := allocs_below [(#[.int .i64 a.x, .int .i64 a.y, .int .i64 a.w, .int .i64 a.h], 39), (#[.int .i64 b.x, .int .i64 b.y, .int .i64 b.w, .int .i64 b.h], 39)] w (Below.refl w.heap.size w) (Nat.le_refl _)
     go_enter Tryz.func12, Tryz.ntmps12
     have yy0 := S_0.out.cell (i := 0) (v := .int .i64 a.x) rfl; have yy1 := S_0.out.cell (i := 1) (v := .int .i64 a.y) rfl; have yy2 := S_0.out.cell (i := 2) (v := .int .i64 a.w) rfl; have yy3 := S_0.out.cell (i := 3) (v := .int .i64 a.h) rfl
     have yy4 := T_0.out.cell (i := 0) (v := .int .i64 b.x) rfl; have yy5 := T_0.out.cell (i := 1) (v := .int .i64 b.y) rfl; have yy6 := T_0.out.cell (i := 2) (v := .int .i64 b.w) rfl; have yy7 := T_0.out.cell (i := 3) (v := .int .i64 b.h) rfl
     go_wp2_with fail
     refine (vrect_yes a _ ha).mono ?_
     rintro e v0 ⟨rfl, hb⟩
     clear yy0 yy1 yy2 yy3 yy4 yy5 yy6 yy7
     have S_1 : Hid (Blk v0 w.heap.size 39 #[.int .i64 a.x, .int .i64 a.y, .int .i64 a.w, .int .i64 a.h]) := Lib.hid (S_0.out.below hb S_0.out.lt)
     have T_1 : Hid (Blk v0 (w.heap.size + 1) 39 #[.int .i64 b.x, .int .i64 b.y, .int .i64 b.w, .int .i64 b.h]) := Lib.hid (T_0.out.below hb T_0.out.lt)
     have HB_1 : Hid (Below w.heap.size w v0) := Lib.hid (HB_0.out.trans (hb.mono HB_0.out.size))
     clear hb S_0 T_0 HB_0
     have yy0 := S_1.out.cell (i := 0) (v := .int .i64 a.x) rfl; have yy1 := S_1.out.cell (i := 1) (v := .int .i64 a.y) rfl; have yy2 := S_1.out.cell (i := 2) (v := .int .i64 a.w) rfl; have yy3 := S_1.out.cell (i := 3) (v := .int .i64 a.h) rfl
     have yy4 := T_1.out.cell (i := 0) (v := .int .i64 b.x) rfl; have yy5 := T_1.out.cell (i := 1) (v := .int .i64 b.y) rfl; have yy6 := T_1.out.cell (i := 2) (v := .int .i64 b.w) rfl; have yy7 := T_1.out.cell (i := 3) (v := .int .i64 b.h) rfl
     go_wp2_with fail
     refine (vrect_yes b _ hb0).mono ?_
     rintro e v1 ⟨rfl, hb⟩
     clear yy0 yy1 yy2 yy3 yy4 yy5 yy6 yy7
     have S_2 : Hid (Blk v1 w.heap.size 39 #[.int .i64 a.x, .int .i64 a.y, .int .i64 a.w, .int .i64 a.h]) := Lib.hid (S_1.out.below hb S_1.out.lt)
     have T_2 : Hid (Blk v1 (w.heap.size + 1) 39 #[.int .i64 b.x, .int .i64 b.y, .int .i64 b.w, .int .i64 b.h]) := Lib.hid (T_1.out.below hb T_1.out.lt)
     have HB_2 : Hid (Below w.heap.size w v1) := Lib.hid (HB_1.out.trans (hb.mono HB_1.out.size))
     clear hb S_1 T_1 HB_1
     go_wp2_with fail
     refine wp_region_grow (S := (fun w' => w'.cell? ⟨w.heap.size, 0, none⟩ = some (.int .i64 a.x) /\ w'.cell? ⟨w.heap.size, 1, none⟩ = some (.int .i64 a.y) /\ w'.cell? ⟨w.heap.size, 2, none⟩ = some (.int .i64 a.w) /\ w'.cell? ⟨w.heap.size, 3, none⟩ = some (.int .i64 a.h) /\ w'.cell? ⟨(w.heap.size + 1), 0, none⟩ = some (.int .i64 b.x) /\ w'.cell? ⟨(w.heap.size + 1), 1, none⟩ = some (.int .i64 b.y) /\ w'.cell? ⟨(w.heap.size + 1), 2, none⟩ = some (.int .i64 b.w) /\ w'.cell? ⟨(w.heap.size + 1), 3, none⟩ = some (.int .i64 b.h))) ((fun w' => Below v1.heap.size v1 w')) (by kernel_rfl) (⟨fun w2 h2 => ⟨(S_2.out.below h2 S_2.out.lt).cell (i := 0) (v := .int .i64 a.x) rfl, (S_2.out.below h2 S_2.out.lt).cell (i := 1) (v := .int .i64 a.y) rfl, (S_2.out.below h2 S_2.out.lt).cell (i := 2) (v := .int .i64 a.w) rfl, (S_2.out.below h2 S_2.out.lt).cell (i := 3) (v := .int .i64 a.h) rfl, (T_2.out.below h2 T_2.out.lt).cell (i := 0) (v := .int .i64 b.x) rfl, (T_2.out.below h2 T_2.out.lt).cell (i := 1) (v := .int .i64 b.y) rfl, (T_2.out.below h2 T_2.out.lt).cell (i := 2) (v := .int .i64 b.w) rfl, (T_2.out.below h2 T_2.out.lt).cell (i := 3) (v := .int .i64 b.h) rfl⟩, fun w2 w3 h2 hb2 => h2.trans (hb2.mono h2.size)⟩) ((Below.refl v1.heap.size v1).drew) (fun hCalm => ?_)
     refine grow_take 0 (some 13) ?_ rfl rfl (by kernel_rfl) (fun _ _ _ h => h) (by kernel_rfl) hCalm ?_ ?_
     rotate_left
     · intro wS hS; (try dsimp only at hS); go_simp <;> with_reducible rfl
     try simp only [Act.put, q8a, q8b, q8c]
     refine grow_take 2 (some 15) ?_ rfl rfl (by kernel_rfl) (fun _ _ _ h => h) (by kernel_rfl) hCalm ?_ ?_
     rotate_left
     · intro wS hS; (try dsimp only at hS); go_simp <;> with_reducible rfl
     try simp only [Act.put, q8a, q8b, q8c]
     refine grow_call 1 (some 14) (p7v (ul7 a)) 32 [.tmp 13] #[39] rfl rfl (by kernel_rfl) (fun _ _ _ h => h) (by kernel_rfl) hCalm rfl (enters_of Tryz.func32 (by kernel_rfl) rfl) (fun wz _ => upper_any a wz) (by kernel_rfl) ?_
     try simp only [Act.put, q8a, q8b, q8c]
     refine grow_call 3 (some 16) (p7v (ul7 b)) 32 [.tmp 15] #[39] rfl rfl (by kernel_rfl) (fun _ _ _ h => h) (by kernel_rfl) hCalm rfl (enters_of Tryz.func32 (by kernel_rfl) rfl) (fun wz _ => upper_any b wz) (by kernel_rfl) ?_
     try simp only [Act.put, q8a, q8b, q8c]
     refine grow_call 4 (some 17) (.bool false) 31 [.tmp 14, .tmp 16] #[31, 31] rfl rfl (by kernel_rfl) (fun _ _ _ h => h) (by kernel_rfl) hCalm rfl (enters_of Tryz.func31 (by kernel_rfl) rfl) (fun wz _ => (before_any (ul7 a) (ul7 b) wz).eq (by rw [hf1])) (by kernel_rfl) ?_
     try simp only [Act.put, q8a, q8b, q8c]
     refine grow_take 5 (some 18) ?_ rfl rfl (by kernel_rfl) (fun _ _ _ h => h) (by kernel_rfl) hCalm ?_ ?_
     rotate_left
     · intro wS hS; (try dsimp only at hS); go_simp <;> with_reducible rfl
     try simp only [Act.put, q8a, q8b, q8c]
     refine grow_take 6 (some 19) ?_ rfl rfl (by kernel_rfl) (fun _ _ _ h => h) (by kernel_rfl) hCalm ?_ ?_
     rotate_left
     · intro wS hS; (try dsimp only at hS); go_simp <;> with_reducible rfl
     try simp only [Act.put, q8a, q8b, q8c]
     refine grow_take 7 (some 20) ?_ rfl rfl (by kernel_rfl) (fun _ _ _ h => h) (by kernel_rfl) hCalm ?_ ?_
     rotate_left
     · intro wS hS; (try dsimp only at hS); go_simp <;> with_reducible rfl
     try simp only [Act.put, q8a, q8b, q8c]
     refine grow_take 9 (some 22) ?_ rfl rfl (by kernel_rfl) (fun _ _ _ h => h) (by kernel_rfl) hCalm ?_ ?_
     rotate_left
     · intro wS hS; (try dsimp only at hS); go_simp <;> with_reducible rfl
     try simp only [Act.put, q8a, q8b, q8c]
     refine grow_call 8 (some 21) (p7v (lr7 b)) 33 [.tmp 20] #[39] rfl rfl (by kernel_rfl) (fun _ _ _ h => h) (by kernel_rfl) hCalm rfl (enters_of Tryz.func33 (by kernel_rfl) rfl) (fun wz _ => lower_any b wz hb0) (by kernel_rfl) ?_
     try simp only [Act.put, q8a, q8b, q8c]
     refine grow_call 10 (some 23) (p7v (lr7 a)) 33 [.tmp 22] #[39] rfl rfl (by kernel_rfl) (fun _ _ _ h => h) (by kernel_rfl) hCalm rfl (enters_of Tryz.func33 (by kernel_rfl) rfl) (fun wz _ => lower_any a wz ha) (by kernel_rfl) ?_
     try simp only [Act.put, q8a, q8b, q8c]
     refine grow_call 11 (some 24) (.bool (bf7 (lr7 b) (lr7 a))) 31 [.tmp 21, .tmp 23] #[31, 31] rfl rfl (by kernel_rfl) (fun _ _ _ h => h) (by kernel_rfl) hCalm rfl (enters_of Tryz.func31 (by kernel_rfl) rfl) (fun wz _ => before_any (lr7 b) (lr7 a) wz) (by kernel_rfl) ?_
     try simp only [Act.put, q8a, q8b, q8c]
     refine grow_take 12 (some 25) ?_ rfl rfl (by kernel_rfl) (fun _ _ _ h => h) (by kernel_rfl) hCalm ?_ ?_
     rotate_left
     · intro wS hS; (try dsimp only at hS); go_simp <;> with_reducible rfl
     try simp only [Act.put, q8a, q8b, q8c]
     refine grow_take 13 (some 26) ?_ rfl rfl (by kernel_rfl) (fun _ _ _ h => h) (by kernel_rfl) hCalm ?_ ?_
     rotate_left
     · intro wS hS; (try dsimp only at hS); go_simp <;> with_reducible rfl
     try simp only [Act.put, q8a, q8b, q8c]
     refine grow_take 14 (some 4) ?_ rfl rfl (by kernel_rfl) (fun _ _ _ h => h) (by kernel_rfl) hCalm ?_ ?_
     rotate_left
     · intro wS hS; (try dsimp only at hS); go_simp <;> with_reducible rfl
     try simp only [Act.put, q8a, q8b, q8c]
     refine grow_done (by kernel_rfl) (fun wA hA => ?_) _
     obtain ⟨v2, hv2⟩ : ∃ x, x = wA := ⟨_, rfl⟩
     rw [<- hv2] at hA ⊢
     clear hv2
     have hb := hA; clear hA hCalm
     have S_3 : Hid (Blk v2 w.heap.size 39 #[.int .i64 a.x, .int .i64 a.y, .int .i64 a.w, .int .i64 a.h]) := Lib.hid (S_2.out.below hb S_2.out.lt)
     have T_3 : Hid (Blk v2 (w.heap.size + 1) 39 #[.int .i64 b.x, .int .i64 b.y, .int .i64 b.w, .int .i64 b.h]) := Lib.hid (T_2.out.below hb T_2.out.lt)
     have HB_3 : Hid (Below w.heap.size w v2) := Lib.hid (HB_2.out.trans (hb.mono HB_2.out.size))
     clear hb S_2 T_2 HB_2
     go_wp2_with fail
     go_ret
     exact ⟨rfl, HB_3.out⟩
theorem fold_sm {f : P7 -> P7 -> P7} (hf : ∀ a b : P7, a.sm -> b.sm -> (f a b).sm) : ∀ (l : List P7) (p : P7), p.sm -> (∀ x ∈ l, x.sm) -> (l.foldl f p).sm
 | [], _, h, _ => h
 | x :: l, p, h, hl => fold_sm hf l (f p x) (hf p x h (hl x (by simp))) (fun y hy => hl y (List.mem_cons_of_mem _ hy))
theorem lo7_sm (a b : P7) (h : a.sm) (h2 : b.sm) : (lo7 a b).sm := by unfold P7.sm Sm7 at *; unfold lo7; simp only; omega
theorem hi7_sm (a b : P7) (h : a.sm) (h2 : b.sm) : (hi7 a b).sm := by unfold P7.sm Sm7 at *; unfold hi7; simp only; omega
theorem fold_take {f : P7 -> P7 -> P7} {l : List P7} {i : Nat} (p : P7) (hi : i < l.length) : (l.take (i + 1)).foldl f p = f ((l.take i).foldl f p) l[i] := by
 rw [List.take_add_one, List.getElem?_eq_getElem hi, Option.toList_some, List.foldl_append]; rfl
set_option maxRecDepth 100000 in
set_option maxHeartbeats 8000000 in
theorem paround_any (p0 : P7) (l : List P7) (A : Option Addr) (c : Nat) (w : World) (hA : Pz w A l) (hz : l.length <= 9223372036854775807) (h0 : l[0]? = some p0) (hs : ∀ p ∈ l, p.sm) : Yl 34 #[.slice A l.length c] w (r7v (ar7 p0 l)) := by
 have hl0 : 0 < l.length := (List.getElem?_eq_some_iff.1 h0).1
 have e0 : l[0] = p0 := (List.getElem?_eq_some_iff.1 h0).2
 obtain ⟨b, o, rfl⟩ := hA.some hl0
 have HA := Lib.hid hA; have HS := Lib.hid hs
 have HP0 : Hid (p0.sm) := Lib.hid (e0 ▸ hs _ (List.getElem_mem hl0))
 have HZ : Hid (∀ W, Below w.heap.size w W -> W.cell? ⟨b, o, none⟩ = some (.int .i64 p0.x) /\ W.cell? ⟨b, o + 1, none⟩ = some (.int .i64 p0.y)) := Lib.hid (fun W hW => by
   have h := Pz.cell hA hW (Nat.le_refl _) hl0
   rw [e0] at h
   simpa using h)
 have q0 : (0 : Int) < (l.length : Int) := by omega
 have HL0 := Lib.hid hl0
 clear hA hs h0 e0
 have R_0 : Hid (Blk (w.alloc (.cells #[.int .i64 0, .int .i64 0, .int .i64 0, .int .i64 0] 39)) w.heap.size 39 #[.int .i64 0, .int .i64 0, .int .i64 0, .int .i64 0]) := allocs_blk [(#[.int .i64 0, .int .i64 0, .int .i64 0, .int .i64 0], 39)] w 0 _ rfl
 have HB_0 : Hid (Below w.heap.size w (w.alloc (.cells #[.int .i64 0, .int .i64 0, .int .i64 0, .int .i64 0] 39))) := allocs_below [(#[.int .i64 0, .int .i64 0, .int .i64 0, .int .i64 0], 39)] w (Below.refl w.heap.size w) (Nat.le_refl _)
 go_enter Tryz.func34, Tryz.ntmps34
 go_upto_region 1 with fail
 go_cut [3, 4] from 8 to 13 (fun v3 v4 wx => ∃ p q : Nat, v3 = .pointer (some ⟨p, 0, none⟩) /\ v4 = .pointer (some ⟨q, 0, none⟩) /\ Blk wx p 31 #[.int .i64 p0.x, .int .i64 p0.y] /\ Blk wx q 31 #[.int .i64 p0.x, .int .i64 p0.y] /\ Blk wx w.heap.size 39 #[.int .i64 0, .int .i64 0, .int .i64 0, .int .i64 0] /\ (w.heap.size < p /\ w.heap.size < q) /\ p ≠ q /\ Below w.heap.size w wx)
 case first =>
   refine wp_region_grow (S := (fun w' => w'.cell? ⟨b, o, none⟩ = some (.int .i64 p0.x) /\ w'.cell? ⟨b, o + 1, none⟩ = some (.int .i64 p0.y))) ((fun w' => Below (w.alloc (.cells #[.int .i64 0, .int .i64 0, .int .i64 0, .int .i64 0] 39)).heap.size (w.alloc (.cells #[.int .i64 0, .int .i64 0, .int .i64 0, .int .i64 0] 39)) w')) (by kernel_rfl) (⟨fun w2 h2 => ⟨(HZ.out _ (HB_0.out.trans (h2.mono HB_0.out.size))).1, (HZ.out _ (HB_0.out.trans (h2.mono HB_0.out.size))).2⟩, fun w2 w3 h2 hb2 => h2.trans (hb2.mono h2.size)⟩) ((Below.refl (w.alloc (.cells #[.int .i64 0, .int .i64 0, .int .i64 0, .int .i64 0] 39)).heap.size (w.alloc (.cells #[.int .i64 0, .int .i64 0, .int .i64 0, .int .i64 0] 39))).drew) (fun hCalm => ?_)
   refine grow_take 0 (some 8) ?_ rfl rfl (by kernel_rfl) (fun _ _ _ h => h) (by kernel_rfl) hCalm ?_ ?_
   rotate_left
   · intro wS hS; (try dsimp only at hS); go_simp <;> with_reducible rfl
   try simp only [Act.put, q8a, q8b, q8c]
   refine grow_take 1 (some 9) ?_ rfl rfl (by kernel_rfl) (fun _ _ _ h => h) (by kernel_rfl) hCalm ?_ ?_
   rotate_left
   · intro wS hS; (try dsimp only at hS); go_simp <;> with_reducible rfl
   try simp only [Act.put, q8a, q8b, q8c]
   refine grow_take 2 (some 10) ?_ rfl rfl (by kernel_rfl) (fun _ _ _ h => h) (by kernel_rfl) hCalm ?_ ?_
   rotate_left
   · intro wS hS; (try dsimp only at hS); go_simp <;> with_reducible rfl
   try simp only [Act.put, q8a, q8b, q8c]
   refine grow_take 3 (some 11) ?_ rfl rfl (by kernel_rfl) (fun _ _ _ h => h) (by kernel_rfl) hCalm ?_ ?_
   rotate_left
   · intro wS hS; (try dsimp only at hS); go_simp <;> with_reducible rfl
   try simp only [Act.put, q8a, q8b, q8c]
   refine grow_take 4 (some 12) ?_ rfl rfl (by kernel_rfl) (fun _ _ _ h => h) (by kernel_rfl) hCalm ?_ ?_
   rotate_left
   · intro wS hS; (try dsimp only at hS); go_simp <;> with_reducible rfl
   try simp only [Act.put, q8a, q8b, q8c]
   refine grow_take 5 (some 13) ?_ rfl rfl (by kernel_rfl) (fun _ _ _ h => h) (by kernel_rfl) hCalm ?_ ?_
   rotate_left
   · intro wS hS; (try dsimp only at hS); go_simp <;> with_reducible rfl
   try simp only [Act.put, q8a, q8b, q8c]
   refine grow_each [6, 7] (by kernel_rfl) (by decide) ?_
   refine grow_cons 6 rfl (by kernel_rfl) (fun wA hA K hK => ?_) ?_
   case _ =>
    obtain ⟨pX, hpX⟩ : ∃ b, b = wA.heap.size := ⟨_, rfl⟩
    have le_pX : (w.alloc (.cells #[.int .i64 0, .int .i64 0, .int .i64 0, .int .i64 0] 39)).heap.size <= pX := by rw [hpX]; exact hA.size
    have hnew : Blk (wA.alloc (.cells #[.int .i64 0, .int .i64 0] 31)) pX 31 #[.int .i64 0, .int .i64 0] := by rw [hpX]; exact Blk.new wA _ _
    go_simp
    rw [<- hpX]
    refine grow_new hK hCalm hA hnew (fun h9 => ?_)
    clear hCalm hnew hpX hK K hA wA; have hCalm := h9; clear h9
    try simp only [Act.put, q8a, q8b, q8c]
    refine grow_each [7] (by kernel_rfl) (by decide) ?_
    refine grow_cons 7 rfl (by kernel_rfl) (fun wA hA K hK => ?_) grow_nil
    obtain ⟨pY, hpY⟩ : ∃ b, b = wA.heap.size := ⟨_, rfl⟩
    have le_pY : (w.alloc (.cells #[.int .i64 0, .int .i64 0, .int .i64 0, .int .i64 0] 39)).heap.size <= pY := by rw [hpY]; exact hA.1.size
    have lt_X_pY : pX < pY := by rw [hpY]; exact hA.2.lt
    have hnew : Blk (wA.alloc (.cells #[.int .i64 0, .int .i64 0] 31)) pY 31 #[.int .i64 0, .int .i64 0] := by rw [hpY]; exact Blk.new wA _ _
    go_simp
    rw [<- hpY]
    refine grow_new hK hCalm hA hnew (fun h9 => ?_)
    clear hCalm hnew hpY hK K hA wA; have hCalm := h9; clear h9
    try simp only [Act.put, q8a, q8b, q8c]
    refine grow_each [8] (by kernel_rfl) (by decide) ?_
    refine grow_cons 8 rfl (by kernel_rfl) (fun wA hA K hK => ?_) grow_nil
    have z0 := hA.1.2.cell (i := 0) (v := .int .i64 0) rfl; have f0 := hA.1.2.frozen 0
    have z1 := hA.1.2.cell (i := 1) (v := .int .i64 0) rfl; have f1 := hA.1.2.frozen 1
    go_simp
    clear hCalm; refine grow_put hK (fun w' => ((Below (w.alloc (.cells #[.int .i64 0, .int .i64 0, .int .i64 0, .int .i64 0] 39)).heap.size (w.alloc (.cells #[.int .i64 0, .int .i64 0, .int .i64 0, .int .i64 0] 39)) w') /\ Blk w' pX 31 #[(.int .i64 p0.x), (.int .i64 p0.y)]) /\ Blk w' pY 31 #[.int .i64 0, .int .i64 0]) ⟨fun w2 h2 => ⟨(HZ.out _ (HB_0.out.trans (h2.1.1.mono HB_0.out.size))).1, (HZ.out _ (HB_0.out.trans (h2.1.1.mono HB_0.out.size))).2⟩, fun w2 w3 h2 hb2 => ⟨⟨h2.1.1.trans (hb2.mono h2.1.1.size), h2.1.2.below hb2 h2.1.2.lt⟩, h2.2.below hb2 h2.2.lt⟩⟩ ⟨⟨((hA.1.1.setCell (p := ⟨pX, 0, none⟩) (by show (w.alloc (.cells #[.int .i64 0, .int .i64 0, .int .i64 0, .int .i64 0] 39)).heap.size <= pX; omega) _).setCell (p := ⟨pX, 1, none⟩) (by show (w.alloc (.cells #[.int .i64 0, .int .i64 0, .int .i64 0, .int .i64 0] 39)).heap.size <= pX; omega) _), ((hA.1.2.set 0 _).set 1 _)⟩, ((hA.2.far (p := ⟨pX, 0, none⟩) (by show pY ≠ pX; omega) _).far (p := ⟨pX, 1, none⟩) (by show pY ≠ pX; omega) _)⟩ (fun hCalm => ?_)
    clear z0 f0 z1 f1 hK K hA wA
    try simp only [Act.put]
    refine grow_each [9] (by kernel_rfl) (by decide) ?_
    refine grow_cons 9 rfl (by kernel_rfl) (fun wA hA K hK => ?_) grow_nil
    have z0 := hA.2.cell (i := 0) (v := .int .i64 0) rfl; have f0 := hA.2.frozen 0
    have z1 := hA.2.cell (i := 1) (v := .int .i64 0) rfl; have f1 := hA.2.frozen 1
    go_simp
    clear hCalm; refine grow_put hK (fun w' => ((Below (w.alloc (.cells #[.int .i64 0, .int .i64 0, .int .i64 0, .int .i64 0] 39)).heap.size (w.alloc (.cells #[.int .i64 0, .int .i64 0, .int .i64 0, .int .i64 0] 39)) w') /\ Blk w' pX 31 #[(.int .i64 p0.x), (.int .i64 p0.y)]) /\ Blk w' pY 31 #[(.int .i64 p0.x), (.int .i64 p0.y)]) ⟨fun w2 h2 => ⟨(HZ.out _ (HB_0.out.trans (h2.1.1.mono HB_0.out.size))).1, (HZ.out _ (HB_0.out.trans (h2.1.1.mono HB_0.out.size))).2⟩, fun w2 w3 h2 hb2 => ⟨⟨h2.1.1.trans (hb2.mono h2.1.1.size), h2.1.2.below hb2 h2.1.2.lt⟩, h2.2.below hb2 h2.2.lt⟩⟩ ⟨⟨((hA.1.1.setCell (p := ⟨pY, 0, none⟩) (by show (w.alloc (.cells #[.int .i64 0, .int .i64 0, .int .i64 0, .int .i64 0] 39)).heap.size <= pY; omega) _).setCell (p := ⟨pY, 1, none⟩) (by show (w.alloc (.cells #[.int .i64 0, .int .i64 0, .int .i64 0, .int .i64 0] 39)).heap.size <= pY; omega) _), ((hA.1.2.far (p := ⟨pY, 0, none⟩) (by show pX ≠ pY; omega) _).far (p := ⟨pY, 1, none⟩) (by show pX ≠ pY; omega) _)⟩, ((hA.2.set 0 _).set 1 _)⟩ (fun hCalm => ?_)
    clear z0 f0 z1 f1 hK K hA wA
    try simp only [Act.put]
    refine grow_done (by kernel_rfl) (fun wA hA => ?_) _
    have hsz : ((w.alloc (.cells #[.int .i64 0, .int .i64 0, .int .i64 0, .int .i64 0] 39))).heap.size = w.heap.size + 1 := by simp
    go_wp2_with fail
    go_meet
    exact ⟨pX, pY, rfl, rfl, hA.1.2, hA.2, R_0.out.below hA.1.1 (by rw [hsz]; omega), ⟨by rw [hsz] at le_pX; omega, by rw [hsz] at le_pY; omega⟩, Nat.ne_of_lt lt_X_pY, HB_0.out.trans (hA.1.1.mono HB_0.out.size)⟩
   refine grow_cons 7 rfl (by kernel_rfl) (fun wA hA K hK => ?_) ?_
   case _ =>
    obtain ⟨pY, hpY⟩ : ∃ b, b = wA.heap.size := ⟨_, rfl⟩
    have le_pY : (w.alloc (.cells #[.int .i64 0, .int .i64 0, .int .i64 0, .int .i64 0] 39)).heap.size <= pY := by rw [hpY]; exact hA.size
    have hnew : Blk (wA.alloc (.cells #[.int .i64 0, .int .i64 0] 31)) pY 31 #[.int .i64 0, .int .i64 0] := by rw [hpY]; exact Blk.new wA _ _
    go_simp
    rw [<- hpY]
    refine grow_new hK hCalm hA hnew (fun h9 => ?_)
    clear hCalm hnew hpY hK K hA wA; have hCalm := h9; clear h9
    try simp only [Act.put, q8a, q8b, q8c]
    refine grow_each [6] (by kernel_rfl) (by decide) ?_
    refine grow_cons 6 rfl (by kernel_rfl) (fun wA hA K hK => ?_) grow_nil
    obtain ⟨pX, hpX⟩ : ∃ b, b = wA.heap.size := ⟨_, rfl⟩
    have le_pX : (w.alloc (.cells #[.int .i64 0, .int .i64 0, .int .i64 0, .int .i64 0] 39)).heap.size <= pX := by rw [hpX]; exact hA.1.size
    have lt_Y_pX : pY < pX := by rw [hpX]; exact hA.2.lt
    have hnew : Blk (wA.alloc (.cells #[.int .i64 0, .int .i64 0] 31)) pX 31 #[.int .i64 0, .int .i64 0] := by rw [hpX]; exact Blk.new wA _ _
    go_simp
    rw [<- hpX]
    refine grow_new hK hCalm hA hnew (fun h9 => ?_)
    clear hCalm hnew hpX hK K hA wA; have hCalm := h9; clear h9
    try simp only [Act.put, q8a, q8b, q8c]
    refine grow_each [8] (by kernel_rfl) (by decide) ?_
    refine grow_cons 8 rfl (by kernel_rfl) (fun wA hA K hK => ?_) grow_nil
    have z0 := hA.2.cell (i := 0) (v := .int .i64 0) rfl; have f0 := hA.2.frozen 0
    have z1 := hA.2.cell (i := 1) (v := .int .i64 0) rfl; have f1 := hA.2.frozen 1
    go_simp
    clear hCalm; refine grow_put hK (fun w' => ((Below (w.alloc (.cells #[.int .i64 0, .int .i64 0, .int .i64 0, .int .i64 0] 39)).heap.size (w.alloc (.cells #[.int .i64 0, .int .i64 0, .int .i64 0, .int .i64 0] 39)) w') /\ Blk w' pY 31 #[.int .i64 0, .int .i64 0]) /\ Blk w' pX 31 #[(.int .i64 p0.x), (.int .i64 p0.y)]) ⟨fun w2 h2 => ⟨(HZ.out _ (HB_0.out.trans (h2.1.1.mono HB_0.out.size))).1, (HZ.out _ (HB_0.out.trans (h2.1.1.mono HB_0.out.size))).2⟩, fun w2 w3 h2 hb2 => ⟨⟨h2.1.1.trans (hb2.mono h2.1.1.size), h2.1.2.below hb2 h2.1.2.lt⟩, h2.2.below hb2 h2.2.lt⟩⟩ ⟨⟨((hA.1.1.setCell (p := ⟨pX, 0, none⟩) (by show (w.alloc (.cells #[.int .i64 0, .int .i64 0, .int .i64 0, .int .i64 0] 39)).heap.size <= pX; omega) _).setCell (p := ⟨pX, 1, none⟩) (by show (w.alloc (.cells #[.int .i64 0, .int .i64 0, .int .i64 0, .int .i64 0] 39)).heap.size <= pX; omega) _), ((hA.1.2.far (p := ⟨pX, 0, none⟩) (by show pY ≠ pX; omega) _).far (p := ⟨pX, 1, none⟩) (by show pY ≠ pX; omega) _)⟩, ((hA.2.set 0 _).set 1 _)⟩ (fun hCalm => ?_)
    clear z0 f0 z1 f1 hK K hA wA
    try simp only [Act.put]
    refine grow_each [9] (by kernel_rfl) (by decide) ?_
    refine grow_cons 9 rfl (by kernel_rfl) (fun wA hA K hK => ?_) grow_nil
    have z0 := hA.1.2.cell (i := 0) (v := .int .i64 0) rfl; have f0 := hA.1.2.frozen 0
    have z1 := hA.1.2.cell (i := 1) (v := .int .i64 0) rfl; have f1 := hA.1.2.frozen 1
    go_simp
    clear hCalm; refine grow_put hK (fun w' => ((Below (w.alloc (.cells #[.int .i64 0, .int .i64 0, .int .i64 0, .int .i64 0] 39)).heap.size (w.alloc (.cells #[.int .i64 0, .int .i64 0, .int .i64 0, .int .i64 0] 39)) w') /\ Blk w' pY 31 #[(.int .i64 p0.x), (.int .i64 p0.y)]) /\ Blk w' pX 31 #[(.int .i64 p0.x), (.int .i64 p0.y)]) ⟨fun w2 h2 => ⟨(HZ.out _ (HB_0.out.trans (h2.1.1.mono HB_0.out.size))).1, (HZ.out _ (HB_0.out.trans (h2.1.1.mono HB_0.out.size))).2⟩, fun w2 w3 h2 hb2 => ⟨⟨h2.1.1.trans (hb2.mono h2.1.1.size), h2.1.2.below hb2 h2.1.2.lt⟩, h2.2.below hb2 h2.2.lt⟩⟩ ⟨⟨((hA.1.1.setCell (p := ⟨pY, 0, none⟩) (by show (w.alloc (.cells #[.int .i64 0, .int .i64 0, .int .i64 0, .int .i64 0] 39)).heap.size <= pY; omega) _).setCell (p := ⟨pY, 1, none⟩) (by show (w.alloc (.cells #[.int .i64 0, .int .i64 0, .int .i64 0, .int .i64 0] 39)).heap.size <= pY; omega) _), ((hA.1.2.set 0 _).set 1 _)⟩, ((hA.2.far (p := ⟨pY, 0, none⟩) (by show pX ≠ pY; omega) _).far (p := ⟨pY, 1, none⟩) (by show pX ≠ pY; omega) _)⟩ (fun hCalm => ?_)
    clear z0 f0 z1 f1 hK K hA wA
    try simp only [Act.put]
    refine grow_done (by kernel_rfl) (fun wA hA => ?_) _
    have hsz : ((w.alloc (.cells #[.int .i64 0, .int .i64 0, .int .i64 0, .int .i64 0] 39))).heap.size = w.heap.size + 1 := by simp
    go_wp2_with fail
    go_meet
    exact ⟨pX, pY, rfl, rfl, hA.2, hA.1.2, R_0.out.below hA.1.1 (by rw [hsz]; omega), ⟨by rw [hsz] at le_pX; omega, by rw [hsz] at le_pY; omega⟩, (Nat.ne_of_lt lt_Y_pX).symm, HB_0.out.trans (hA.1.1.mono HB_0.out.size)⟩
   exact grow_nil
 case rest =>
   obtain ⟨p, q, rfl, rfl, hp, hq, hr, hpq, hne, hb⟩ := hcut
   clear R_0 HB_0
   have HP := Lib.hid hp; have HQ := Lib.hid hq; have HR := Lib.hid hr; have HN := Lib.hid hne; have HG := Lib.hid hpq; have HB := Lib.hid hb
   clear hp hq hr hne hpq hb
   go_wp2_with fail
   go_loopw [16] (fun ii wx => ∃ i : Nat, ii = .int .i64 i /\ i <= l.length /\ Blk wx p 31 #[.int .i64 (((l.take i).foldl lo7 p0).x), .int .i64 (((l.take i).foldl lo7 p0).y)] /\ Blk wx q 31 #[.int .i64 (((l.take i).foldl hi7 p0).x), .int .i64 (((l.take i).foldl hi7 p0).y)] /\ Blk wx w.heap.size 39 #[.int .i64 0, .int .i64 0, .int .i64 0, .int .i64 0] /\ (w.heap.size < p /\ w.heap.size < q) /\ p ≠ q /\ Below w.heap.size w wx) (fun ii _ => l.length - (intOf ii).toNat)
   case atStart => exact ⟨0, rfl, Nat.zero_le _, HP.out, HQ.out, HR.out, HG.out, HN.out, HB.out⟩
   case round =>
     clear HP HQ HR HB
     obtain ⟨i, rfl, hi, hp, hq, hr, _, _, hB⟩ := hrel
     have HP := Lib.hid hp; have HQ := Lib.hid hq; have HR := Lib.hid hr; have HB := Lib.hid hB; clear hp hq hr hB
     by_cases hlt : i < l.length
     case neg =>
       obtain rfl : i = l.length := by omega
       rw [List.take_length] at HP HQ
       have HLS : Hid ((l.foldl lo7 p0).sm) := Lib.hid (fold_sm lo7_sm l p0 HP0.out HS.out)
       have HHS : Hid ((l.foldl hi7 p0).sm) := Lib.hid (fold_sm hi7_sm l p0 HP0.out HS.out)
       have HV : Hid (ar7 p0 l = ⟨(l.foldl lo7 p0).x, (l.foldl lo7 p0).y, (fr7 (l.foldl lo7 p0) (l.foldl hi7 p0)).x, (fr7 (l.foldl lo7 p0) (l.foldl hi7 p0)).y⟩) := Lib.hid rfl
       obtain ⟨lo, hlo⟩ : ∃ lo, lo = l.foldl lo7 p0 := ⟨_, rfl⟩
       obtain ⟨hi2, hhi⟩ : ∃ hi2, hi2 = l.foldl hi7 p0 := ⟨_, rfl⟩
       rw [<- hlo, <- hhi] at HV
       rw [<- hlo] at HP HLS
       rw [<- hhi] at HQ HHS
       clear hlt hi hlo hhi
       have d0 := HP.out.cell (i := 0) (v := .int .i64 lo.x) rfl; have d1 := HP.out.cell (i := 1) (v := .int .i64 lo.y) rfl; have d2 := HQ.out.cell (i := 0) (v := .int .i64 hi2.x) rfl; have d3 := HQ.out.cell (i := 1) (v := .int .i64 hi2.y) rfl
       go_wp2_with fail
       refine (pfr_any lo hi2 _ HLS.out HHS.out).mono ?_
       rintro e v9 ⟨rfl, hb⟩
       clear d0 d1 d2 d3
       obtain ⟨sz, hsz⟩ : ∃ sz, sz = fr7 lo hi2 := ⟨_, rfl⟩
       rw [<- hsz] at HV ⊢
       have HP2 := Lib.hid ((HP.out.below hb HP.out.lt).alloc (.cells #[.int .i64 sz.x, .int .i64 sz.y] 31))
       have HR2 := Lib.hid ((HR.out.below hb HR.out.lt).alloc (.cells #[.int .i64 sz.x, .int .i64 sz.y] 31))
       have HBB := HB.out.trans (hb.mono HB.out.size)
       have HB2 := Lib.hid (HBB.alloc HBB.size (.cells #[.int .i64 sz.x, .int .i64 sz.y] 31))
       have HD := Lib.hid (Blk.new v9 31 #[.int .i64 sz.x, .int .i64 sz.y])
       clear hsz hb HBB
       have d0 := HP2.out.cell (i := 0) (v := .int .i64 lo.x) rfl; have d1 := HP2.out.cell (i := 1) (v := .int .i64 lo.y) rfl; have d2 := HD.out.cell (i := 0) (v := .int .i64 sz.x) rfl; have d3 := HD.out.cell (i := 1) (v := .int .i64 sz.y) rfl
       have r0 := HR2.out.cell (i := 0) (v := .int .i64 0) rfl; have f0 := HR2.out.frozen 0
       have r1 := HR2.out.cell (i := 1) (v := .int .i64 0) rfl; have f1 := HR2.out.frozen 1
       have r2 := HR2.out.cell (i := 2) (v := .int .i64 0) rfl; have f2 := HR2.out.frozen 2
       have r3 := HR2.out.cell (i := 3) (v := .int .i64 0) rfl; have f3 := HR2.out.frozen 3
       go_wp2_with fail
       clear r0 f0 d0 r1 f1 d1 r2 f2 d2 r3 f3 d3
       have HFR := Lib.hid ((((HR2.out.set 0 (.int .i64 lo.x)).set 1 (.int .i64 lo.y)).set 2 (.int .i64 sz.x)).set 3 (.int .i64 sz.y))
       have rR0 := HFR.out.cell (i := 0) (v := .int .i64 lo.x) rfl
       have rR1 := HFR.out.cell (i := 1) (v := .int .i64 lo.y) rfl
       have rR2 := HFR.out.cell (i := 2) (v := .int .i64 sz.x) rfl
       have rR3 := HFR.out.cell (i := 3) (v := .int .i64 sz.y) rfl
       exact bodyPost_ret (v := .agg #[.int .i64 lo.x, .int .i64 lo.y, .int .i64 sz.x, .int .i64 sz.y]) (by simp [results, Tryz.results34, go_sem, rR0, rR1, rR2, rR3]) rfl ⟨by rw [HV.out], ((((HB2.out.setCell (p := ⟨w.heap.size, 0, none⟩) (by show w.heap.size <= w.heap.size; omega) (.int .i64 lo.x)).setCell (p := ⟨w.heap.size, 1, none⟩) (by show w.heap.size <= w.heap.size; omega) (.int .i64 lo.y)).setCell (p := ⟨w.heap.size, 2, none⟩) (by show w.heap.size <= w.heap.size; omega) (.int .i64 sz.x)).setCell (p := ⟨w.heap.size, 3, none⟩) (by show w.heap.size <= w.heap.size; omega) (.int .i64 sz.y))⟩
     case pos =>
       have hcell := Pz.cell HA.out HB.out (Nat.le_refl _) hlt
       obtain ⟨k0, k1⟩ := hcell
       have t1 := fold_take (f := lo7) p0 hlt; have t2 := fold_take (f := hi7) p0 hlt
       obtain ⟨d, hd⟩ : ∃ d, d = l[i] := ⟨_, rfl⟩
       obtain ⟨lo, hlo⟩ : ∃ lo, lo = (l.take i).foldl lo7 p0 := ⟨_, rfl⟩
       obtain ⟨hi2, hhi⟩ : ∃ hi2, hi2 = (l.take i).foldl hi7 p0 := ⟨_, rfl⟩
       rw [<- hd] at k0 k1 t1 t2
       rw [<- hlo] at t1 HP
       rw [<- hhi] at t2 HQ
       obtain ⟨mx, hmx⟩ : ∃ m, m = (if d.x < lo.x then d.x else lo.x) := ⟨_, rfl⟩
       obtain ⟨my, hmy⟩ : ∃ m, m = (if d.y < lo.y then d.y else lo.y) := ⟨_, rfl⟩
       obtain ⟨nx, hnx⟩ : ∃ m, m = (if hi2.x < d.x then d.x else hi2.x) := ⟨_, rfl⟩
       obtain ⟨ny, hny⟩ : ∃ m, m = (if hi2.y < d.y then d.y else hi2.y) := ⟨_, rfl⟩
       have HT1 : Hid ((l.take (i + 1)).foldl lo7 p0 = ⟨mx, my⟩) := Lib.hid (by rw [t1, hmx, hmy]; unfold lo7; simp only [P7.mk.injEq]; omega)
       have HT2 : Hid ((l.take (i + 1)).foldl hi7 p0 = ⟨nx, ny⟩) := Lib.hid (by rw [t2, hnx, hny]; unfold hi7; simp only [P7.mk.injEq]; omega)
       have q1 : (0 : Int) <= (i : Int) := by omega
       have q2 : (i : Int) < (l.length : Int) := by omega
       have q5 : (i : Int) <= 9223372036854775806 := by omega
       have HI := Lib.hid hlt
       clear hd hlo hhi t1 t2 hlt hi
       have HP2 := Lib.hid (HP.out.alloc (.cells #[.int .i64 d.x, .int .i64 d.y] 31))
       have HQ2 := Lib.hid (HQ.out.alloc (.cells #[.int .i64 d.x, .int .i64 d.y] 31))
       have HR2 := Lib.hid (HR.out.alloc (.cells #[.int .i64 d.x, .int .i64 d.y] 31))
       have HB2 := Lib.hid (HB.out.alloc HB.out.size (.cells #[.int .i64 d.x, .int .i64 d.y] 31))
       have HD := Lib.hid (Blk.new wr 31 #[.int .i64 d.x, .int .i64 d.y])
       have hm1 := hmx.symm; have hm2 := hmy.symm; have hm3 := hnx.symm; have hm4 := hny.symm
       clear hmx hmy hnx hny
       have hpw : wr.heap.size ≠ p := by have := HP.out.lt; omega
       have hqw : wr.heap.size ≠ q := by have := HQ.out.lt; omega
       have HPW := Lib.hid hpw; have HQW := Lib.hid hqw
       have y0 := HP2.out.cell (i := 0) (v := .int .i64 lo.x) rfl; have y1 := HP2.out.cell (i := 1) (v := .int .i64 lo.y) rfl; have y2 := HP2.out.frozen 0; have y3 := HP2.out.frozen 1
       have x0 := HQ2.out.cell (i := 0) (v := .int .i64 hi2.x) rfl; have x1 := HQ2.out.cell (i := 1) (v := .int .i64 hi2.y) rfl; have x2 := HQ2.out.frozen 0; have x3 := HQ2.out.frozen 1
       have d0 := HD.out.cell (i := 0) (v := .int .i64 d.x) rfl; have d1 := HD.out.cell (i := 1) (v := .int .i64 d.y) rfl
       have hne := HN.out; have hne2 := Ne.symm HN.out; have hpw2 := Ne.symm hpw; have hqw2 := Ne.symm hqw
       go_wp2_with fail
       clear y0 y1 y2 y3 x0 x1 x2 x3 d0 d1 hm1 hm2 hm3 hm4
       go_roundw
       case rel => exact ⟨i + 1, by go_num, HI.out, by rw [HT1.out]; exact ((((HP2.out.set 0 _).set 1 _).far (p := ⟨q, 0, none⟩) HN.out _).far (p := ⟨q, 1, none⟩) HN.out _), by rw [HT2.out]; exact ((((HQ2.out.far (p := ⟨p, 0, none⟩) (Ne.symm HN.out) _).far (p := ⟨p, 1, none⟩) (Ne.symm HN.out) _).set 0 _).set 1 _), ((((HR2.out.far (p := ⟨p, 0, none⟩) (Nat.ne_of_lt HG.out.1) _).far (p := ⟨p, 1, none⟩) (Nat.ne_of_lt HG.out.1) _).far (p := ⟨q, 0, none⟩) (Nat.ne_of_lt HG.out.2) _).far (p := ⟨q, 1, none⟩) (Nat.ne_of_lt HG.out.2) _), HG.out, HN.out, (((HB2.out.setCell (p := ⟨p, 0, none⟩) (Nat.le_of_lt HG.out.1) _).setCell (p := ⟨p, 1, none⟩) (Nat.le_of_lt HG.out.1) _).setCell (p := ⟨q, 0, none⟩) (Nat.le_of_lt HG.out.2) _).setCell (p := ⟨q, 1, none⟩) (Nat.le_of_lt HG.out.2) _⟩
       case measure => have := HI.out; simp [intOf]; omega
end Go.Proofs.YtpjbihfkedbenaaGreat
