/- Numbers in groups of four digits, as plain mathematics. No conditions. | Words for memory: a block that is known whole, how it is kept; slices whose cells are the groups of a number; laws on make, copy and append. No conditions. | New blocks, one after the other. No conditions. | The contracts of trimmed, of carried and of what it folds by. Conditions: the slices read, and are not longer than 3,000 groups. | The contracts of carried and of what it folds by. Conditions: the columns are a block of the call's own, known whole; no column is beyond 10^15 in size; their number is not negative, and needs no more groups than there are columns. | The contracts of plus and minus of amounts. Conditions: the amounts read, and have at most 1,000 groups; for minus, the second is not greater. | The contract of minus of amounts. Conditions: the amounts read, the first has at most 1,000 groups, and the second is not greater. | The contract of times of amounts. Condition: the amounts read, and have at most 1,000 groups. | The contracts of order and of compare of amounts. Conditions: the amounts read, and have at most 1,000 groups. | The contracts of followed, of from and of quotientBounds. Conditions: the amounts read; what from returns has at most four groups; what is divided is less than the base times the divisor. -/
import Derived.Test.YtpjbihfkedbenaaGreatRows
import Derived.WalkKit
import Derived.Lib.Hide
import Derived.Outline
import Derived.Deep.DeepFit
import Derived.Deep.QuietTactic
import Derived.BigQuiet
import Derived.Laws.OwnMore
import Derived.Laws.MakeOwn
import Derived.Laws.CopyRow
import Derived.Laws.Rows
namespace Go.Proofs.YtpjbihfkedbenaaGreat
def dg4 (V i : Nat) : Nat := V / 10000 ^ i % 10000
theorem dg4_lt (V i : Nat) : dg4 V i < 10000 := Nat.mod_lt _ (by omega)
def glen (V : Nat) : Nat := if _h : V = 0 then 0 else glen (V / 10000) + 1
termination_by V
decreasing_by omega
theorem glen_zero : glen 0 = 0 := by rw [glen, dif_pos rfl]
theorem glen_succ {V : Nat} (h : V ≠ 0) : glen V = glen (V / 10000) + 1 := by rw [glen, dif_neg h]
theorem glen_le : ∀ {n V : Nat}, glen V <= n ↔ V < 10000 ^ n
 | 0, V => by
   by_cases h : V = 0
   · subst h; rw [glen_zero]; simp
   · rw [glen_succ h]; simp; omega
 | n + 1, V => by
   by_cases h : V = 0
   · subst h; rw [glen_zero]; exact ⟨fun _ => Nat.pow_pos (by omega), fun _ => by omega⟩
   · rw [glen_succ h, Nat.succ_le_succ_iff, glen_le, Nat.pow_succ]
     exact Nat.div_lt_iff_lt_mul (by omega)
theorem lt_glen (V : Nat) : V < 10000 ^ glen V := glen_le.1 (Nat.le_refl _)
theorem glen_mono {a b : Nat} (h : a <= b) : glen a <= glen b := glen_le.2 (Nat.lt_of_le_of_lt h (lt_glen b))
theorem glen_pos {V : Nat} (h : 0 < V) : 0 < glen V := by rw [glen_succ (by omega)]; omega
theorem dg4_zero {V i : Nat} (h : V < 10000 ^ i) : dg4 V i = 0 := by unfold dg4; rw [Nat.div_eq_of_lt h]
theorem dg4_far {V i : Nat} (h : glen V <= i) : dg4 V i = 0 := dg4_zero (glen_le.1 h)
theorem mod_succ4 (V i : Nat) : V % 10000 ^ (i + 1) = V % 10000 ^ i + 10000 ^ i * dg4 V i := by
 unfold dg4; rw [Nat.pow_succ, Nat.mod_mul]
theorem div_pred4 (V i : Nat) : V / 10000 ^ i = 10000 * (V / 10000 ^ (i + 1)) + dg4 V i := by
 unfold dg4; rw [Nat.pow_succ, <- Nat.div_div_eq_div_mul]; omega
theorem glen_eq {V n : Nat} (h : V < 10000 ^ n) (ht : n = 0 ∨ dg4 V (n - 1) ≠ 0) : glen V = n := by
 have h1 := glen_le.2 h
 rcases ht with rfl | ht
 · omega
 · rcases Nat.lt_or_ge (n - 1) (glen V) with h2 | h2
   · omega
   · exact absurd (dg4_far h2) ht
theorem lt_pred4 {V n : Nat} (h : V < 10000 ^ (n + 1)) (hz : dg4 V n = 0) : V < 10000 ^ n := by
 have h1 := mod_succ4 V n
 rw [Nat.mod_eq_of_lt h, hz, Nat.mul_zero, Nat.add_zero] at h1
 rw [h1]; exact Nat.mod_lt _ (Nat.pow_pos (by omega))
def colv : List Int -> Int
 | [] => 0
 | c :: L => c + 10000 * colv L
theorem colv_set : ∀ (L : List Int) (i : Nat) (x : Int) (h : i < L.length), colv (L.set i x) = colv L + (x - L[i]) * 10000 ^ i
 | c :: L, 0, x, _ => by simp [colv]; omega
 | c :: L, i + 1, x, h => by
   have := colv_set L i x (by simpa using h)
   simp only [List.set_cons_succ, colv, List.getElem_cons_succ, this]
   grind
theorem colv_append : ∀ (L M : List Int), colv (L ++ M) = colv L + 10000 ^ L.length * colv M
 | [], M => by simp [colv]
 | c :: L, M => by
   have := colv_append L M
   simp only [List.cons_append, colv, this, List.length_cons]
   grind
theorem colv_take (L : List Int) (i : Nat) (h : i < L.length) : colv (L.take (i + 1)) = colv (L.take i) + 10000 ^ i * L[i] := by
 rw [List.take_succ_eq_append_getElem h, colv_append, List.length_take, Nat.min_eq_left (by omega)]
 simp [colv]
theorem colv_all (L : List Int) (i : Nat) (h : i < L.length) : colv L = colv (L.take i) + 10000 ^ i * (L[i] + 10000 * colv (L.drop (i + 1))) := by
 have e : L = L.take i ++ L[i] :: L.drop (i + 1) := by
   rw [List.getElem_cons_drop, List.take_append_drop]
 have h1 : colv (L.take i ++ L[i] :: L.drop (i + 1)) = _ := colv_append (L.take i) (L[i] :: L.drop (i + 1))
 rw [<- e, List.length_take, Nat.min_eq_left (by omega)] at h1
 exact h1
def grps (V n : Nat) : List Int := (List.range n).map fun i => (dg4 V i : Int)
theorem grps_length (V n : Nat) : (grps V n).length = n := by simp [grps]
theorem grps_at (V n i : Nat) (h : i < (grps V n).length) : (grps V n)[i] = dg4 V i := by simp [grps]
theorem grps_succ (V n : Nat) : grps V (n + 1) = grps V n ++ [(dg4 V n : Int)] := by simp [grps, List.range_succ]
theorem colv_grps (V : Nat) : ∀ n, colv (grps V n) = ((V % 10000 ^ n : Nat) : Int)
 | 0 => by simp [grps, colv, Nat.mod_one]
 | n + 1 => by
   rw [grps_succ, colv_append, colv_grps V n, grps_length, mod_succ4]
   simp [colv]
theorem colv_full {V n : Nat} (h : V < 10000 ^ n) : colv (grps V n) = V := by rw [colv_grps, Nat.mod_eq_of_lt h]
def cry (L : List Int) (i : Nat) : Int := colv (L.take i) / 10000 ^ i
theorem cry_zero (L : List Int) : cry L 0 = 0 := by simp [cry, colv]
theorem pow4_pos (i : Nat) : (0 : Int) < 10000 ^ i := Int.pow_pos (by omega)
theorem cry_succ (L : List Int) (i : Nat) (h : i < L.length) : cry L (i + 1) = (cry L i + L[i]) / 10000 := by
 unfold cry
 have hp := pow4_pos i
 rw [colv_take L i h, Int.pow_succ, <- Int.ediv_ediv_of_nonneg (Int.le_of_lt hp), Int.add_mul_ediv_left _ _ (by omega)]
theorem cry_group {L : List Int} {V : Nat} (hV : colv L = V) (i : Nat) (h : i < L.length) : (cry L i + L[i]) % 10000 = (dg4 V i : Nat) := by
 have hp := pow4_pos i
 have h1 := colv_all L i h
 have h2 : ((V : Int) / 10000 ^ i) = cry L i + L[i] + 10000 * colv (L.drop (i + 1)) := by
   rw [<- hV, h1, Int.add_mul_ediv_left _ _ (by omega)]; unfold cry; omega
 have h3 : ((dg4 V i : Nat) : Int) = (V : Int) / 10000 ^ i % 10000 := by unfold dg4; simp
 rw [h3, h2]; omega
theorem cry_bound {L : List Int} (hb : ∀ c ∈ L, -1000000000000000 <= c /\ c <= 1000000000000000) : ∀ i, i <= L.length -> -1000000000000000 <= cry L i /\ cry L i <= 1000000000000000
 | 0, _ => by rw [cry_zero]; omega
 | i + 1, h => by
   have := cry_bound hb i (by omega)
   have h2 := hb L[i] (List.getElem_mem _)
   rw [cry_succ L i (by omega)]; omega
theorem rem_group (s : Int) : ((s.tmod 10000) + 10000).tmod 10000 = s % 10000 := by
 rcases Int.le_total 0 s with h | h
 · rw [Int.tmod_eq_emod_of_nonneg h, Int.tmod_eq_emod_of_nonneg (by omega)]; omega
 · have h1 : s.tmod 10000 = -((-s) % 10000) := by
     rw [<- Int.tmod_eq_emod_of_nonneg (show 0 <= -s by omega), Int.neg_tmod, Int.neg_neg]
   rw [h1, Int.tmod_eq_emod_of_nonneg (by omega)]; omega
theorem quo_group (s : Int) : (s - s % 10000).tdiv 10000 = s / 10000 := by
 have : s - s % 10000 = (s / 10000) * 10000 := by omega
 rw [this, Int.mul_tdiv_cancel _ (by omega)]
end Go.Proofs.YtpjbihfkedbenaaGreat
namespace Go.Proofs.YtpjbihfkedbenaaGreat
open Go.RowKit Go.Lib
theorem ret_int {k : IntKind} {a b : Int} (h : a = b) : Ending.returned (.int k a) = .returned (.int k b) := by rw [h]
def iv (x : Int) : Value := .int .i64 x
def Blk (w : World) (g : Nat) (t : TypeId) (cs : Array Value) : Prop := w.heap[g]? = some (.cells cs t (0, 0))
section
variable {w w' : World} {g : Nat} {t : TypeId} {cs : Array Value}
theorem Blk.lt (h : Blk w g t cs) : g < w.heap.size := (Array.getElem?_eq_some_iff.1 h).1
theorem Blk.cell (h : Blk w g t cs) {i : Nat} {v : Value} (hv : cs[i]? = some v) : w.cell? ⟨g, i, none⟩ = some v := by
 unfold Blk at h; simp [World.cell?, h, hv]
theorem Blk.frozen (h : Blk w g t cs) (i : Nat) : w.frozen? ⟨g, i, none⟩ = false := by
 unfold Blk at h; simp [World.frozen?, h]
theorem Blk.new (w : World) (t : TypeId) (cs : Array Value) : Blk (w.alloc (.cells cs t)) w.heap.size t cs := heap_alloc_new w _
theorem Blk.drew (h : Blk w g t cs) : Blk w.drew g t cs := h
theorem Blk.drewN (h : Blk w g t cs) (n : Nat) : Blk (w.drewN n) g t cs := h
theorem Blk.alloc (h : Blk w g t cs) (o : Obj) : Blk (w.alloc o) g t cs := (Below.heap_alloc w o g h.lt).trans h
theorem Blk.set (h : Blk w g t cs) (i : Nat) (u : Value) : Blk (w.setCell ⟨g, i, none⟩ u) g t (cs.setIfInBounds i u) := by
 unfold Blk at h ⊢; simp [World.setCell, Array.getElem?_modify, h]
theorem Blk.far (h : Blk w g t cs) {p : Addr} (hp : g ≠ p.block) (u : Value) : Blk (w.setCell p u) g t cs := (Below.heap_setCell w p u g hp).trans h
theorem Blk.below {B : Nat} (h : Blk w g t cs) (hb : Below B w w') (hg : g < B) : Blk w' g t cs := (hb.block g hg).trans h
theorem Blk.setRow (h : Blk w g t cs) (cs' : Array Value) : Blk (w.setRow g cs') g t cs' := setRow_heap w g cs cs' t (0, 0) h
theorem Blk.farRow {g' : Nat} (h : Blk w g t cs) (hg : g ≠ g') (cs' : Array Value) : Blk (w.setRow g' cs') g t cs := (setRow_other w g' g cs' hg).trans h
theorem Blk.only {row : Option Nat} (h : Blk w g t cs) (hg : w.grownBy w' row) (hne : some g ≠ row) : Blk w' g t cs := (hg.block g h.lt hne).trans h
end
theorem below_drewN {B : Nat} {a w : World} (h : Below B a w) (n : Nat) : Below B a (w.drewN n) := ⟨h.os, h.tape, h.output, h.size, h.block⟩
theorem below_setRow {B : Nat} {a w : World} (h : Below B a w) {g : Nat} (hg : B <= g) (cs : Array Value) : Below B a (w.setRow g cs) :=
 h.trans ⟨rfl, rfl, rfl, by simp, fun k hk => setRow_other w g k cs (by omega)⟩
theorem only_setCell {a w : World} {g : Nat} (h : a.grownBy w (some g)) (i : Nat) (u : Value) : a.grownBy (w.setCell ⟨g, i, none⟩ u) (some g) :=
 ⟨h.os, h.tape, h.output, by simpa [World.setCell] using h.size, fun k hk hne => (Below.heap_setCell w ⟨g, i, none⟩ u k (fun e => hne (by rw [e]))).trans (h.block k hk hne)⟩
theorem iv_at {l : List Int} {i : Nat} (h : i < l.length) : ((l.map iv).toArray)[i]? = some (iv l[i]) := by
 rw [List.getElem?_toArray, List.getElem?_map, List.getElem?_eq_getElem h]; rfl
theorem iv_set {l : List Int} {i : Nat} {x : Int} : ((l.map iv).toArray).setIfInBounds i (iv x) = ((l.set i x).map iv).toArray := by
 rw [List.setIfInBounds_toArray, List.map_set]
def Am (w : World) (A : Option Addr) (n c V : Nat) : Prop :=
 n <= c /\ (0 < n -> ∃ b o, A = some ⟨b, o, none⟩ /\ b < w.heap.size /\ ∀ i, i < n -> w.cell? ⟨b, o + i, none⟩ = some (.int .i64 (dg4 V i : Nat)))
section
variable {w w' : World} {A : Option Addr} {n c V : Nat}
theorem Am.below (h : Am w A n c V) (hb : Below w.heap.size w w') : Am w' A n c V :=
 ⟨h.1, fun hn => by
   obtain ⟨b, o, e, hl, hc⟩ := h.2 hn
   exact ⟨b, o, e, Nat.lt_of_lt_of_le hl hb.size, fun i hi => (hb.cell (p := ⟨b, o + i, none⟩) hl).trans (hc i hi)⟩⟩
theorem Am.drewN (h : Am w A n c V) (k : Nat) : Am (w.drewN k) A n c V := h
theorem Am.drew (h : Am w A n c V) : Am w.drew A n c V := h
theorem Am.less {m : Nat} (h : Am w A n c V) (hm : m <= n) : Am w A m c V :=
 ⟨Nat.le_trans hm h.1, fun h0 => by
   obtain ⟨b, o, e, hl, hc⟩ := h.2 (by omega)
   exact ⟨b, o, e, hl, fun i hi => hc i (by omega)⟩⟩
theorem Am.far (h : Am w A n c V) {p : Addr} (hp : ∀ b o, A = some ⟨b, o, none⟩ -> b ≠ p.block) (u : Value) : Am (w.setCell p u) A n c V :=
 ⟨h.1, fun hn => by
   obtain ⟨b, o, e, hl, hc⟩ := h.2 hn
   exact ⟨b, o, e, by simpa [World.setCell] using hl, fun i hi => (World.cell?_of_block (w := w) (a := ⟨b, o + i, none⟩) (Below.heap_setCell w p u b (hp b o e))).trans (hc i hi)⟩⟩
theorem Am.zero : Am w A 0 c V := ⟨Nat.zero_le _, fun h => absurd h (by omega)⟩
theorem Am.of_blk {g : Nat} {t : TypeId} {L : List Int} (h : Blk w g t (L.map iv).toArray) (hL : L = grps V L.length) : Am w (some ⟨g, 0, none⟩) L.length L.length V :=
 ⟨Nat.le_refl _, fun _ => ⟨g, 0, rfl, h.lt, fun i hi => by
   rw [Nat.zero_add]
   have h1 := h.cell (iv_at hi)
   rw [h1]
   have h2 : L[i] = (grps V L.length)[i]'(by rw [grps_length]; exact hi) := by congr 1
   rw [h2, grps_at]; rfl⟩⟩
theorem Am.only {row : Option Nat} (h : Am w A n c V) (hg : w.grownBy w' row) (hne : ∀ b o, A = some ⟨b, o, none⟩ -> some b ≠ row) : Am w' A n c V :=
 ⟨h.1, fun hn => by
   obtain ⟨b, o, e, hl, hc⟩ := h.2 hn
   exact ⟨b, o, e, Nat.lt_of_lt_of_le hl hg.size, fun i hi => hg.cell (hc i hi) (hne b o e)⟩⟩
end
def OutN (V : Nat) (w : World) (e : Ending) (w' : World) : Prop := ∃ A c, e = .returned (.slice A (glen V) c) /\ Am w' A (glen V) c V /\ Below w.heap.size w w'
theorem info_i64 : (Tryz.prog.info? 3).map (fun i => (i.zero, i.size, i.bytes)) = some (some (.int .i64 0), 1, 8) := by kernel_rfl
theorem info_of {P : Program} {e : TypeId} {z : Value} {s b : Nat} (h : (P.info? e).map (fun i => (i.zero, i.size, i.bytes)) = some (some z, s, b)) : ∃ i, P.info? e = some i /\ i.zero = some z /\ i.size = s /\ i.bytes = b := by
 cases hq : P.info? e with
 | none => simp [hq] at h
 | some i =>
   have : i.zero = some z /\ i.size = s /\ i.bytes = b := by simpa [hq] using h
   exact ⟨i, rfl, this.1, this.2.1, this.2.2⟩
def zc (k : Nat) : Array Value := ((List.replicate k (0 : Int)).map iv).toArray
theorem run_make_ints (t : TypeId) (ht : Tryz.prog.underlying t = some (.slice 3)) (l k : Nat) (hl : l <= k) (hk : k <= 100000) (w : World) :
   (Instr.makeSlice t (.int .i64 (l : Nat)) (.int .i64 (k : Nat))).run Tryz.prog w = .ok (.slice (some ⟨w.heap.size, 0, none⟩) l k) (w.alloc (.cells (zc k) 3)) := by
 unfold zc
 obtain ⟨i, hi, hz, hs, hb⟩ := info_of info_i64
 have h := run_make (P := Tryz.prog) w t 3 i (.int .i64 0) ht hi hz .i64 .i64 l k (by omega) (by omega) (by rw [hb]; omega) (by omega)
 rw [hs] at h
 have e : madeCells (Value.int .i64 0).cells k = ((List.replicate k (0 : Int)).map iv).toArray := by
   apply Array.ext
   · simp [madeCells]
   · intro j h1 h2
     simp [madeCells, Nat.mod_one, iv, Value.cells]
 simp only [Int.toNat_natCast, Nat.mul_one] at h
 rw [e] at h
 exact h
theorem wpList_append_room {w : World} {ops : Array Oper} {rest : List Oper} {o : Oper} {a : Act} {Q : Exit -> Act -> World -> Prop} (hgd : o.guard = none) (s x : Operand) (t : TypeId)
   (ho : o.op = .call { callee := .builtin .append, args := #[s, x], argTypes := #[t, t] }) (ht : Tryz.prog.underlying t = some (.slice 3))
   (g n cap : Nat) (cur : Array Value) (hs : a.eval s = .slice (some ⟨g, 0, none⟩) n cap) (hg : Blk w g 3 cur)
   (ad : Addr) (u : Value) (hx : a.eval x = .slice (some ad) 1 1) (hu : w.cell? ad = some u) (hu1 : u.oneCell' = true) (hroom : n + 1 <= cap) (hfit : n + 1 <= cur.size)
   (h : ∀ w1, w1 = w.setRow g (cur.setIfInBounds n u) -> wpList Tryz.prog ops Q rest (a.put o.dst (.slice (some ⟨g, 0, none⟩) (n + 1) cap)) w1) : wpList Tryz.prog ops Q (o :: rest) a w := by
 obtain ⟨i, hi, hz, hsz, hb⟩ := info_of info_i64
 refine wpList_plain hgd fun K hK => ?_
 have hr := run_append_room (P := Tryz.prog) w t o.type 3 i ht hi g n cap cur hg ad 1 1 [u] (by rw [hsz]; rfl) (by
   intro j v hj
   cases j with
   | zero => have : u = v := by simpa using hj
             subst this
             have e : ad.add 0 = ad := by unfold Addr.add; split <;> simp_all
             rw [e]; exact hu
   | succ j => simp at hj) (by intro v hv; rw [List.mem_singleton] at hv; rw [hv]; exact hu1) hroom (by rw [hsz]; simp; omega)
 rw [hsz] at hr
 have e : (cur.toList.take (n * 1) ++ [u] ++ cur.toList.drop (n * 1 + [u].length)).toArray = cur.setIfInBounds n u := by
   apply Array.toList_inj.1
   simp only [Nat.mul_one, List.length_singleton, Array.toList_setIfInBounds]
   rw [List.set_eq_take_append_cons_drop, if_pos (by simp; omega)]
   simp
 rw [e] at hr
 unfold Oper.wp execOp
 simp only [ho, resolve, invoke, builtin, Sem.run_bind, Sem.run_pure, Result.andThen_ok, List.map_toArray, List.map_cons, List.map_nil, hs, hx, hr]
 exact hK _ _ (h _ rfl)
def allocs (w : World) : List (Array Value × TypeId) -> World
 | [] => w
 | x :: r => allocs (w.alloc (.cells x.1 x.2)) r
theorem allocs_size : ∀ (l : List (Array Value × TypeId)) (w : World), (allocs w l).heap.size = w.heap.size + l.length
 | [], _ => rfl
 | x :: r, w => by
   show (allocs _ r).heap.size = _
   rw [allocs_size r]; simp; omega
theorem allocs_below : ∀ (l : List (Array Value × TypeId)) (w : World) {B : Nat} {w0 : World}, Below B w0 w -> B <= w.heap.size -> Below B w0 (allocs w l)
 | [], _, _, _, h, _ => h
 | x :: r, w, _, _, h, hB => allocs_below r _ (h.alloc hB _) (by simp; omega)
theorem allocs_keep : ∀ (l : List (Array Value × TypeId)) (w : World) {g : Nat} {t : TypeId} {cs : Array Value}, Blk w g t cs -> Blk (allocs w l) g t cs
 | [], _, _, _, _, h => h
 | _ :: r, _, _, _, _, h => allocs_keep r _ (h.alloc _)
theorem allocs_blk : ∀ (l : List (Array Value × TypeId)) (w : World) (i : Nat) (x : Array Value × TypeId), l[i]? = some x -> Blk (allocs w l) (w.heap.size + i) x.2 x.1
 | y :: r, w, 0, x, h => by
   simp at h
   subst h
   exact allocs_keep r _ (Blk.new w _ _)
 | y :: r, w, i + 1, x, h => by
   have h2 := allocs_blk r (w.alloc (.cells y.1 y.2)) i x (by simpa using h)
   rw [show (w.alloc (.cells y.1 y.2)).heap.size + i = w.heap.size + (i + 1) from by simp; omega] at h2
   exact h2
theorem run_upto (t : TypeId) (ht : Tryz.prog.underlying t = some (.slice 3)) (b o n c k : Nat) (hk : k <= c) (w : World) :
   (Instr.slice t (.slice (some ⟨b, o, none⟩) n c) none (some (.int .i64 (k : Nat))) none).run Tryz.prog w = .ok (.slice (some ⟨b, o, none⟩) k c) w := by
 obtain ⟨i, hi, hz, hs, hb⟩ := info_of info_i64
 have h1 : (k : Int) <= c := by omega
 have h3 : (⟨b, o, none⟩ : Addr).add 0 = ⟨b, o, none⟩ := by unfold Addr.add; rfl
 simp [Instr.slice, run_underlying ht, Instr.sliceBounds, run_sliceBound, h1, sizeOf, typeInfo, hi, h3]
def lenV : Value -> Nat
 | .slice _ n _ => n
 | _ => 0
set_option maxRecDepth 100000 in
theorem trimmed_any (A : Option Addr) (n c V : Nat) (w : World) (hA : Am w A n c V) (hV : V < 10000 ^ n) (hn : n <= 3000) :
   Calls Tryz.prog 117 #[.slice A n c] w fun e w' => e = .returned (.slice A (glen V) c) /\ w = w' := by
 have HA := Lib.hid hA; have HV := Lib.hid hV; have hnc := hA.1; clear hA hV
 go_enter Tryz.func117, Tryz.ntmps117
 go_wp2
 go_loop [0] (fun a => ∃ m, a = .slice A m c /\ m <= n /\ Hid (V < 10000 ^ m)) (fun a => lenV a)
 case atStart => exact ⟨n, rfl, Nat.le_refl _, HV.out⟩
 case round =>
   obtain ⟨m, rfl, hm, HM⟩ := hrel
   by_cases h0 : 0 < m
   · obtain ⟨b, o, rfl, hb, hc⟩ := HA.out.2 (by omega)
     obtain ⟨k, rfl⟩ : ∃ k, m = k + 1 := ⟨m - 1, by omega⟩
     have hcell := hc k (by omega)
     clear hc
     have hs := run_upto 87 Tryz.underlying87 b o (k + 1) c k (by omega)
     have p1 : (0 : Int) < ((k + 1 : Nat) : Int) := by omega
     have p2 : ((k + 1 : Nat) : Int) - 1 = (k : Int) := by omega
     rw [show ((k + 1 : Nat) : Int) = (k : Int) + 1 from by omega] at p1 p2
     have p3 : ((k : Int) + 1 - 1).toNat = k := by omega
     by_cases hz : dg4 V k = 0
     · have HM2 := Lib.hid (lt_pred4 HM.out hz)
       rw [hz] at hcell
       have HZ := Lib.hid hz; clear hz
       go_wp2
       go_round
       case rel => exact ⟨k, rfl, by omega, HM2.out⟩
       case measure => simp [lenV]
     · have hz2 : ((dg4 V k : Int) == 0) = false := by rw [beq_eq_false_iff_ne]; omega
       have HE := Lib.hid (glen_eq HM.out (.inr (by rw [Nat.add_sub_cancel]; exact hz)))
       clear hz
       go_wp2
       go_ret
       exact ⟨by rw [HE.out]; rfl, rfl⟩
   · have HE := Lib.hid (glen_eq HM.out (.inl (by omega)))
     obtain rfl : m = 0 := by omega
     go_wp2
     go_ret
     exact ⟨by rw [HE.out]; rfl, rfl⟩
def Laid (B g bx j k : Nat) (L : List Int) (s : Int) (w : World) (e : Ending) (w' : World) : Prop :=
 e = .returned (.int .i64 (s / 10000)) /\ Blk w' g 3 ((L.set j (s % 10000)).map iv).toArray /\ Blk w' bx 86 #[.slice (some ⟨g, 0, none⟩) (j + 1) k] /\ Below B w w'
set_option maxRecDepth 100000 in
theorem carry_step (B g bx j k : Nat) (L : List Int) (x y : Int) (w : World) (hg : Blk w g 3 (L.map iv).toArray) (hb : Blk w bx 86 #[.slice (some ⟨g, 0, none⟩) j k])
   (hL : L.length = k) (hj : j < k) (_ : k <= 3000) (hx : -2000000000000000 <= x /\ x <= 2000000000000000) (hy : -2000000000000000 <= y /\ y <= 2000000000000000) (hBg : B <= g) (hBb : B <= bx) (hB : B <= w.heap.size) :
   Calls Tryz.prog 120 #[.int .i64 x, .int .i64 y, .pointer (some ⟨bx, 0, none⟩)] w (Laid B g bx j k L (x + y) w) := by
 have c0 := hb.cell (i := 0) (v := .slice (some ⟨g, 0, none⟩) j k) rfl
 have f0 := hb.frozen 0
 have hne : g ≠ bx := by
   intro e; subst e
   have h1 : Blk w g 86 _ := hb
   unfold Blk at h1 hg
   rw [hg] at h1
   simp at h1
 have r1 := rem_group (x + y)
 have r2 := quo_group (x + y)
 have q0 : 0 <= (x + y) % 10000 := Int.emod_nonneg _ (by omega)
 have q1 : (x + y) % 10000 < 10000 := Int.emod_lt_of_pos _ (by omega)
 have q2 : -9999 <= (x + y).tmod 10000 := by
   rcases Int.le_total 0 (x + y) with h | h
   · rw [Int.tmod_eq_emod_of_nonneg h]; omega
   · have h1 : (x + y).tmod 10000 = -((-(x + y)) % 10000) := by rw [<- Int.tmod_eq_emod_of_nonneg (show 0 <= -(x + y) by omega), Int.neg_tmod, Int.neg_neg]
     rw [h1]; omega
 have q3 : (x + y).tmod 10000 <= 9999 := by
   rcases Int.le_total 0 (x + y) with h | h
   · rw [Int.tmod_eq_emod_of_nonneg h]; omega
   · have h1 : (x + y).tmod 10000 = -((-(x + y)) % 10000) := by rw [<- Int.tmod_eq_emod_of_nonneg (show 0 <= -(x + y) by omega), Int.neg_tmod, Int.neg_neg]
     rw [h1]; omega
 have HG := Lib.hid hg; have HB := Lib.hid hb; have HL := Lib.hid hL
 clear hg hb hL
 go_enter Tryz.func120, Tryz.ntmps120
 go_wp2_with (at_builtin; go_loud (refine wpList_append_room rfl _ _ 86 rfl Tryz.underlying86 g j k ((L.map iv).toArray) rfl (HG.out.alloc _) ⟨w.heap.size, 0, none⟩ (.int .i64 ((x + y) % 10000)) rfl (World.cell?_alloc_at _ _ _ _ rfl) rfl (by omega) (by simp [HL.out]; omega) ?_; intro w1 hw1; have hG1 : Blk w1 g 3 ((L.set j ((x + y) % 10000)).map iv).toArray := (by rw [hw1, <- iv_set]; exact (HG.out.alloc _).setRow _); have hB1 : Blk w1 bx 86 #[.slice (some ⟨g, 0, none⟩) j k] := (by rw [hw1]; exact (HB.out.alloc _).farRow (Ne.symm hne) _); have f1 := hB1.frozen 0; have c1 := hB1.cell (i := 0) (v := .slice (some ⟨g, 0, none⟩) j k) rfl; have hb1 : Below B w w1 := (by rw [hw1]; exact below_setRow ((Below.refl B w).alloc hB _) hBg _); have HG1 := Lib.hid hG1; have HB1 := Lib.hid hB1; clear hw1 hG1 hB1))
 go_ret
 exact ⟨rfl, HG1.out.far hne _, HB1.out.set 0 _, hb1.setCell hBb _⟩
theorem carry_row {V j : Nat} {L : List Int} (h : j < L.length) : ((grps V j ++ L.drop j).set j (dg4 V j : Int)) = grps V (j + 1) ++ L.drop (j + 1) := by
 rw [List.set_append_right _ _ (by rw [grps_length]; exact Nat.le_refl _), grps_length, Nat.sub_self, <- List.getElem_cons_drop (h := h), List.set_cons_zero, grps_succ, List.append_assoc]
 rfl
theorem carry_at {V j : Nat} {L : List Int} (h : j < L.length) : (grps V j ++ L.drop j)[j]'(by rw [List.length_append, grps_length, List.length_drop]; omega) = L[j] := by
 rw [List.getElem_append_right (by rw [grps_length]; exact Nat.le_refl _)]
 simp [grps_length]
set_option maxRecDepth 100000 in
theorem carry_fold (B g bx k V : Nat) (L : List Int) (w : World) (hg : Blk w g 3 (L.map iv).toArray) (hb : Blk w bx 86 #[.slice (some ⟨g, 0, none⟩) 0 k])
   (hL : L.length = k) (hk : k <= 3000) (hV : colv L = V) (hc : ∀ c ∈ L, -1000000000000000 <= c /\ c <= 1000000000000000) (hBg : B <= g) (hBb : B <= bx) (hB : B <= w.heap.size) :
   Calls Tryz.prog 119 #[.slice (some ⟨g, 0, none⟩) k k, .int .i64 0, .func (.func 120) #[] #[.pointer (some ⟨bx, 0, none⟩)]] w
     fun e w' => (∃ v, e = .returned v) /\ Blk w' g 3 ((grps V k).map iv).toArray /\ Blk w' bx 86 #[.slice (some ⟨g, 0, none⟩) k k] /\ Below B w w' := by
 have HG := Lib.hid hg; have HB := Lib.hid hb; have HL := Lib.hid hL; have HV := Lib.hid hV; have HC := Lib.hid hc
 clear hg hb hL hV hc
 go_enter Tryz.func119, Tryz.ntmps119
 go_wp2
 go_loopw [7, 13] (fun s ii wr => ∃ j : Nat, ii = .int .i64 j /\ j <= k /\ s = .int .i64 (cry L j) /\ Blk wr g 3 ((grps V j ++ L.drop j).map iv).toArray /\ Blk wr bx 86 #[.slice (some ⟨g, 0, none⟩) j k] /\ Below B w wr) (fun _ ii _ => k - (intOf ii).toNat)
 case atStart => exact ⟨0, rfl, Nat.zero_le _, (by rw [cry_zero]), HG.out, HB.out, Below.refl _ _⟩
 case round =>
   obtain ⟨j, rfl, hj, rfl, hG, hB2, hbl⟩ := hrel
   by_cases hlt : j < k
   · have hjl : j < L.length := by rw [HL.out]; exact hlt
     have hlen : (grps V j ++ L.drop j).length = k := by rw [List.length_append, grps_length, List.length_drop, HL.out]; omega
     have c0 := hG.cell (iv_at (i := j) (by rw [hlen]; exact hlt))
     rw [carry_at hjl] at c0
     have hs1 := hbl.size
     have hy := HC.out L[j] (List.getElem_mem _)
     have hx := cry_bound HC.out j (by omega)
     have e1 := cry_succ L j hjl
     have e2 := cry_group HV.out j hjl
     obtain ⟨y, hy2⟩ : ∃ y, y = L[j] := ⟨_, rfl⟩
     rw [<- hy2] at c0 hy e1 e2
     obtain ⟨x, hx2⟩ : ∃ x, x = cry L j := ⟨_, rfl⟩
     rw [<- hx2] at hx e1 e2 ⊢
     have hst := fun w2 (h2 : Below wr.heap.size wr w2) => carry_step B g bx j k (grps V j ++ L.drop j) x y w2
     have HST := carry_step B g bx j k (grps V j ++ L.drop j) x y wr hG hB2 hlen hlt hk (by omega) (by omega) hBg hBb (by omega)
     have HE1 := Lib.hid e1; have HE2 := Lib.hid e2; have HS := Lib.hid HST
     rw [iv] at c0
     have q1 : (0 : Int) <= (j : Int) := by omega
     have q2 : (j : Int) < (k : Int) := by omega
     clear e1 e2 HST hst hlen hG hB2 hx2 hy2
     go_wp2_with (go_at_call 120; refine HS.out.mono ?_; rintro e w1 ⟨rfl, hG1, hB1, hbl1⟩; rw [HE2.out, carry_row hjl] at hG1; rw [<- HE1.out])
     go_roundw
     case rel => exact ⟨j + 1, by go_num, by omega, rfl, hG1, hB1, hbl.trans hbl1⟩
     case measure => simp [intOf]; omega
   · obtain rfl : j = k := by omega
     rw [List.drop_of_length_le (by rw [HL.out]; omega), List.append_nil] at hG
     go_wp2
     go_ret
     exact ⟨⟨_, rfl⟩, hG, hB2, hbl⟩
def OutC (B g V k : Nat) (w : World) (e : Ending) (w' : World) : Prop := e = .returned (.slice (some ⟨g, 0, none⟩) (glen V) k) /\ Am w' (some ⟨g, 0, none⟩) (glen V) k V /\ Below B w w'
set_option maxRecDepth 100000 in
theorem carried_any (B g k V : Nat) (L : List Int) (w : World) (hg : Blk w g 3 (L.map iv).toArray) (hL : L.length = k) (hk : k <= 3000) (hV : colv L = V) (hV2 : V < 10000 ^ k)
   (hc : ∀ c ∈ L, -1000000000000000 <= c /\ c <= 1000000000000000) (hBg : B <= g) :
   Calls Tryz.prog 109 #[.slice (some ⟨g, 0, none⟩) k k] w (OutC B g V k w) := by
 have hs := run_upto 86 Tryz.underlying86 g 0 k k 0 (Nat.zero_le _)
 have hB : B <= w.heap.size := Nat.le_trans hBg (Nat.le_of_lt hg.lt)
 have hf : ∀ (o : Obj), o = .cells #[.slice (some ⟨g, 0, none⟩) 0 k] 86 -> Hid (Calls Tryz.prog 119 #[.slice (some ⟨g, 0, none⟩) k k, .int .i64 0, .func (.func 120) #[] #[.pointer (some ⟨w.heap.size, 0, none⟩)]] (w.alloc o)
     fun e w' => (∃ v, e = .returned v) /\ Blk w' g 3 ((grps V k).map iv).toArray /\ Blk w' w.heap.size 86 #[.slice (some ⟨g, 0, none⟩) k k] /\ Below B (w.alloc o) w') := by
   rintro o rfl
   exact carry_fold B g w.heap.size k V L _ (hg.alloc _) (Blk.new w _ _) hL hk hV hc hBg hB (by simp; omega)
 have HF := hf _ rfl
 have HV2 := Lib.hid hV2
 have hmf : ∀ (fn : Fn) (first cap : Array Value) (w : World), (Instr.makeFunc fn first cap).run Tryz.prog w = .ok (.func fn first cap) w := fun _ _ _ _ => rfl
 clear hf hg hL hV hc hV2
 rw [show ((0 : Nat) : Int) = 0 from rfl] at hs
 go_enter Tryz.func109, Tryz.ntmps109
 go_wp2_with fail
 refine HF.out.mono ?_
 rintro e w1 ⟨⟨v, rfl⟩, hG, hB1, hbl⟩
 have c0 := hB1.cell (i := 0) (v := .slice (some ⟨g, 0, none⟩) k k) rfl
 have hA : Am w1 (some ⟨g, 0, none⟩) k k V := by
   have := Am.of_blk hG (L := grps V k) (by rw [grps_length])
   rw [grps_length] at this; exact this
 have HA := Lib.hid hA; have HBL := Lib.hid hbl
 clear hA hG hB1 hbl
 go_wp2_with (go_at_call 117; refine (trimmed_any _ k k V _ HA.out HV2.out hk).mono ?_; rintro e w2 ⟨rfl, rfl⟩)
 go_ret
 exact ⟨rfl, HA.out.less (glen_le.2 HV2.out), ((Below.refl B w).alloc hB _).trans HBL.out⟩
theorem bd_set {L : List Int} {i : Nat} {x N M : Int} (h : i < L.length) (hb : ∀ c ∈ L, -N <= c /\ c <= N) (hx : -M <= x /\ x <= M) : ∀ c ∈ L.set i (L[i] + x), -(N + M) <= c /\ c <= N + M := by
 intro c hc
 rcases List.mem_or_eq_of_mem_set hc with h1 | rfl
 · have := hb c h1; omega
 · have := hb L[i] (List.getElem_mem _); omega
theorem grps_pad {X k : Nat} (h : glen X <= k) : grps X (glen X) ++ List.replicate (k - glen X) 0 = grps X k := by
 apply List.ext_getElem
 · simp [grps_length]; omega
 · intro i h1 h2
   rw [grps_at]
   rcases Nat.lt_or_ge i (glen X) with h3 | h3
   · rw [List.getElem_append_left (by rw [grps_length]; exact h3), grps_at]
   · rw [List.getElem_append_right (by rw [grps_length]; exact h3), List.getElem_replicate, dg4_far h3]; rfl
theorem grps_bd (X k : Nat) : ∀ c ∈ grps X k, -10000 <= c /\ c <= 10000 := by
 intro c hc
 simp [grps] at hc
 obtain ⟨i, _, rfl⟩ := hc
 have := dg4_lt X i
 omega
theorem run_copy_am {w : World} {A : Option Addr} {c X g k : Nat} (dT sT ty : TypeId) (hu : Tryz.prog.underlying dT = some (.slice 3)) (hg : Blk w g 3 (zc k)) (hA : Am w A (glen X) c X) (hk : glen X <= k) :
   (Builtin.copy_ #[dT, sT] ty #[.slice (some ⟨g, 0, none⟩) k k, .slice A (glen X) c]).run Tryz.prog w = .ok (.int .i64 (glen X : Nat)) (w.setRow g ((grps X k).map iv).toArray) := by
 unfold zc at hg
 obtain ⟨i, hi, hz, hs, hb⟩ := info_of info_i64
 obtain ⟨n, hn⟩ : ∃ n, n = glen X := ⟨_, rfl⟩
 have hp := grps_pad hk
 rw [<- hn] at hA hk hp ⊢
 by_cases h0 : 0 < n
 · obtain ⟨b, o, rfl, hbl, hc⟩ := hA.2 h0
   have hlen : ((grps X n).map iv).length = n := by rw [List.length_map, grps_length]
   have h := run_copy_row (P := Tryz.prog) w dT sT ty 3 g 0 k k ⟨b, o, none⟩ n c ((List.replicate k (0 : Int)).map iv).toArray 3 ((grps X n).map iv) hu (by rw [hi]; simp [hs]) hg
     (by rw [hlen]; exact (Nat.min_eq_left hk).symm) (by
       intro j v hj
       have hj2 : j < n := by
         have := (List.getElem?_eq_some_iff.1 hj).1
         rwa [hlen] at this
       have e : (⟨b, o, none⟩ : Addr).add j = ⟨b, o + j, none⟩ := by unfold Addr.add; split <;> simp_all
       rw [e, hc j hj2]
       rw [List.getElem?_map, List.getElem?_eq_getElem (by rw [grps_length]; exact hj2)] at hj
       rw [Option.map_some, grps_at] at hj
       exact hj) (by rw [hlen]; simp; omega) (by
       intro v hv
       obtain ⟨x, _, rfl⟩ := List.mem_map.1 hv
       rfl)
   rw [hlen] at h
   rw [h]
   have e : (((List.replicate k (0 : Int)).map iv).toArray.toList.take 0 ++ (grps X n).map iv ++ ((List.replicate k (0 : Int)).map iv).toArray.toList.drop (0 + n)).toArray = ((grps X k).map iv).toArray := by
     rw [<- hp, List.map_append]
     simp
   rw [e]; rfl
 · obtain rfl : n = 0 := by omega
   have hX : grps X 0 ++ List.replicate k 0 = grps X k := hp
   have e2 : w.setRow g ((grps X k).map iv).toArray = w := by
     rw [<- hX]; exact setRow_self w g _ _ (0, 0) hg
   rw [e2]
   cases A with
   | none => simp [Builtin.copy_, run_underlying hu, Builtin.lenOf, Builtin.firstCells, sizeOf, typeInfo, hi, storeCells]; rfl
   | some a => simp [Builtin.copy_, run_underlying hu, Builtin.lenOf, Builtin.firstCells, sizeOf, typeInfo, hi, storeCells, loadCells, loadCellsFrom]; rfl
set_option maxRecDepth 100000 in
theorem aplus_any (A A' : Option Addr) (c c' X Y : Nat) (w : World) (hA : Am w A (glen X) c X) (hB : Am w A' (glen Y) c' Y) (hX : glen X <= 1000) (hY : glen Y <= 1000) :
   Calls Tryz.prog 97 #[.slice A (glen X) c, .slice A' (glen Y) c'] w (OutN (X + Y) w) := by
 obtain ⟨k, hk⟩ : ∃ k, k = max (glen X) (glen Y) + 1 := ⟨_, rfl⟩
 have hmk := fun w => run_make_ints 86 Tryz.underlying86 k k (Nat.le_refl _) (by omega) w
 have hcp := run_copy_am (c := c) 86 87 3 Tryz.underlying86 (Blk.new w 3 (zc k)) (hA.below ((Below.refl _ _).alloc (Nat.le_refl _) _)) (show glen X <= k by omega)
 have hsum : X + Y < 10000 ^ k := by
   rw [hk, Nat.pow_succ]
   have h1 := Nat.lt_of_lt_of_le (lt_glen X) (Nat.pow_le_pow_right (show 0 < 10000 by omega) (Nat.le_max_left (glen X) (glen Y)))
   have h2 := Nat.lt_of_lt_of_le (lt_glen Y) (Nat.pow_le_pow_right (show 0 < 10000 by omega) (Nat.le_max_right (glen X) (glen Y)))
   omega
 have hcX : colv (grps X k) = X := colv_full (Nat.lt_of_le_of_lt (Nat.le_add_right X Y) hsum)
 have hmod : Y % 10000 ^ glen Y = Y := Nat.mod_eq_of_lt (lt_glen Y)
 have hb1 : Below w.heap.size w ((w.alloc (.cells (zc k) 3)).setRow w.heap.size ((grps X k).map iv).toArray) := below_setRow ((Below.refl _ _).alloc (Nat.le_refl _) _) (Nat.le_refl _) _
 have hg1 : Blk ((w.alloc (.cells (zc k) 3)).setRow w.heap.size ((grps X k).map iv).toArray) w.heap.size 3 ((grps X k).map iv).toArray := (Blk.new w 3 (zc k)).setRow _
 have hk3 : k <= 3000 := by omega
 have hm : glen Y <= k := by omega
 have h2 : (((glen X : Nat) : Int) + 1 = k /\ ((glen Y : Nat) : Int) <= ((glen X : Nat) : Int)) ∨ (((glen Y : Nat) : Int) + 1 = k /\ ((glen X : Nat) : Int) < ((glen Y : Nat) : Int)) := by omega
 obtain ⟨w0, hw0⟩ : ∃ w0, w0 = (w.alloc (.cells (zc k) 3)).setRow w.heap.size ((grps X k).map iv).toArray := ⟨_, rfl⟩
 rw [<- hw0] at hcp hb1 hg1
 have HA := Lib.hid hA; have HB := Lib.hid hB; have HK := Lib.hid hk; have HS := Lib.hid hsum; have HCX := Lib.hid hcX; have HM := Lib.hid hmod; have HB1 := Lib.hid hb1; have HG1 := Lib.hid hg1
 clear hA hB hk hsum hcX hmod hb1 hg1 hw0
 rcases h2 with ⟨e1, q1⟩ | ⟨e1, q1⟩
 all_goals
   go_enter Tryz.func97, Tryz.ntmps97
   go_wp2
   clear e1 q1 hmk hcp
   go_loopw [20] (fun ii wr => ∃ (i : Nat) (L : List Int), ii = .int .i64 i /\ i <= glen Y /\ Hid (L.length = k /\ colv L = X + (Y % 10000 ^ i : Nat) /\ ∀ c ∈ L, -(10000 * ((i : Int) + 1)) <= c /\ c <= 10000 * ((i : Int) + 1)) /\ Blk wr w.heap.size 3 (L.map iv).toArray /\ Below w.heap.size w wr)
     (fun ii _ => glen Y - (intOf ii).toNat)
   case atStart => exact ⟨0, _, rfl, Nat.zero_le _, ⟨grps_length _ _, by rw [HCX.out, Nat.pow_zero, Nat.mod_one]; simp, by simpa using grps_bd X k⟩, HG1.out, HB1.out⟩
   case round =>
     obtain ⟨i, L, rfl, hi, HL, hG, hbl⟩ := hrel
     by_cases hlt : i < glen Y
     · obtain ⟨b, o, rfl, hb, hc⟩ := (HB.out.below hbl).2 (by omega)
       have hcell := hc i hlt
       have hil : i < L.length := by rw [HL.out.1]; omega
       have c0 := hG.cell (iv_at hil)
       have f0 := hG.frozen i
       have hd := dg4_lt Y i
       have hy := HL.out.2.2 L[i] (List.getElem_mem _)
       obtain ⟨d, hd2⟩ : ∃ d, d = dg4 Y i := ⟨_, rfl⟩
       rw [<- hd2] at hcell hd
       obtain ⟨y, hy2⟩ : ∃ y, y = L[i] := ⟨_, rfl⟩
       rw [<- hy2] at c0 hy
       rw [iv] at c0
       have p1 : (0 : Int) <= (i : Int) := by omega
       have p2 : (i : Int) < ((glen Y : Nat) : Int) := by omega
       have p3 : (i : Int) < (k : Int) := by omega
       have HL2 : Hid ((L.set i (y + d)).length = k /\ colv (L.set i (y + d)) = X + (Y % 10000 ^ (i + 1) : Nat) /\ ∀ c ∈ L.set i (y + d), -(10000 * (((i + 1 : Nat) : Int) + 1)) <= c /\ c <= 10000 * (((i + 1 : Nat) : Int) + 1)) := by
         refine ⟨by rw [List.length_set, HL.out.1], ?_, ?_⟩
         · rw [colv_set L i _ hil, HL.out.2.1, <- hy2, mod_succ4, <- hd2]
           push_cast
           grind
         · have := bd_set (L := L) (i := i) (x := d) (N := 10000 * ((i : Int) + 1)) (M := 10000) hil HL.out.2.2 (by omega)
           rw [<- hy2] at this
           intro c hc; have := this c hc; omega
       clear hc hy2 hd2 HL
       go_wp2
       go_roundw
       case rel => exact ⟨i + 1, _, by go_num, by omega, HL2, by rw [<- iv_set]; exact hG.set i _, hbl.setCell (Nat.le_refl _) _⟩
       case measure => simp [intOf]; omega
     · obtain rfl : i = glen Y := by omega
       have hcar := carried_any w.heap.size w.heap.size k (X + Y) L wr hG HL.out.1 hk3 (by rw [HL.out.2.1, HM.out]; omega) HS.out (by intro c hc; have := HL.out.2.2 c hc; omega) (Nat.le_refl _)
       have HC := Lib.hid hcar
       clear hcar hG
       go_wp2_with (go_at_call 109; refine HC.out.mono ?_; rintro e w2 ⟨rfl, hA2, hb2⟩)
       go_ret
       exact ⟨_, _, rfl, hA2, hbl.trans hb2⟩
set_option maxRecDepth 100000 in
theorem aminus_any (A A' : Option Addr) (c c' X Y : Nat) (w : World) (hA : Am w A (glen X) c X) (hB : Am w A' (glen Y) c' Y) (hX : glen X <= 1000) (hle : Y <= X) :
   Calls Tryz.prog 99 #[.slice A (glen X) c, .slice A' (glen Y) c'] w (OutN (X - Y) w) := by
 obtain ⟨k, hk⟩ : ∃ k, k = glen X := ⟨_, rfl⟩
 have hmk := fun w => run_make_ints 86 Tryz.underlying86 k k (Nat.le_refl _) (by omega) w
 have hcp := run_copy_am (c := c) 86 87 3 Tryz.underlying86 (Blk.new w 3 (zc k)) (hA.below ((Below.refl _ _).alloc (Nat.le_refl _) _)) (show glen X <= k by omega)
 have hsum : X < 10000 ^ k := hk ▸ lt_glen X
 have hcX : colv (grps X k) = X := colv_full hsum
 have hmod : Y % 10000 ^ glen Y = Y := Nat.mod_eq_of_lt (lt_glen Y)
 have hb1 : Below w.heap.size w ((w.alloc (.cells (zc k) 3)).setRow w.heap.size ((grps X k).map iv).toArray) := below_setRow ((Below.refl _ _).alloc (Nat.le_refl _) _) (Nat.le_refl _) _
 have hg1 : Blk ((w.alloc (.cells (zc k) 3)).setRow w.heap.size ((grps X k).map iv).toArray) w.heap.size 3 ((grps X k).map iv).toArray := (Blk.new w 3 (zc k)).setRow _
 have hk3 : k <= 3000 := by omega
 have hm : glen Y <= k := by rw [hk]; exact glen_mono hle
 have e1 : ((glen X : Nat) : Int) = k := by omega
 obtain ⟨w0, hw0⟩ : ∃ w0, w0 = (w.alloc (.cells (zc k) 3)).setRow w.heap.size ((grps X k).map iv).toArray := ⟨_, rfl⟩
 rw [<- hw0] at hcp hb1 hg1
 have HA := Lib.hid hA; have HB := Lib.hid hB; have HK := Lib.hid hk; have HS := Lib.hid hsum; have HCX := Lib.hid hcX; have HM := Lib.hid hmod; have HB1 := Lib.hid hb1; have HG1 := Lib.hid hg1
 clear hA hB hk hsum hcX hmod hb1 hg1 hw0
 go_enter Tryz.func99, Tryz.ntmps99
 go_wp2
 clear e1 hmk hcp
 go_loopw [16] (fun ii wr => ∃ (i : Nat) (L : List Int), ii = .int .i64 i /\ i <= glen Y /\ Hid (L.length = k /\ colv L = X - (Y % 10000 ^ i : Nat) /\ ∀ c ∈ L, -(10000 * ((i : Int) + 1)) <= c /\ c <= 10000 * ((i : Int) + 1)) /\ Blk wr w.heap.size 3 (L.map iv).toArray /\ Below w.heap.size w wr)
   (fun ii _ => glen Y - (intOf ii).toNat)
 case atStart => exact ⟨0, _, rfl, Nat.zero_le _, ⟨grps_length _ _, by rw [HCX.out, Nat.pow_zero, Nat.mod_one]; simp, by simpa using grps_bd X k⟩, HG1.out, HB1.out⟩
 case round =>
   obtain ⟨i, L, rfl, hi, HL, hG, hbl⟩ := hrel
   by_cases hlt : i < glen Y
   · obtain ⟨b, o, rfl, hb, hc⟩ := (HB.out.below hbl).2 (by omega)
     have hcell := hc i hlt
     have hil : i < L.length := by rw [HL.out.1]; omega
     have c0 := hG.cell (iv_at hil)
     have f0 := hG.frozen i
     have hd := dg4_lt Y i
     have hy := HL.out.2.2 L[i] (List.getElem_mem _)
     obtain ⟨d, hd2⟩ : ∃ d, d = dg4 Y i := ⟨_, rfl⟩
     rw [<- hd2] at hcell hd
     obtain ⟨y, hy2⟩ : ∃ y, y = L[i] := ⟨_, rfl⟩
     rw [<- hy2] at c0 hy
     rw [iv] at c0
     have p1 : (0 : Int) <= (i : Int) := by omega
     have p2 : (i : Int) < ((glen Y : Nat) : Int) := by omega
     have p3 : (i : Int) < (k : Int) := by omega
     have HL2 : Hid ((L.set i (y - d)).length = k /\ colv (L.set i (y - d)) = X - (Y % 10000 ^ (i + 1) : Nat) /\ ∀ c ∈ L.set i (y - d), -(10000 * (((i + 1 : Nat) : Int) + 1)) <= c /\ c <= 10000 * (((i + 1 : Nat) : Int) + 1)) := by
       refine ⟨by rw [List.length_set, HL.out.1], ?_, ?_⟩
       · rw [colv_set L i _ hil, HL.out.2.1, <- hy2, mod_succ4, <- hd2]
         push_cast
         grind
       · have := bd_set (L := L) (i := i) (x := -d) (N := 10000 * ((i : Int) + 1)) (M := 10000) hil HL.out.2.2 (by omega)
         rw [<- hy2, <- Int.sub_eq_add_neg] at this
         intro c hc; have := this c hc; omega
     clear hc hy2 hd2 HL
     go_wp2
     go_roundw
     case rel => exact ⟨i + 1, _, by go_num, by omega, HL2, by rw [<- iv_set]; exact hG.set i _, hbl.setCell (Nat.le_refl _) _⟩
     case measure => simp [intOf]; omega
   · obtain rfl : i = glen Y := by omega
     have hcar := carried_any w.heap.size w.heap.size k (X - Y) L wr hG HL.out.1 hk3 (by rw [HL.out.2.1, HM.out]; omega) (Nat.lt_of_le_of_lt (Nat.sub_le _ _) HS.out) (by intro c hc; have := HL.out.2.2 c hc; omega) (Nat.le_refl _)
     have HC := Lib.hid hcar
     clear hcar hG
     go_wp2_with (go_at_call 109; refine HC.out.mono ?_; rintro e w2 ⟨rfl, hA2, hb2⟩)
     go_ret
     exact ⟨_, _, rfl, hA2, hbl.trans hb2⟩
theorem zc_eq (k : Nat) : zc k = ((List.replicate k (0 : Int)).map iv).toArray := rfl
theorem colv_zeros : ∀ k, colv (List.replicate k (0 : Int)) = 0
 | 0 => rfl
 | k + 1 => by rw [List.replicate_succ, colv, colv_zeros k]; rfl
theorem dd_bd {d e : Nat} (hd : d < 10000) (he : e <= 10000) : (0 : Int) <= (d : Int) * (e : Int) /\ (d : Int) * (e : Int) <= 100000000 := by
 have h := Nat.mul_le_mul (show d <= 10000 by omega) he
 have : (d : Int) * (e : Int) = ((d * e : Nat) : Int) := by push_cast; rfl
 omega
set_option maxRecDepth 100000 in
set_option maxHeartbeats 1000000 in
theorem atimes_gen (A A' : Option Addr) (c c' X Y m : Nat) (f S : Nat -> Nat) (w : World) (hA : Am w A (glen X) c X) (hX : glen X <= 1000) (hY : m <= 1000)
   (hB : 0 < m -> ∃ b o, A' = some ⟨b, o, none⟩ /\ b < w.heap.size /\ ∀ i, i < m -> w.cell? ⟨b, o + i, none⟩ = some (.int .i64 (f i : Nat)))
   (hf : ∀ i, f i <= 10000) (hS0 : S 0 = 0) (hS : ∀ j, S (j + 1) = S j + 10000 ^ j * f j) (hmy : S m = Y) (hsum : X * Y < 10000 ^ (glen X + m)) :
   Calls Tryz.prog 106 #[.slice A (glen X) c, .slice A' m c'] w (OutN (X * Y) w) := by
 obtain ⟨k, hk⟩ : ∃ k, k = glen X + m := ⟨_, rfl⟩
 rw [<- hk] at hsum
 have hmk := fun w => run_make_ints 86 Tryz.underlying86 k k (Nat.le_refl _) (by omega) w
 have hmx : X % 10000 ^ glen X = X := Nat.mod_eq_of_lt (lt_glen X)
 have hb1 : Below w.heap.size w (w.alloc (.cells (zc k) 3)) := (Below.refl _ _).alloc (Nat.le_refl _) _
 have hg1 : Blk (w.alloc (.cells (zc k) 3)) w.heap.size 3 (zc k) := Blk.new w 3 (zc k)
 have hk3 : k <= 3000 := by omega
 have e1 : ((glen X : Nat) : Int) + (m : Int) = k := by omega
 obtain ⟨n, hn⟩ : ∃ n, n = glen X := ⟨_, rfl⟩
 rw [<- hn] at hA hX hk hmx e1 ⊢
 have hk1 : k <= n + m := by omega
 have hk2 : n + m <= k := by omega
 have HA := Lib.hid hA; have HB := Lib.hid hB; have HS := Lib.hid hsum; have HMX := Lib.hid hmx; have HMY := Lib.hid hmy; have HB1 := Lib.hid hb1; have HG1 := Lib.hid hg1; have HN := Lib.hid hn; have HF := Lib.hid hf; have HS0 := Lib.hid hS0; have HSS := Lib.hid hS
 clear hA hB hsum hmx hmy hb1 hg1 hn hk hf hS0 hS
 go_enter Tryz.func106, Tryz.ntmps106
 go_wp2
 clear hmk e1
 go_loopw [18] (fun ii wr => ∃ (i : Nat) (L : List Int), ii = .int .i64 i /\ i <= n /\ Hid (L.length = k /\ colv L = (X % 10000 ^ i * Y : Nat) /\ ∀ c ∈ L, -(100000000 * (1000 * (i : Int))) <= c /\ c <= 100000000 * (1000 * (i : Int))) /\ Blk wr w.heap.size 3 (L.map iv).toArray /\ Below w.heap.size w wr)
   (fun ii _ => n - (intOf ii).toNat)
 case atStart => exact ⟨0, _, rfl, Nat.zero_le _, ⟨List.length_replicate, by rw [colv_zeros, Nat.pow_zero, Nat.mod_one, Nat.zero_mul]; rfl, by intro c hc; rw [List.eq_of_mem_replicate hc]; simp⟩, HG1.out, HB1.out⟩
 case round =>
   obtain ⟨i, L, rfl, hi, HL, hG, hbl⟩ := hrel
   by_cases hlt : i < n
   · obtain ⟨b, o, rfl, hb, hc⟩ := (HA.out.below hbl).2 (by omega)
     have hcell := hc i hlt
     have hd := dg4_lt X i
     obtain ⟨d, hd2⟩ : ∃ d, d = dg4 X i := ⟨_, rfl⟩
     rw [<- hd2] at hcell hd
     have p1 : (0 : Int) <= (i : Int) := by omega
     have p2 : (i : Int) < (n : Int) := by omega
     have HD := Lib.hid hd2
     have HG := Lib.hid hG
     have HBL := Lib.hid hbl
     clear hc hd2 hG hbl
     go_wp2
     go_loopw [25] (fun jj ws => ∃ (j : Nat) (L : List Int), jj = .int .i64 j /\ j <= m /\ Hid (L.length = k /\ colv L = (X % 10000 ^ i * Y + d * 10000 ^ i * S j : Nat) /\ ∀ c ∈ L, -(100000000 * (1000 * (i : Int) + j)) <= c /\ c <= 100000000 * (1000 * (i : Int) + j)) /\ Blk ws w.heap.size 3 (L.map iv).toArray /\ Below w.heap.size w ws)
       (fun jj _ => m - (intOf jj).toNat)
     case atStart => exact ⟨0, L, rfl, Nat.zero_le _, ⟨HL.out.1, by rw [HL.out.2.1, HS0.out, Nat.mul_zero, Nat.add_zero], by simpa using HL.out.2.2⟩, HG.out, HBL.out⟩
     case round =>
       obtain ⟨j, L, rfl, hj, HL, hG, hbl⟩ := hrel
       by_cases hlt2 : j < m
       · obtain ⟨b', o', rfl, hb', hc'⟩ := HB.out (by omega)
         have hcell' := (hbl.cell (p := ⟨b', o' + j, none⟩) hb').trans (hc' j hlt2)
         have hil : i + j < L.length := by rw [HL.out.1]; omega
         have c0 := hG.cell (iv_at hil)
         have f0 := hG.frozen (i + j)
         have he := HF.out j
         have hy := HL.out.2.2 L[i + j] (List.getElem_mem _)
         obtain ⟨e, hf2⟩ : ∃ e, e = f j := ⟨_, rfl⟩
         rw [<- hf2] at hcell' he
         obtain ⟨y, hy2⟩ : ∃ y, y = L[i + j] := ⟨_, rfl⟩
         rw [<- hy2] at c0 hy
         rw [iv] at c0
         have hdd := dd_bd hd he
         have r1 : (0 : Int) <= (j : Int) := by omega
         have r2 : (j : Int) < (m : Int) := by omega
         have r3 : (0 : Int) <= (i : Int) + (j : Int) := by omega
         have r4 : (i : Int) + (j : Int) < (k : Int) := by omega
         have r5 : ((i : Int) + (j : Int)).toNat = i + j := by omega
         have s1 : -200000000000000 <= y /\ y <= 200000000000000 := by omega
         have HL2 : Hid ((L.set (i + j) (y + d * e)).length = k /\ colv (L.set (i + j) (y + d * e)) = (X % 10000 ^ i * Y + d * 10000 ^ i * S (j + 1) : Nat) /\ ∀ c ∈ L.set (i + j) (y + d * e), -(100000000 * (1000 * (i : Int) + (j + 1 : Nat))) <= c /\ c <= 100000000 * (1000 * (i : Int) + (j + 1 : Nat))) := by
           refine ⟨by rw [List.length_set, HL.out.1], ?_, ?_⟩
           · rw [colv_set L (i + j) _ hil, HL.out.2.1, <- hy2, HSS.out j, <- hf2]
             push_cast
             rw [Int.pow_add]
             grind
           · have := bd_set (L := L) (i := i + j) (x := (d : Int) * e) (N := 100000000 * (1000 * (i : Int) + j)) (M := 100000000) hil HL.out.2.2 (by omega)
             rw [<- hy2] at this
             intro c hc; have := this c hc; omega
         clear hc' hy2 hf2 hy HL
         go_wp2
         go_roundw
         case rel => exact ⟨j + 1, _, by go_num, by omega, HL2, by rw [<- iv_set]; exact hG.set (i + j) _, hbl.setCell (Nat.le_refl _) _⟩
         case measure => simp [intOf]; omega
       · obtain rfl : j = m := by omega
         have HL2 : Hid (L.length = k /\ colv L = (X % 10000 ^ (i + 1) * Y : Nat) /\ ∀ c ∈ L, -(100000000 * (1000 * ((i + 1 : Nat) : Int))) <= c /\ c <= 100000000 * (1000 * ((i + 1 : Nat) : Int))) := by
           refine ⟨HL.out.1, ?_, ?_⟩
           · rw [HL.out.2.1, HMY.out, mod_succ4, <- HD.out, Nat.add_mul, Nat.mul_comm d]
           · intro c hc; have := HL.out.2.2 c hc; omega
         clear HL
         go_wp2
         go_roundw
         case rel => exact ⟨i + 1, _, by go_num, by omega, HL2, hG, hbl⟩
         case measure => simp [intOf]; omega
   · obtain rfl : i = n := by omega
     have hcar := carried_any w.heap.size w.heap.size k (X * Y) L wr hG HL.out.1 hk3 (by rw [HL.out.2.1, HMX.out]) HS.out (by intro c hc; have := HL.out.2.2 c hc; omega) (Nat.le_refl _)
     have HC := Lib.hid hcar
     clear hcar hG
     go_wp2_with (go_at_call 109; refine HC.out.mono ?_; rintro e w2 ⟨rfl, hA2, hb2⟩)
     go_ret
     exact ⟨_, _, rfl, hA2, hbl.trans hb2⟩
theorem atimes_any (A A' : Option Addr) (c c' X Y : Nat) (w : World) (hA : Am w A (glen X) c X) (hB : Am w A' (glen Y) c' Y) (hX : glen X <= 1000) (hY : glen Y <= 1000) :
   Calls Tryz.prog 106 #[.slice A (glen X) c, .slice A' (glen Y) c'] w (OutN (X * Y) w) :=
 atimes_gen A A' c c' X Y (glen Y) (dg4 Y) (fun j => Y % 10000 ^ j) w hA hX hY hB.2 (fun i => by have := dg4_lt Y i; omega) (by simp [Nat.mod_one]) (fun j => mod_succ4 Y j) (Nat.mod_eq_of_lt (lt_glen Y))
   (by rw [Nat.pow_add]; exact Nat.mul_lt_mul'' (lt_glen X) (lt_glen Y))
theorem atimes_one (A : Option Addr) (c X q b : Nat) (w : World) (hA : Am w A (glen X) c X) (hX : glen X <= 1000) (hq : q <= 10000) (hb : b < w.heap.size) (hc : w.cell? ⟨b, 0, none⟩ = some (.int .i64 (q : Nat))) :
   Calls Tryz.prog 106 #[.slice A (glen X) c, .slice (some ⟨b, 0, none⟩) 1 1] w (OutN (X * q) w) :=
 atimes_gen A _ c 1 X q 1 (fun i => if i = 0 then q else 0) (fun j => if j = 0 then 0 else q) w hA hX (by omega) (fun _ => ⟨b, 0, rfl, hb, fun i hi => by
     obtain rfl : i = 0 := by omega
     exact hc⟩) (fun i => by split <;> omega) rfl (fun j => by by_cases h : j = 0 <;> simp [h]) rfl (by
   rw [Nat.pow_succ]
   exact Nat.lt_of_le_of_lt (Nat.mul_le_mul_left X hq) (Nat.mul_lt_mul_of_pos_right (lt_glen X) (by omega)))
def ordI (a b : Int) : Int := if a < b then -1 else if b < a then 1 else 0
theorem ordI_lt {a b : Int} (h : a < b) : ordI a b = -1 := by unfold ordI; rw [if_pos h]
theorem ordI_gt {a b : Int} (h : b < a) : ordI a b = 1 := by unfold ordI; rw [if_neg (by omega), if_pos h]
theorem ordI_eq {a b : Int} (h : a = b) : ordI a b = 0 := by unfold ordI; rw [if_neg (by omega), if_neg (by omega)]
theorem order_any (a b : Int) (w : World) : Calls Tryz.prog 110 #[.int .i64 a, .int .i64 b] w fun e w' => e = .returned (.int .i64 (ordI a b)) /\ w = w' := by
 rcases Int.lt_trichotomy a b with h | h | h
 · rw [ordI_lt h]
   go_enter Tryz.func110, Tryz.ntmps110
   go_wp2
   go_ret
   exact ⟨rfl, rfl⟩
 · subst h
   rw [ordI_eq rfl]
   go_enter Tryz.func110, Tryz.ntmps110
   go_wp2
   go_ret
   exact ⟨rfl, rfl⟩
 · rw [ordI_gt h]
   have h2 : ¬ a < b := by omega
   go_enter Tryz.func110, Tryz.ntmps110
   go_wp2
   go_ret
   exact ⟨rfl, rfl⟩
theorem quiet_on {P : Program} {f : FuncId} {args : Array Value} {w : World} {a n : Nat} {v : Value}
   (h : Calls P f args (w.drewN (a + n)) fun e w' => e = .returned v /\ ∃ m, w' = (w.drewN (a + n)).drewN m) :
   Calls P f args (w.drewN (a + n)) fun e w'' => e = .returned v /\ ∃ m, w'' = w.drewN (a + m) :=
 h.mono fun _ _ ⟨he, m, hm⟩ => ⟨he, n + m, by rw [hm, World.drewN_drewN, Nat.add_assoc]⟩
theorem order_q (a b : Int) (w : World) : Calls Tryz.prog 110 #[.int .i64 a, .int .i64 b] w fun e w' => e = .returned (.int .i64 (ordI a b)) /\ ∃ k, w' = w.drewN k :=
 (order_any a b w).mono fun _ _ ⟨he, hw⟩ => ⟨he, 0, by rw [<- hw]; rfl⟩
theorem glen_lt {X Y : Nat} (h : glen X < glen Y) : X < Y := by
 rcases Nat.lt_or_ge X Y with h1 | h1
 · exact h1
 · have := glen_mono h1; omega
theorem comp_digit {X Y k : Nat} (h : X / 10000 ^ (k + 1) = Y / 10000 ^ (k + 1)) (hd : dg4 X k < dg4 Y k) : X < Y := by
 have h1 := div_pred4 X k
 have h2 := div_pred4 Y k
 rcases Nat.lt_or_ge X Y with h3 | h3
 · exact h3
 · have := Nat.div_le_div_right (c := 10000 ^ k) h3; omega
theorem comp_same {X Y k : Nat} (h : X / 10000 ^ (k + 1) = Y / 10000 ^ (k + 1)) (hd : dg4 X k = dg4 Y k) : X / 10000 ^ k = Y / 10000 ^ k := by
 rw [div_pred4 X k, div_pred4 Y k, h, hd]
set_option maxRecDepth 100000 in
set_option maxHeartbeats 1000000 in
theorem acomp_any (A A' : Option Addr) (c c' X Y : Nat) (w : World) (hA : Am w A (glen X) c X) (hB : Am w A' (glen Y) c' Y) (_hX : glen X <= 1000) (hY : glen Y <= 1000) :
   Calls Tryz.prog 98 #[.slice A (glen X) c, .slice A' (glen Y) c'] w fun e w' => e = .returned (.int .i64 (ordI X Y)) /\ ∃ k, w' = w.drewN k := by
 by_cases hne : glen X = glen Y
 · obtain ⟨n, hn⟩ : ∃ n, n = glen Y := ⟨_, rfl⟩
   rw [<- hn] at hne hB hY ⊢
   rw [hne] at hA _hX ⊢
   have hdx : X / 10000 ^ n = Y / 10000 ^ n := by rw [Nat.div_eq_of_lt (hne ▸ lt_glen X), Nat.div_eq_of_lt (hn ▸ lt_glen Y)]
   have HA := Lib.hid hA; have HB := Lib.hid hB; have HN := Lib.hid hn; have HD := Lib.hid hdx; have HE := Lib.hid hne
   clear hA hB hn hdx hne _hX
   go_enter Tryz.func98, Tryz.ntmps98
   go_wp2
   go_loopw [5] (fun ii wr => ∃ (t : Nat) (i : Int) (q : Nat), ii = .int .i64 i /\ Hid (i = (t : Int) - 1) /\ t <= n /\ Hid (X / 10000 ^ t = Y / 10000 ^ t) /\ wr = w.drewN q) (fun ii _ => (intOf ii + 1).toNat)
   case atStart => exact ⟨n, _, 0, rfl, rfl, Nat.le_refl _, HD.out, rfl⟩
   case round =>
     obtain ⟨t, i, q, rfl, HI, ht, HQ, rfl⟩ := hrel
     rcases t with _ | k
     · obtain rfl : i = -1 := by have := HI.out; omega
       have HR : Hid (ordI X Y = 0) := ordI_eq (by have := HQ.out; simp at this; omega)
       go_wp2
       go_ret
       exact ⟨by rw [HR.out]; rfl, _, rfl⟩
     · obtain rfl : i = (k : Int) := by have := HI.out; omega
       obtain ⟨b, o, rfl, hb, hc⟩ := HA.out.2 (by omega)
       obtain ⟨b', o', rfl, hb', hc'⟩ := HB.out.2 (by omega)
       have hcell := hc k (by omega)
       have hcell' := hc' k (by omega)
       have hdx := dg4_lt X k
       have hdy := dg4_lt Y k
       obtain ⟨x, hx⟩ : ∃ x, x = dg4 X k := ⟨_, rfl⟩
       obtain ⟨y, hy⟩ : ∃ y, y = dg4 Y k := ⟨_, rfl⟩
       rw [<- hx] at hcell hdx
       rw [<- hy] at hcell' hdy
       have q1 : (0 : Int) <= (k : Int) := by omega
       have q2 : (k : Int) < (n : Int) := by omega
       by_cases hxy : x = y
       · have HQ2 : Hid (X / 10000 ^ k = Y / 10000 ^ k) := comp_same HQ.out (by omega)
         subst hxy
         clear hc hc' hx hy
         go_wp2
         go_quiet (fail)
         go_wp2
         go_roundw
         case rel => exact ⟨k, _, _, rfl, rfl, by omega, HQ2.out, rfl⟩
         case measure => simp [intOf]
       · have HR : Hid (ordI X Y = ordI x y) := by
           rcases Nat.lt_or_gt_of_ne hxy with h | h
           · show _ = _
             rw [ordI_lt (show (x : Int) < y by omega), ordI_lt (by have := comp_digit HQ.out (by omega); omega)]
           · show _ = _
             rw [ordI_gt (show (y : Int) < x by omega), ordI_gt (by have := comp_digit HQ.out.symm (by omega); omega)]
         have h3 : ((x : Int) == (y : Int)) = false := by rw [beq_eq_false_iff_ne]; omega
         have h4 : ((x : Int) != (y : Int)) = true := by rw [bne, h3]; rfl
         clear hc hc' hx hy hxy
         go_wp2
         go_quiet (fail)
         go_wp2
         go_quiet ((go_at_call 110; exact quiet_on (order_q _ _ _)))
         go_wp2
         go_ret
         exact ⟨by rw [HR.out]; rfl, _, by rw [World.drewN_drewN, World.drewN_drewN]⟩
 · have HR : Hid (ordI X Y = ordI (glen X : Nat) (glen Y : Nat)) := by
     rcases Nat.lt_or_gt_of_ne hne with h | h
     · show _ = _
       rw [ordI_lt (show ((glen X : Nat) : Int) < (glen Y : Nat) by omega), ordI_lt (by have := glen_lt h; omega)]
     · show _ = _
       rw [ordI_gt (show ((glen Y : Nat) : Int) < (glen X : Nat) by omega), ordI_gt (by have := glen_lt h; omega)]
   have h3 : (((glen X : Nat) : Int) == ((glen Y : Nat) : Int)) = false := by rw [beq_eq_false_iff_ne]; omega
   have h4 : (((glen X : Nat) : Int) != ((glen Y : Nat) : Int)) = true := by rw [bne, h3]; rfl
   clear hne hA hB
   go_enter Tryz.func98, Tryz.ntmps98
   go_wp2_with (go_at_call 110; refine (order_any _ _ _).mono ?_; rintro e w1 ⟨rfl, rfl⟩)
   go_ret
   exact ⟨by rw [HR.out]; rfl, 0, rfl⟩
theorem wpList_append_eq {P : Program} {w w1 : World} {ops : Array Oper} {rest : List Oper} {o : Oper} {a : Act} {Q : Exit -> Act -> World -> Prop} (hgd : o.guard = none) (s x : Operand) (t : TypeId)
   (ho : o.op = .call { callee := .builtin .append, args := #[s, x], argTypes := #[t, t] }) (v u r : Value) (hs : a.eval s = v) (hx : a.eval x = u)
   (hr : ∀ ty, (Builtin.append_ #[t, t] ty #[v, u]).run P w = .ok r w1) (h : wpList P ops Q rest (a.put o.dst r) w1) : wpList P ops Q (o :: rest) a w := by
 refine wpList_plain hgd fun K hK => ?_
 unfold Oper.wp execOp
 simp only [ho, resolve, invoke, builtin, Sem.run_bind, Sem.run_pure, Result.andThen_ok, List.map_toArray, List.map_cons, List.map_nil, hs, hx, hr]
 exact hK _ _ h
theorem dg4_cons0 {X d : Nat} (hd : d < 10000) : dg4 (10000 * X + d) 0 = d := by unfold dg4; simp; omega
theorem dg4_cons {X d : Nat} (hd : d < 10000) (i : Nat) : dg4 (10000 * X + d) (i + 1) = dg4 X i := by
 unfold dg4
 rw [Nat.pow_succ, Nat.mul_comm (10000 ^ i), <- Nat.div_div_eq_div_mul]
 have : (10000 * X + d) / 10000 = X := by omega
 rw [this]
theorem grps_cons {X d n : Nat} (hd : d < 10000) : grps (10000 * X + d) (n + 1) = (d : Int) :: grps X n := by
 apply List.ext_getElem
 · simp [grps_length]
 · intro i h1 h2
   rw [grps_at]
   cases i with
   | zero => rw [dg4_cons0 hd]; rfl
   | succ i => rw [dg4_cons hd, List.getElem_cons_succ, grps_at]
theorem run_append_am {w : World} {A : Option Addr} {n c X d g : Nat} (t ty : TypeId) (ht : Tryz.prog.underlying t = some (.slice 3)) (hd : d < 10000)
   (hg : Blk w g 3 ((zc (n + 1)).setIfInBounds 0 (iv d))) (hA : Am w A n c X) :
   (Builtin.append_ #[t, t] ty #[.slice (some ⟨g, 0, none⟩) 1 (n + 1), .slice A n c]).run Tryz.prog w = .ok (.slice (some ⟨g, 0, none⟩) (n + 1) (n + 1)) (w.setRow g ((grps (10000 * X + d) (n + 1)).map iv).toArray) := by
 obtain ⟨i, hi, hz, hs, hb⟩ := info_of info_i64
 have hz1 : (zc (n + 1)).setIfInBounds 0 (iv d) = (((d : Int) :: List.replicate n 0).map iv).toArray := by
   rw [zc_eq, iv_set, List.replicate_succ, List.set_cons_zero]
 rw [hz1] at hg
 by_cases h0 : 0 < n
 · obtain ⟨b, o, rfl, hbl, hc⟩ := hA.2 h0
   have hlen : ((grps X n).map iv).length = n := by rw [List.length_map, grps_length]
   have h := run_append_room (P := Tryz.prog) w t ty 3 i ht hi g 1 (n + 1) _ hg ⟨b, o, none⟩ n c ((grps X n).map iv) (by rw [hlen, hs, Nat.mul_one]) (by
       intro j v hj
       have hj2 : j < n := by
         have := (List.getElem?_eq_some_iff.1 hj).1
         rwa [hlen] at this
       have e : (⟨b, o, none⟩ : Addr).add j = ⟨b, o + j, none⟩ := by unfold Addr.add; split <;> simp_all
       rw [e, hc j hj2]
       rw [List.getElem?_map, List.getElem?_eq_getElem (by rw [grps_length]; exact hj2)] at hj
       rw [Option.map_some, grps_at] at hj
       exact hj) (by
       intro v hv
       obtain ⟨x, _, rfl⟩ := List.mem_map.1 hv
       rfl) (by omega) (by rw [hlen, hs]; simp; omega)
   rw [hlen, hs] at h
   rw [h, Nat.add_comm 1 n]
   have e : ((((d : Int) :: List.replicate n 0).map iv).toArray.toList.take (1 * 1) ++ (grps X n).map iv ++ (((d : Int) :: List.replicate n 0).map iv).toArray.toList.drop (n + 1)).toArray = ((grps (10000 * X + d) (n + 1)).map iv).toArray := by
     rw [grps_cons hd]
     simp
   rw [e]
 · obtain rfl : n = 0 := by omega
   have e2 : w.setRow g ((grps (10000 * X + d) (0 + 1)).map iv).toArray = w := by
     rw [grps_cons hd]; exact setRow_self w g _ _ (0, 0) hg
   rw [e2]
   cases A with
   | none => simp [Builtin.append_, run_underlying ht, Builtin.lenOf, Builtin.firstCells, sizeOf, typeInfo, hi, storeCells, loadCells]
   | some a => simp [Builtin.append_, run_underlying ht, Builtin.lenOf, Builtin.firstCells, sizeOf, typeInfo, hi, storeCells, loadCells, loadCellsFrom]
def OutF (V : Nat) (w : World) (e : Ending) (w' : World) : Prop := ∃ c, e = .returned (.slice (some ⟨w.heap.size, 0, none⟩) (glen V) c) /\ Am w' (some ⟨w.heap.size, 0, none⟩) (glen V) c V /\ Below w.heap.size w w'
set_option maxRecDepth 100000 in
theorem followed_any (A : Option Addr) (c X d : Nat) (w : World) (hA : Am w A (glen X) c X) (hX : glen X <= 1000) (hd : d < 10000) :
   Calls Tryz.prog 124 #[.slice A (glen X) c, .int .i64 (d : Nat)] w (OutF (10000 * X + d) w) := by
 obtain ⟨n, hn⟩ : ∃ n, n = glen X := ⟨_, rfl⟩
 have hV : 10000 * X + d < 10000 ^ (n + 1) := by
   have := lt_glen X
   rw [<- hn] at this
   rw [Nat.pow_succ]; omega
 rw [<- hn] at hA hX ⊢
 have hmk := fun w => run_make_ints 87 Tryz.underlying87 1 (n + 1) (by omega) (by omega) w
 rw [show ((1 : Nat) : Int) = 1 from rfl, show ((n + 1 : Nat) : Int) = (n : Int) + 1 from by omega] at hmk
 have c0 : (w.alloc (.cells (zc (n + 1)) 3)).cell? ⟨w.heap.size, 0, none⟩ = some (iv 0) := (Blk.new w 3 (zc (n + 1))).cell (by rw [zc_eq, iv_at (by simp)]; simp)
 have f0 := (Blk.new w 3 (zc (n + 1))).frozen 0
 have hg := Blk.new w 3 ((zc (n + 1)).setIfInBounds 0 (.int .i64 (d : Nat)))
 have hb1 : Below w.heap.size w (w.alloc (.cells ((zc (n + 1)).setIfInBounds 0 (.int .i64 (d : Nat))) 3)) := (Below.refl _ _).alloc (Nat.le_refl _) _
 have hap := fun ty => run_append_am (c := c) 87 ty Tryz.underlying87 hd hg (hA.below hb1)
 have hg2 := hg.setRow ((grps (10000 * X + d) (n + 1)).map iv).toArray
 have hb2 := below_setRow hb1 (Nat.le_refl _) ((grps (10000 * X + d) (n + 1)).map iv).toArray
 have hA2 := Am.of_blk hg2 (V := 10000 * X + d) (by rw [grps_length])
 rw [grps_length] at hA2
 have HAP := Lib.hid hap; have HA2 := Lib.hid hA2; have HB2 := Lib.hid hb2; have HV := Lib.hid hV
 clear hA hg hb1 hap hg2 hb2 hA2 hV hn
 rw [iv] at c0
 go_enter Tryz.func124, Tryz.ntmps124
 go_wp2_with (first | (at_builtin; go_loud (refine wpList_append_eq rfl _ _ 87 rfl _ _ _ rfl rfl HAP.out ?_)) | (go_at_call 117; refine (trimmed_any _ (n + 1) (n + 1) _ _ HA2.out HV.out (by omega)).mono ?_; rintro e w2 ⟨rfl, rfl⟩))
 go_ret
 exact ⟨_, rfl, HA2.out.less (glen_le.2 HV.out), HB2.out⟩
def shr4 (X t : Nat) : Nat := X / 10000 ^ t
theorem from_step {X t : Nat} : shr4 X t = shr4 X (t + 1) * 10000 + dg4 X t := by unfold shr4; rw [div_pred4 X t, Nat.mul_comm]
set_option maxRecDepth 100000 in
theorem from_any (A : Option Addr) (c X p : Nat) (w : World) (hA : Am w A (glen X) c X) (hX : glen X <= 1000) (hp : p <= 1000) (hs : glen X <= p + 4) :
   Calls Tryz.prog 129 #[.slice A (glen X) c, .int .i64 (p : Nat)] w fun e w' => e = .returned (.int .i64 (shr4 X p : Nat)) /\ w = w' := by
 obtain ⟨n, hn⟩ : ∃ n, n = glen X := ⟨_, rfl⟩
 have hz : ∀ t, n <= t -> shr4 X t = 0 := fun t ht => Nat.div_eq_of_lt (glen_le.1 (by omega))
 have hbd : ∀ t, p < t -> shr4 X t < 1000000000000 := fun t ht => by
   unfold shr4
   rw [Nat.div_lt_iff_lt_mul (Nat.pow_pos (by omega)), show (1000000000000 : Nat) = 10000 ^ 3 from rfl, <- Nat.pow_add]
   exact glen_le.1 (by omega)
 rw [<- hn] at hA hX hs ⊢
 have HA := Lib.hid hA; have HZ := Lib.hid hz; have HB := Lib.hid hbd
 clear hA hz hbd hn
 go_enter Tryz.func129, Tryz.ntmps129
 go_wp2
 go_loop [5, 6] (fun s ii => ∃ (t : Nat) (i : Int) (v : Int), ii = .int .i64 i /\ Hid (i = (t : Int) - 1) /\ t <= n /\ s = .int .i64 v /\ Hid (v = (shr4 X t : Nat)) /\ (p <= t ∨ t = n)) (fun _ ii => (intOf ii + 1).toNat)
 case atStart => exact ⟨n, _, _, rfl, rfl, Nat.le_refl _, rfl, (by show _ = _; rw [HZ.out n (Nat.le_refl _)]; rfl), .inr rfl⟩
 case round =>
   obtain ⟨t, i, v, rfl, HI, ht, rfl, HV, hpt⟩ := hrel
   by_cases hlt : p < t
   · obtain ⟨k, rfl⟩ : ∃ k, t = k + 1 := ⟨t - 1, by omega⟩
     obtain rfl : i = (k : Int) := by have := HI.out; omega
     obtain ⟨b, o, rfl, hb, hc⟩ := HA.out.2 (by omega)
     have hcell := hc k (by omega)
     have hdx := dg4_lt X k
     have hv1 := HB.out (k + 1) (by omega)
     have hv := HV.out
     have hv2 : 0 <= v /\ v <= 1000000000000 := by omega
     have hst := @from_step X k
     have HV2 : Hid (v * 10000 + (dg4 X k : Nat) = (shr4 X k : Nat)) := by
       show _ = _
       rw [hst, hv]; push_cast; rfl
     obtain ⟨x, hx⟩ : ∃ x, x = dg4 X k := ⟨_, rfl⟩
     rw [<- hx] at hcell hdx HV2
     have q1 : (0 : Int) <= (k : Int) := by omega
     have q2 : (k : Int) < (n : Int) := by omega
     have q3 : (p : Int) <= (k : Int) := by omega
     clear hc hx hv hv1 hst hpt
     go_wp2
     go_round
     case rel => exact ⟨k, _, _, rfl, rfl, by omega, rfl, HV2.out, by omega⟩
     case measure => simp [intOf]
   · have h1 : ¬ (p : Int) <= i := by have := HI.out; omega
     have hR : v = (shr4 X p : Nat) := by
       rw [HV.out]
       rcases Nat.lt_or_ge t p with h | h
       · rw [HZ.out t (by omega), HZ.out p (by omega)]
       · rw [show t = p by omega]
     have HR := Lib.hid hR
     clear hR hpt
     go_wp2
     go_ret
     exact ⟨by rw [<- HR.out]; rfl, rfl⟩
theorem wrap64_small {z : Int} (h : 0 <= z) (h2 : z < 4611686018427387904) : wrap64 z = z := by unfold wrap64; omega
def OutB (R T : Nat) (w : World) (e : Ending) (w' : World) : Prop := ∃ lo hi : Nat, e = .returned (.tuple #[.int .i64 (lo : Nat), .int .i64 (hi : Nat)]) /\ lo <= R / T /\ R / T <= hi /\ hi <= 10000 /\ ∃ k, w' = w.drewN k
theorem bnd_hi {R T P : Nat} (hP : 0 < P) (hT : 0 < T / P) : R / T <= R / P / (T / P) := by
 rw [Nat.le_div_iff_mul_le hT, Nat.le_div_iff_mul_le hP, Nat.mul_assoc]
 exact Nat.le_trans (Nat.mul_le_mul_left _ (Nat.div_mul_le_self T P)) (Nat.div_mul_le_self R T)
theorem bnd_lo {R T P : Nat} (hP : 0 < P) (hT : 0 < T) : R / P / (T / P + 1) <= R / T := by
 rw [Nat.le_div_iff_mul_le hT]
 have h1 : T <= (T / P + 1) * P := by have := Nat.div_add_mod T P; have := Nat.mod_lt T hP; rw [Nat.add_mul, Nat.mul_comm (T / P)]; omega
 have h2 : R / P / (T / P + 1) * ((T / P + 1) * P) <= R := by
   rw [<- Nat.mul_assoc]
   exact Nat.le_trans (Nat.mul_le_mul_right _ (Nat.div_mul_le_self _ _)) (Nat.div_mul_le_self R P)
 exact Nat.le_trans (Nat.mul_le_mul_left _ h1) h2
theorem bnd_most {r t : Nat} (ht : 10000 <= t) (hr : r < (t + 1) * 10000) : r / t <= 10000 := by
 have : r / t < 10001 := by
   rw [Nat.div_lt_iff_lt_mul (by omega)]; omega
 omega
theorem bnd_r {R T P : Nat} (hP : 0 < P) (h : R < T * 10000) : R / P < (T / P + 1) * 10000 := by
 rw [Nat.div_lt_iff_lt_mul hP]
 have h1 : T <= (T / P + 1) * P := by have := Nat.div_add_mod T P; have := Nat.mod_lt T hP; rw [Nat.add_mul, Nat.mul_comm (T / P)]; omega
 have h2 := Nat.mul_le_mul_right 10000 h1
 have h3 : (T / P + 1) * 10000 * P = (T / P + 1) * P * 10000 := Nat.mul_right_comm _ _ _
 rw [h3]
 exact Nat.lt_of_lt_of_le h h2
theorem glen_prod {R T : Nat} (h : R < T * 10000) : glen R <= glen T + 1 := glen_le.2 (by
 rw [Nat.pow_succ]
 exact Nat.lt_trans h (Nat.mul_lt_mul_of_pos_right (lt_glen T) (by omega)))
theorem pow_glen_le {T : Nat} (h : 0 < T) : 10000 ^ (glen T - 1) <= T := by
 rcases Nat.lt_or_ge T (10000 ^ (glen T - 1)) with h1 | h1
 · have := glen_le.2 h1; have := glen_pos h; omega
 · exact h1
set_option maxRecDepth 100000 in
set_option maxHeartbeats 1000000 in
theorem qbounds_any (A A' : Option Addr) (c c' R T : Nat) (w : World) (hA : Am w A (glen R) c R) (hB : Am w A' (glen T) c' T) (hR : glen R <= 1000) (hT : glen T <= 1000) (hT0 : 0 < T) (hRT : R < T * 10000) :
   Calls Tryz.prog 126 #[.slice A (glen R) c, .slice A' (glen T) c'] w (OutB R T w) := by
 obtain ⟨p, hp⟩ : ∃ p, p = glen T - 3 := ⟨_, rfl⟩
 have hg := glen_prod hRT
 have f1 := from_any A c R p w hA hR (by omega) (by omega)
 have f2 := from_any A' c' T p w hB hT (by omega) (by omega)
 have hPp : 0 < 10000 ^ p := Nat.pow_pos (by omega)
 have hr4 : R / 10000 ^ p < 10000000000000000 := by
   rw [Nat.div_lt_iff_lt_mul hPp, show (10000000000000000 : Nat) = 10000 ^ 4 from rfl, <- Nat.pow_add]
   exact glen_le.1 (by omega)
 have ht4 : T / 10000 ^ p < 10000000000000000 := by
   rw [Nat.div_lt_iff_lt_mul hPp, show (10000000000000000 : Nat) = 10000 ^ 4 from rfl, <- Nat.pow_add]
   exact glen_le.1 (by omega)
 have ht0 : 0 < T / 10000 ^ p := by
   refine Nat.div_pos (Nat.le_trans (Nat.pow_le_pow_right (by omega) ?_) (pow_glen_le hT0)) hPp
   omega
 have q0 : max (0 : Int) (((glen T : Nat) : Int) - 3) = (p : Int) := by omega
 have hlo := bnd_lo (R := R) hPp hT0
 have hhi := bnd_hi (R := R) hPp ht0
 have hbr := bnd_r hPp hRT
 have hmost : R / 10000 ^ p / (T / 10000 ^ p) <= 10000 ∨ p = 0 := by
   rcases Nat.eq_zero_or_pos p with h | h
   · exact .inr h
   · refine .inl (bnd_most ?_ hbr)
     rw [Nat.le_div_iff_mul_le hPp, Nat.mul_comm, <- Nat.pow_succ]
     exact Nat.le_trans (Nat.pow_le_pow_right (by omega) (by omega)) (pow_glen_le hT0)
 have h0 : p = 0 -> R / 10000 ^ p / (T / 10000 ^ p) = R / T := by intro e; rw [e]; simp
 have hq : R / T < 10000 := by rw [Nat.div_lt_iff_lt_mul hT0, Nat.mul_comm]; exact hRT
 obtain ⟨r, hr⟩ : ∃ r, r = shr4 R p := ⟨_, rfl⟩
 obtain ⟨t, ht⟩ : ∃ t, t = shr4 T p := ⟨_, rfl⟩
 rw [<- hr] at f1
 rw [<- ht] at f2
 change r = R / 10000 ^ p at hr
 change t = T / 10000 ^ p at ht
 rw [<- hr] at hr4 hlo hhi hmost h0
 rw [<- ht] at ht4 ht0 hlo hhi hmost h0
 have F1 := Lib.hid f1; have F2 := Lib.hid f2; have HP := Lib.hid hp; have HLO := Lib.hid hlo; have HHI := Lib.hid hhi; have HM := Lib.hid hmost; have H0 := Lib.hid h0; have HQ := Lib.hid hq
 have W1 : Hid (wrap64 ((r : Int) / (t : Int)) = ((r / t : Nat) : Int)) := by
   have h1 : ((r : Int) / (t : Int)) = ((r / t : Nat) : Int) := by push_cast; rfl
   have h2 := Nat.div_le_self r t
   show _ = _
   rw [h1]
   generalize r / t = z at h2 ⊢
   exact wrap64_small (by omega) (by omega)
 have W2 : Hid (wrap64 ((r : Int) / ((t : Int) + 1)) = ((r / (t + 1) : Nat) : Int)) := by
   have h1 : ((r : Int) / ((t : Int) + 1)) = ((r / (t + 1) : Nat) : Int) := by push_cast; rfl
   have h2 := Nat.div_le_self r (t + 1)
   show _ = _
   rw [h1]
   generalize r / (t + 1) = z at h2 ⊢
   exact wrap64_small (by omega) (by omega)
 have hn3 := HP.out
 clear f1 f2 hp hlo hhi hmost h0 hq hr ht hA hB hg hPp hbr hRT
 by_cases hp0 : p = 0
 · have HQ2 := Lib.hid (H0.out hp0)
   subst hp0
   have f1 := F1.out
   have f2 := F2.out
   rw [show ((0 : Nat) : Int) = 0 from rfl] at f1 f2
   clear F1 F2
   have F1 := Lib.hid f1; have F2 := Lib.hid f2
   clear f1 f2
   have e3 : ((glen T : Nat) : Int) - 3 <= 0 := by omega
   clear q0 hn3
   go_enter Tryz.func126, Tryz.ntmps126
   go_wp2_with (go_at_call 129; first | ((with_reducible refine F1.out.mono ?_); rintro e w2 ⟨rfl, rfl⟩) | ((with_reducible refine F2.out.mono ?_); rintro e w2 ⟨rfl, rfl⟩))
   go_quiet (fail)
   go_wp2
   go_ret2
   exact ⟨r / t, r / t, by rw [<- W1.out]; rfl, by rw [HQ2.out]; exact Nat.le_refl _, by rw [HQ2.out]; exact Nat.le_refl _, by rw [HQ2.out]; have := HQ.out; omega, _, rfl⟩
 · have e3 : (0 : Int) < ((glen T : Nat) : Int) - 3 := by omega
   have e4 : ((glen T : Nat) : Int) - 3 = (p : Int) := by omega
   have e5 : (p : Int) ≠ 0 := by omega
   have e6 : ((p : Int) == 0) = false := by rw [beq_eq_false_iff_ne]; exact e5
   have HH := Lib.hid (HM.out.resolve_right hp0)
   clear hp0 q0 hn3 e5
   rw [e4] at e3
   go_enter Tryz.func126, Tryz.ntmps126
   go_wp2_with (go_at_call 129; first | ((with_reducible refine F1.out.mono ?_); rintro e w2 ⟨rfl, rfl⟩) | ((with_reducible refine F2.out.mono ?_); rintro e w2 ⟨rfl, rfl⟩))
   go_quiet (fail)
   go_wp2
   go_ret2
   exact ⟨r / (t + 1), r / t, by rw [<- W1.out, <- W2.out]; rfl, HLO.out, HHI.out, HH.out, _, rfl⟩
end Go.Proofs.YtpjbihfkedbenaaGreat
